/- Words and laws for the statement, part 5. -/
import Derived.RangeFuncNested
import Derived.RangeFuncBound
import Derived.RangeFuncCalls
import Derived.RangeFuncLeaves
import Derived.RangeFuncKeeps
import Derived.RangeFuncFrom
import Derived.Shelf.Abstract
import Derived.Shelf.RegionOpen
import Derived.OwnWalkIn
import Derived.TacticsInMore
import Derived.LoopNIn
import Derived.LoopIn
import Derived.Test.YtcibjcgipfpniaaGreatDoorN04
namespace Go.Proofs.YtcibjcgipfpniaaGreatDoor
open Go.RowKit
set_option linter.unusedVariables false
set_option linter.unusedSimpArgs false

/-- How many bytes stand behind its length. -/
def Tr.inl:Tr→Nat
 | .mk _ body kids=>body.length+(Tr.encs kids).length
theorem Tr.enc_len:∀ t:Tr,t.enc.length=1+(lenB t.inl).length+t.inl
 | .mk _ body kids=>by rw [Tr.enc,Tr.inl];simp;omega
theorem Lt.val_eq (t:Lt):t.val = .agg #[.int .u8 (t.tag:Int),.slice t.ba t.body.length t.bc,.slice t.ka t.kids.length t.kc]:=rfl
set_option maxRecDepth 100000 in
set_option maxHeartbeats 4000000 in
theorem size_of (t:Lt) (w:World) (z:Nat) (hz:t.t.inl=z) (hmx:z≤400000) (h:∀ W,Below w.heap.size w W→Calls Tryz.prog 112 #[t.val] W fun e w'=>e = .returned (.int .i64 (z:Int))∧Below W.heap.size W w') :
  Calls Tryz.prog 110 #[t.val] w fun e w'=>e = .returned (.int .i64 (t.t.enc.length:Int))∧Below w.heap.size w w':=by
 have HE:Hid (t.t.enc.length=1+(lenB z).length+z):=Lib.hid (by rw [Tr.enc_len,hz])
 have HC:=Lib.hid h
 rw [Lt.val_eq] at HC ⊢
 clear h hz
 generalize t.tag=tag at *
 generalize t.ba=ba at *
 generalize t.bc=bc at *
 generalize t.body.length=bl at *
 generalize t.ka=ka at *
 generalize t.kids.length=n at *
 generalize t.kc=kc at *
 have hq0:Hid (Below w.heap.size w (w.alloc (.cells #[.int .u8 (tag:Int),.slice ba bl bc,.slice ka n kc] 32))):=Lib.hid ((Below.refl _ _).alloc (Nat.le_refl _) _)
 have hb0:Holds (w.alloc (.cells #[.int .u8 (tag:Int),.slice ba bl bc,.slice ka n kc] 32)) w.heap.size 32 #[.int .u8 (tag:Int),.slice ba bl bc,.slice ka n kc]:=Holds.fresh _ _ _
 have z0:(w.alloc (.cells #[.int .u8 (tag:Int),.slice ba bl bc,.slice ka n kc] 32)).cell? ⟨w.heap.size,0,none⟩=some (.int .u8 (tag:Int)):=hb0.cell 0
 have z1:(w.alloc (.cells #[.int .u8 (tag:Int),.slice ba bl bc,.slice ka n kc] 32)).cell? ⟨w.heap.size,1,none⟩=some (.slice ba bl bc):=hb0.cell 1
 have z2:(w.alloc (.cells #[.int .u8 (tag:Int),.slice ba bl bc,.slice ka n kc] 32)).cell? ⟨w.heap.size,2,none⟩=some (.slice ka n kc):=hb0.cell 2
 have hlb:=lenB_len z
 obtain ⟨y,hy⟩:∃ y,(lenB z).length=y:=⟨_,rfl⟩
 rw [hy] at HE hlb
 have HY:=Lib.hid hy
 have hw1:IntKind.i64.wrap (1+(y:Int))=1+(y:Int):=IntWalk.i64_in _ (by omega)
 have hw2:IntKind.i64.wrap (1+(y:Int)+(z:Int))=1+(y:Int)+(z:Int):=IntWalk.i64_in _ (by omega)
 clear hb0 hy
 go_enter Tryz.func110,Tryz.ntmps110
 go_wp2_with fail
 refine (HC.out _ hq0.out).mono ?_
 rintro e w2 ⟨rfl,hb2⟩
 have HQ2:=Lib.hid (hq0.out.trans (hb2.mono hq0.out.size))
 clear hb2 HC hq0 z0 z1 z2
 go_wp2_with fail
 refine (length_any w2 z (by omega)).mono ?_
 rintro e w3 ⟨A3,c3,rfl,hm3,hb3⟩
 have HQ3:=Lib.hid (HQ2.out.trans (hb3.mono HQ2.out.size))
 rw [HY.out]
 clear hb3 hm3 HQ2
 go_wp2_with fail
 go_ret
 exact ⟨ret_int (by rw [HE.out];push_cast;rfl),HQ3.out⟩

def RelI (w:World) (cs:Array Value) (bl:Nat) (l:List Tr) (n:Nat) (v i:Value) (wr:World):Prop :=
 ∃ k:Nat,k≤n∧i = .int .i64 k∧v = .int .i64 ((bl:Int)+((Tr.encs (l.take k)).length:Int))∧Hid (Below w.heap.size w wr)
set_option maxRecDepth 100000 in
set_option maxHeartbeats 4000000 in
theorem inner_N:∀ (N:Nat) (t:Lt) (w:World) (B:Nat),t.sz<N→TrAt w B t→B≤w.heap.size→t.t.inl≤400000 →
  Calls Tryz.prog 112 #[t.val] w fun e w'=>e = .returned (.int .i64 (t.t.inl:Int))∧Below w.heap.size w w':=by
 intro N
 induction N with
 | zero=>intro t w B h;omega
 | succ N ih =>
  intro t w B hN hr hB hmx
  obtain ⟨tag,ba,bc,body,ka,kc,kids⟩:=t
  rw [trAt_mk] at hr
  obtain ⟨_,_,_,hrow,hkids⟩:=hr
  rw [Lt.t_mk,Tr.inl] at hmx ⊢
  obtain ⟨n,hn⟩:∃ n,kids.length=n:=⟨_,rfl⟩
  obtain ⟨bl,hbl⟩:∃ n,body.length=n:=⟨_,rfl⟩
  obtain ⟨L,hL⟩:∃ L,kids.map Lt.t=L:=⟨_,rfl⟩
  have hLn:L.length=n:=by rw [←hL,List.length_map,hn]
  rw [hL,hbl] at hmx ⊢
  have HMX:=Lib.hid hmx
  have HLN:=Lib.hid hLn
  have hlc:n≤kc:=by have:=hrow.1;omega
  have hc63:=hrow.2.1
  have HROW:Hid (∀ W,Below w.heap.size w W→RowT W B ka kc kids):=Lib.hid fun W hW=>hrow.under (hW.mono hB)
  have HIH:Hid (∀ k,k<n→∀ W,Below w.heap.size w W→Calls Tryz.prog 110 #[(kids.getD k default).val] W fun e w'=>e = .returned (.int .i64 ((L.getD k default).enc.length:Int))∧Below W.heap.size W w'):=Lib.hid fun k hk W hW=>by
   have e:(L.getD k default)=(kids.getD k default).t:=by rw [←hL,Lt.ts_at (by omega)]
   have h1:=Tr.enc_kid (l:=L) (k:=k) (by omega)
   rw [e] at h1 ⊢
   have hin:(kids.getD k default).t.inl≤400000:=by rw [Tr.enc_len] at h1;omega
   refine size_of _ W _ rfl hin fun W' hW'=>?_
   have hWW:=hW.trans (hW'.mono hW.size)
   refine ih _ W' B ?_ ((hkids k (by omega)).under' (hWW.mono hB)) (by have:=hWW.size;omega) hin
   have:=lt_kid (tag:=tag) (ba:=ba) (bc:=bc) (body:=body) (ka:=ka) (kc:=kc) (kids:=kids) (j:=k) (by omega)
   omega
  have HN2:=Lib.hid hn
  have hval:(Lt.mk tag ba bc body ka kc kids).val = .agg #[.int .u8 (tag:Int),.slice ba bl bc,.slice ka n kc]:=by rw [←hn,←hbl];rfl
  rw [hval]
  have hb0:Holds (w.alloc (.cells #[.int .u8 (tag:Int),.slice ba bl bc,.slice ka n kc] 32)) w.heap.size 32 #[.int .u8 (tag:Int),.slice ba bl bc,.slice ka n kc]:=Holds.fresh _ _ _
  have hq0:Hid (Below w.heap.size w (w.alloc (.cells #[.int .u8 (tag:Int),.slice ba bl bc,.slice ka n kc] 32))):=Lib.hid ((Below.refl _ _).alloc (Nat.le_refl _) _)
  have z1:(w.alloc (.cells #[.int .u8 (tag:Int),.slice ba bl bc,.slice ka n kc] 32)).cell? ⟨w.heap.size,1,none⟩=some (.slice ba bl bc):=hb0.cell 1
  have z2:(w.alloc (.cells #[.int .u8 (tag:Int),.slice ba bl bc,.slice ka n kc] 32)).cell? ⟨w.heap.size,2,none⟩=some (.slice ka n kc):=hb0.cell 2
  clear hN ih hrow hkids hmx hLn hL hval hn hbl hb0
  go_enter Tryz.func112,Tryz.ntmps112
  go_wp2_with fail
  generalize w.alloc (.cells #[.int .u8 (tag:Int),.slice ba bl bc,.slice ka n kc] 32)=W at *
  clear z1 z2
  go_loopw [3,12] (fun v i wr=>RelI w #[] bl L n v i wr) (fun v i _=>n - (intOf i).toNat)
  case atStart=>exact ⟨0,Nat.zero_le _,rfl,by simp [Tr.encs],hq0⟩
  case round =>
   clear hq0
   obtain ⟨k,hk,rfl,rfl,HQ⟩:=hrel
   obtain ⟨V,hV⟩:∃ V,V=wr:=⟨_,rfl⟩
   subst hV
   by_cases hkn:k<n
   case pos =>
    have hkI:(k:Int)<(n:Int):=by omega
    have hk0:(0:Int)≤(k:Int):=by omega
    obtain ⟨b,off,rfl,hb,hcs⟩:=(HROW.out V HQ.out).2.2 (by have:=HN2.out;omega)
    obtain ⟨q0,q1,q2⟩:=hcs k (by have:=HN2.out;omega)
    have HC:Hid (∀ W,Below w.heap.size w W→Calls Tryz.prog 110 #[.agg #[.int .u8 ((kids.getD k default).tag:Int),.slice (kids.getD k default).ba (kids.getD k default).body.length (kids.getD k default).bc,.slice (kids.getD k default).ka (kids.getD k default).kids.length (kids.getD k default).kc]] W fun e w'=>e = .returned (.int .i64 ((L.getD k default).enc.length:Int))∧Below W.heap.size W w'):=Lib.hid fun W hW=>HIH.out k hkn W hW
    have HCM:Hid ((Tr.encs (L.take (k+1))).length=(Tr.encs (L.take k)).length+(L.getD k default).enc.length∧bl+(Tr.encs (L.take (k+1))).length≤400000):=Lib.hid (by
     have h1:=congrArg List.length (Tr.encs_more (l:=L) (k:=k) (by have:=HLN.out;omega))
     have h2:=Tr.encs_le L (k+1)
     rw [List.length_append] at h1
     have:=HMX.out
     omega)
    clear hcs
    generalize (kids.getD k default).tag=dt at *
    generalize (kids.getD k default).ba=dba at *
    generalize (kids.getD k default).bc=dbc at *
    generalize (kids.getD k default).body.length=dbl at *
    generalize (kids.getD k default).ka=dka at *
    generalize (kids.getD k default).kids.length=dkl at *
    generalize (kids.getD k default).kc=dkc at *
    generalize (L.getD k default).enc.length=y at *
    generalize hx0:(Tr.encs (L.take k)).length=x at *
    have HX0:=Lib.hid hx0
    clear hx0
    have hws:IntKind.i64.wrap ((bl:Int)+(x:Int)+(y:Int))=(bl:Int)+((x+y:Nat):Int):=by rw [IntWalk.i64_in _ (by have:=HCM.out;omega)];push_cast;omega
    have hb9:Holds (V.alloc (.cells #[.int .u8 (dt:Int),.slice dba dbl dbc,.slice dka dkl dkc] 32)) V.heap.size 32 #[.int .u8 (dt:Int),.slice dba dbl dbc,.slice dka dkl dkc]:=Holds.fresh _ _ _
    have hq9:Hid (Below w.heap.size w (V.alloc (.cells #[.int .u8 (dt:Int),.slice dba dbl dbc,.slice dka dkl dkc] 32))):=Lib.hid (HQ.out.alloc HQ.out.size _)
    have y0:(V.alloc (.cells #[.int .u8 (dt:Int),.slice dba dbl dbc,.slice dka dkl dkc] 32)).cell? ⟨V.heap.size,0,none⟩=some (.int .u8 (dt:Int)):=hb9.cell 0
    have y1:(V.alloc (.cells #[.int .u8 (dt:Int),.slice dba dbl dbc,.slice dka dkl dkc] 32)).cell? ⟨V.heap.size,1,none⟩=some (.slice dba dbl dbc):=hb9.cell 1
    have y2:(V.alloc (.cells #[.int .u8 (dt:Int),.slice dba dbl dbc,.slice dka dkl dkc] 32)).cell? ⟨V.heap.size,2,none⟩=some (.slice dka dkl dkc):=hb9.cell 2
    clear hb9
    go_wp2_with fail
    refine (HC.out _ hq9.out).mono ?_
    rintro e w2 ⟨rfl,hb2⟩
    have HQ2:Hid (Below w.heap.size w w2):=Lib.hid (hq9.out.trans (hb2.mono hq9.out.size))
    clear hb2 HC q0 q1 q2 y0 y1 y2 hq9
    go_wp2_with fail
    go_roundw
    case rel=>exact ⟨k+1,by omega,by go_num,by rw [HCM.out.1];push_cast;simp only [Int.add_assoc],HQ2⟩
    case measure=>simp [intOf];omega
   case neg =>
    obtain rfl:k=n:=by omega
    have hkI:¬ ((k:Int)<(k:Int)):=by omega
    have HE:Hid (Tr.encs (L.take k)=Tr.encs L):=Lib.hid (by rw [List.take_of_length_le (by have:=HLN.out;omega)])
    go_wp2_with fail
    go_ret
    exact ⟨ret_int (by rw [HE.out]),HQ.out⟩
theorem inner_any (t:Lt) (w:World) (B:Nat) (hr:TrAt w B t) (hB:B≤w.heap.size) (hmx:t.t.inl≤400000) :
  Calls Tryz.prog 112 #[t.val] w fun e w'=>e = .returned (.int .i64 (t.t.inl:Int))∧Below w.heap.size w w':=inner_N (t.sz+1) t w B (Nat.lt_succ_self _) hr hB hmx
theorem size_any (t:Lt) (w:World) (B:Nat) (hr:TrAt w B t) (hB:B≤w.heap.size) (hmx:t.t.inl≤400000) :
  Calls Tryz.prog 110 #[t.val] w fun e w'=>e = .returned (.int .i64 (t.t.enc.length:Int))∧Below w.heap.size w w' :=
 size_of t w _ rfl hmx fun W hW=>inner_any t W B (hr.under' (hW.mono hB)) (by have:=hW.size;omega) hmx
end Go.Proofs.YtcibjcgipfpniaaGreatDoor
namespace Go.Proofs.YtcibjcgipfpniaaGreatDoor
open Go.RowKit
set_option linter.unusedVariables false
set_option linter.unusedSimpArgs false

/-- Only the slice's own block has turned, and it lies where it lay or in a new one. -/
def Grew (w w':World) (A A':Option Addr):Prop:=w.grownBy w' (blk_of A)∧∀ g,blk_of A'=some g→blk_of A=some g∨w.heap.size≤g
theorem Grew.refl (w:World) (A:Option Addr):Grew w w A A:=⟨World.grownBy.refl w _,fun g hg=>.inl hg⟩
theorem Grew.trans {w w1 w2:World} {A A1 A2:Option Addr} (h:Grew w w1 A A1) (h':Grew w1 w2 A1 A2):Grew w w2 A A2 :=
 ⟨⟨h'.1.os.trans h.1.os,h'.1.tape.trans h.1.tape,h'.1.output.trans h.1.output,Nat.le_trans h.1.size h'.1.size,fun k hk hne=>(h'.1.block k (Nat.lt_of_lt_of_le hk h.1.size) (fun e=>by
  rcases h.2 k e.symm with h1 | h1
  ·exact hne h1.symm
  ·omega)).trans (h.1.block k hk hne)⟩,fun g hg=>by
  rcases h'.2 g hg with h1 | h1
  ·exact h.2 g h1
  ·exact .inr (Nat.le_trans h.1.size h1)⟩
theorem Grew.of_below {w w':World} {A:Option Addr} (h:Below w.heap.size w w'):Grew w w' A A:=⟨⟨h.os,h.tape,h.output,h.size,fun k hk _=>h.block k hk⟩,fun g hg=>.inl hg⟩
theorem Grew.of_mine {w w':World} {A A':Option Addr} (h:w.grownBy w' (blk_of A)) (hat:blk_of A'=blk_of A∨blk_of A'=some w.heap.size):Grew w w' A A' :=
 ⟨h,fun g hg=>hat.elim (fun e=>.inl (e ▸ hg)) fun e=>.inr (by rw [e] at hg;injection hg with hg;omega)⟩
theorem Grew.below {w w':World} {A A':Option Addr} {B0:Nat} (h:Grew w w' A A') (hB:B0≤w.heap.size) (hA:∀ g,blk_of A=some g→B0≤g):Below B0 w w':=below_blk h.1 hB hA
theorem Grew.holds {w w':World} {A A':Option Addr} {g:Nat} {t:TypeId} {cs:Array Value} (h:Grew w w' A A') (hh:Holds w g t cs) (hne:blk_of A≠some g):Holds w' g t cs:=hh.grown h.1 (fun e=>hne e.symm)
theorem Grew.apart {w w':World} {A A':Option Addr} {g:Nat} (h:Grew w w' A A') (hg:g<w.heap.size) (hne:blk_of A≠some g):blk_of A'≠some g:=fun e=>by
 rcases h.2 g e with h1 | h1
 ·exact hne h1
 ·omega

def RelU (w:World) (B0:Nat) (cs:Array Value) (A:Option Addr) (p:List Nat) (l:List Tr) (n:Nat) (v i:Value) (wr:World):Prop :=
 ∃ (k:Nat) (A':Option Addr) (c' m:Nat),k≤n∧i = .int .i64 k∧v = .slice A' m c'∧Hid ((p ++ Tr.encs (l.take k)).length=m)∧Hid (Mine 5 wr B0 A' c' (p ++ Tr.encs (l.take k)))∧Hid (Grew w wr A A')∧Hid (Holds wr w.heap.size 32 cs)∧Hid (blk_of A'≠some w.heap.size)
set_option maxRecDepth 100000 in
set_option maxHeartbeats 4000000 in
theorem put_N:∀ (N:Nat) (t:Lt) (w:World) (B B0:Nat) (A:Option Addr) (c n0:Nat) (p:List Nat),t.sz<N→TrAt w B t→B≤B0→B0≤w.heap.size→Mine 5 w B0 A c p→p.length=n0→n0+t.t.enc.length≤400000 →
  Calls Tryz.prog 76 #[.slice A n0 c,t.val] w fun e w'=>∃ A' c',e = .returned (.slice A' (n0+t.t.enc.length) c')∧Mine 5 w' B0 A' c' (p ++ t.t.enc)∧Grew w w' A A':=by
 intro N
 induction N with
 | zero=>intro t w B B0 A c n0 p h;omega
 | succ N ih =>
  intro t w B B0 A c n0 p hN hr hBB hB hm hp hmx
  have hr0:=hr
  obtain ⟨tag,ba,bc,body,ka,kc,kids⟩:=t
  rw [trAt_mk] at hr
  obtain ⟨_,hbody,_,hrow,hkids⟩:=hr
  have hINN:∀ W,Below B0 w W→Calls Tryz.prog 112 #[(Lt.mk tag ba bc body ka kc kids).val] W fun e w'=>e = .returned (.int .i64 ((Lt.mk tag ba bc body ka kc kids).t.inl:Int))∧Below W.heap.size W w':=fun W hW=>inner_any _ W B (hr0.under' (hW.mono hBB)) (by have:=hW.size;omega) (by rw [Tr.enc_len] at hmx;omega)
  rw [Lt.t_mk] at hmx hINN ⊢
  obtain ⟨n,hn⟩:∃ n,kids.length=n:=⟨_,rfl⟩
  obtain ⟨bl,hbl⟩:∃ n,body.length=n:=⟨_,rfl⟩
  obtain ⟨L,hL⟩:∃ L,kids.map Lt.t=L:=⟨_,rfl⟩
  have hLn:L.length=n:=by rw [←hL,List.length_map,hn]
  rw [hL] at hmx hINN ⊢
  obtain ⟨z,hz⟩:∃ z,(Tr.mk tag body L).inl=z:=⟨_,rfl⟩
  have hzz:z=bl+(Tr.encs L).length:=by rw [←hz,Tr.inl,hbl]
  have henl:=Tr.enc_len (Tr.mk tag body L)
  rw [hz] at henl hINN
  have HENC:Hid (p ++ (Tr.mk tag body L).enc=p ++ [tag] ++ lenB z ++ body ++ Tr.encs L):=Lib.hid (by rw [Tr.enc,hbl,←hzz];simp)
  have HLN:=Lib.hid hLn
  have hlc:n≤kc:=by have:=hrow.1;omega
  have hc63:=hrow.2.1
  have hblc:bl≤bc:=by have:=hbody.1;omega
  have hbc63:=hbody.2.1
  have HROW:Hid (∀ W,Below B0 w W→RowT W B ka kc kids):=Lib.hid fun W hW=>hrow.under (hW.mono hBB)
  have HBODY:Hid (∀ W,Below B0 w W→Rd .u8 W B ba bc body):=Lib.hid fun W hW=>hbody.under (hW.mono hBB)
  have HIH:Hid (∀ k,k<n→∀ W,Below B0 w W→∀ (A:Option Addr) (c m:Nat) (q:List Nat),Mine 5 W B0 A c q→q.length=m→m+(L.getD k default).enc.length≤400000→Calls Tryz.prog 76 #[.slice A m c,(kids.getD k default).val] W fun e w'=>∃ A' c',e = .returned (.slice A' (m+(L.getD k default).enc.length) c')∧Mine 5 w' B0 A' c' (q ++ (L.getD k default).enc)∧Grew W w' A A'):=Lib.hid fun k hk W hW A c m q hq hql hqm=>by
   have e:(L.getD k default)=(kids.getD k default).t:=by rw [←hL,Lt.ts_at (by omega)]
   rw [e] at hqm ⊢
   refine ih _ W B B0 A c m q ?_ ((hkids k (by omega)).under' (hW.mono hBB)) hBB (by have:=hW.size;omega) hq hql hqm
   have:=lt_kid (tag:=tag) (ba:=ba) (bc:=bc) (body:=body) (ka:=ka) (kc:=kc) (kids:=kids) (j:=k) (by omega)
   omega
  have HN2:=Lib.hid hn
  have HBL:=Lib.hid hbl
  have HZZ:=Lib.hid hzz
  have HP:=Lib.hid hp
  have HINN:=Lib.hid hINN
  have hll:=lenB_len z
  obtain ⟨y,hy⟩:∃ y,lenB z=y:=⟨_,rfl⟩
  obtain ⟨yl,hyl⟩:∃ n,y.length=n:=⟨_,rfl⟩
  rw [hy] at hll henl HENC
  rw [hyl] at hll henl
  have HY:=Lib.hid hy
  have HYL:=Lib.hid hyl
  rw [henl] at hmx ⊢
  have hval:(Lt.mk tag ba bc body ka kc kids).val = .agg #[.int .u8 (tag:Int),.slice ba bl bc,.slice ka n kc]:=by rw [←hn,←hbl];rfl
  rw [hval] at HINN ⊢
  have hblz:bl≤z:=by omega
  have hAne:blk_of A≠some w.heap.size:=fun e=>by have:=(hm.block e).2;omega
    -- the box
  obtain ⟨W1,hW1⟩:∃ W1,w.alloc (.cells #[.int .u8 (tag:Int),.slice ba bl bc,.slice ka n kc] 32)=W1:=⟨_,rfl⟩
  have hq1:Below w.heap.size w W1:=by rw [←hW1];exact (Below.refl _ _).alloc (Nat.le_refl _) _
  have hb1:Holds W1 w.heap.size 32 #[.int .u8 (tag:Int),.slice ba bl bc,.slice ka n kc]:=by rw [←hW1];exact Holds.fresh _ _ _
  have hm1:Mine 5 W1 B0 A c p:=hm.under hq1
  have hs1:W1.heap.size=w.heap.size+1:=by rw [←hW1];exact World.size_alloc _ _
  have HX1:Hid (Mine 5 (W1.alloc (.cells #[.int .u8 (tag:Int)] 5)) B0 A c p):=Lib.hid (hm1.alloc _)
  have HX2:Hid (Rd .u8 (W1.alloc (.cells #[.int .u8 (tag:Int)] 5)) (W1.alloc (.cells #[.int .u8 (tag:Int)] 5)).heap.size (some ⟨w.heap.size+1,0,none⟩) 1 [tag]):=Lib.hid (by rw [←hs1];exact (Mine.fresh1 W1 B0 tag (Nat.le_trans hB hq1.size)).rd)
  have HX3:Hid (Below w.heap.size w (W1.alloc (.cells #[.int .u8 (tag:Int)] 5))):=Lib.hid (hq1.alloc hq1.size _)
  have HX4:Hid (Holds (W1.alloc (.cells #[.int .u8 (tag:Int)] 5)) w.heap.size 32 #[.int .u8 (tag:Int),.slice ba bl bc,.slice ka n kc]):=Lib.hid (hb1.alloc _)
  have HBW:Hid (B0≤(W1.alloc (.cells #[.int .u8 (tag:Int)] 5)).heap.size):=Lib.hid (Nat.le_trans hB HX3.out.size)
  have z0:W1.cell? ⟨w.heap.size,0,none⟩=some (.int .u8 (tag:Int)):=hb1.cell 0
  have HAB:Hid (∀ g,blk_of A=some g→B0≤g):=Lib.hid fun g hg=>(hm.block hg).1
  rw [←hW1] at HX1 HX2 HX3 HX4 HBW z0 hs1
  have HANE:=Lib.hid hAne
  have HF:Hid (∀ w2,(W1.alloc (.cells #[.int .u8 (tag:Int)] 5)).grownBy w2 (blk_of A)→w2.cell? ⟨w.heap.size,0,none⟩=some (.int .u8 (tag:Int))∧w2.cell? ⟨w.heap.size,1,none⟩=some (.slice ba bl bc)∧w2.cell? ⟨w.heap.size,2,none⟩=some (.slice ka n kc)):=Lib.hid fun w2 hg=>by
   have h:=(hb1.alloc (.cells #[.int .u8 (tag:Int)] 5)).grown hg (fun e=>hAne e.symm)
   exact ⟨h.cell 0,h.cell 1,h.cell 2⟩
  rw [←hW1] at HF
  clear hN ih hrow hkids hLn hL hn hbl hbody hq1 hb1 hm1 hW1 hval hINN hr0 hm hp hzz henl hy hyl hz hAne
  go_enter Tryz.func76,Tryz.ntmps76
  go_wp2_with (first | (at_builtin;refine wpList_mine (B:=B0) _ rfl (.tmp 7) (.tmp 10) 24 rfl 5 Tryz.underlying24 info_u8 rfl HX1.out HP.out rfl HX2.out rfl HBW.out (by omega) ?_;intro A2 c2 w2 hm2 hg2 hat2;obtain ⟨y0,y1,y2⟩:=HF.out _ hg2))
  have HG2:Hid (Grew w w2 A A2):=Lib.hid ((Grew.of_below HX3.out).trans (Grew.of_mine hg2 hat2))
  have HM2:=Lib.hid hm2
  have HH2:Hid (Holds w2 w.heap.size 32 #[.int .u8 (tag:Int),.slice ba bl bc,.slice ka n kc]):=Lib.hid (HX4.out.grown hg2 (fun e=>HANE.out e.symm))
  have hQ2:=HG2.out.below hB HAB.out
  have hp2:(p ++ [tag]).length=n0+1:=by rw [List.length_append,HP.out];rfl
  have HP2:=Lib.hid hp2
  have HN2':Hid (blk_of A2≠some w.heap.size):=Lib.hid fun e=>by
   rcases hat2 with h | h
   ·exact HANE.out (h ▸ e)
   ·rw [e] at h;injection h with h;simp at h;omega
  clear hm2 hg2 hat2 HX1 HX2 HX3 HX4 HBW z0 HF hp2
  refine (HINN.out _ hQ2).mono ?_
  rintro e w3 ⟨rfl,hb3⟩
  have HG3:Hid (Grew w w3 A A2):=Lib.hid (HG2.out.trans (Grew.of_below hb3))
  have HM3:Hid (Mine 5 w3 B0 A2 c2 (p ++ [tag])):=Lib.hid (HM2.out.under hb3)
  have HH3:Hid (Holds w3 w.heap.size 32 #[.int .u8 (tag:Int),.slice ba bl bc,.slice ka n kc]):=Lib.hid (HH2.out.under hb3 HH2.out.lt)
  clear hb3 HG2 HM2 HH2 y0 y1 y2 HINN hQ2
  go_wp2_with fail
  refine (length_any w3 z (by omega)).mono ?_
  rintro e w4 ⟨A4,c4,rfl,hm4,hb4⟩
  have HG4:Hid (Grew w w4 A A2):=Lib.hid (HG3.out.trans (Grew.of_below hb4))
  have HM4:Hid (Mine 5 w4 B0 A2 c2 (p ++ [tag])):=Lib.hid (HM3.out.under hb4)
  have HH4:Hid (Holds w4 w.heap.size 32 #[.int .u8 (tag:Int),.slice ba bl bc,.slice ka n kc]):=Lib.hid (HH3.out.under hb4 HH3.out.lt)
  have HR4:Hid (Rd .u8 w4 w4.heap.size A4 c4 y):=Lib.hid (by have:=hm4.rd;rw [HY.out] at this;exact this)
  have HBW4:Hid (B0≤w4.heap.size):=Lib.hid (Nat.le_trans hB HG4.out.1.size)
  rw [HY.out,HYL.out]
  have HF4:Hid (∀ w2,w4.grownBy w2 (blk_of A2)→w2.cell? ⟨w.heap.size,0,none⟩=some (.int .u8 (tag:Int))∧w2.cell? ⟨w.heap.size,1,none⟩=some (.slice ba bl bc)∧w2.cell? ⟨w.heap.size,2,none⟩=some (.slice ka n kc)):=Lib.hid fun w2 hg=>by
   have h:=HH4.out.grown hg (fun e=>HN2'.out e.symm)
   exact ⟨h.cell 0,h.cell 1,h.cell 2⟩
  clear hm4 hb4 HG3 HM3 HH3
  have HP4:Hid ((p ++ [tag] ++ y).length=n0+1+yl):=Lib.hid (by rw [List.length_append,HP2.out,HYL.out])
  have HB5:Hid (∀ A5 w5,w4.grownBy w5 (blk_of A2)→(blk_of A5=blk_of A2∨blk_of A5=some w4.heap.size)→Grew w w5 A A5∧Rd .u8 w5 B ba bc body∧B0≤w5.heap.size):=Lib.hid fun A5 w5 hg hat=>by
   have h1:=HG4.out.trans (Grew.of_mine hg hat)
   exact ⟨h1,HBODY.out _ (h1.below hB HAB.out),Nat.le_trans hB h1.1.size⟩
  have HF5:Hid (∀ A5 w5,w4.grownBy w5 (blk_of A2)→(blk_of A5=blk_of A2∨blk_of A5=some w4.heap.size)→Holds w5 w.heap.size 32 #[.int .u8 (tag:Int),.slice ba bl bc,.slice ka n kc]∧blk_of A5≠some w.heap.size):=Lib.hid fun A5 w5 hg hat=>by
   refine ⟨HH4.out.grown hg (fun e=>HN2'.out e.symm),fun e=>?_⟩
   rcases hat with h | h
   ·exact HN2'.out (h ▸ e)
   ·rw [e] at h;injection h with h;have:=HH4.out.lt;omega
  have HF6:Hid (∀ A5 w5,w4.grownBy w5 (blk_of A2)→(blk_of A5=blk_of A2∨blk_of A5=some w4.heap.size)→∀ w6,w5.grownBy w6 (blk_of A5)→w6.cell? ⟨w.heap.size,2,none⟩=some (.slice ka n kc)):=Lib.hid fun A5 w5 hg hat w6 hg6=>((HF5.out A5 w5 hg hat).1.grown hg6 (fun e=>(HF5.out A5 w5 hg hat).2 e.symm)).cell 2
  go_wp2_with (first
   | (at_builtin;refine wpList_mine (B:=B0) _ rfl (.tmp 12) (.tmp 15) 24 rfl 5 Tryz.underlying24 info_u8 rfl HM4.out HP2.out rfl HR4.out HYL.out HBW4.out (by omega) ?_;intro A5 c5 w5 hm5 hg5 hat5;obtain ⟨y0,y1,y2⟩:=HF4.out _ hg5)
   | (at_builtin;refine wpList_mine (B:=B0) _ rfl (.tmp 17) (.tmp 19) 24 rfl 5 Tryz.underlying24 info_u8 rfl hm5 HP4.out rfl (HB5.out _ _ hg5 hat5).2.1 HBL.out (HB5.out _ _ hg5 hat5).2.2 (by omega) ?_;intro A6 c6 w6 hm6 hg6 hat6;have x2:=HF6.out _ _ hg5 hat5 _ hg6)
   | fail)
  obtain ⟨hh5,hn5⟩:=HF5.out _ _ hg5 hat5
  have hG5:=(HB5.out _ _ hg5 hat5).1
  have HG6:Hid (Grew w w6 A A6):=Lib.hid (hG5.trans (Grew.of_mine hg6 hat6))
  have HH6:Hid (Holds w6 w.heap.size 32 #[.int .u8 (tag:Int),.slice ba bl bc,.slice ka n kc]):=Lib.hid (hh5.grown hg6 (fun e=>hn5 e.symm))
  have HN6:Hid (blk_of A6≠some w.heap.size):=Lib.hid ((Grew.of_mine hg6 hat6).apart hh5.lt hn5)
  have HM6:=Lib.hid hm6
  have HQL:Hid ((p ++ [tag] ++ y ++ body).length=n0+1+yl+bl):=Lib.hid (by rw [List.length_append,HP4.out,HBL.out])
  clear hm6 hg6 hat6 hh5 hn5 hG5 hm5 hg5 hat5 y0 y1 y2 x2 HF4 HF5 HF6 HB5 HG4 HM4 HH4 HR4 HBW4 HP4 HP2
  go_loopw [0,24] (fun v i wr=>RelU w B0 #[.int .u8 (tag:Int),.slice ba bl bc,.slice ka n kc] A (p ++ [tag] ++ y ++ body) L n v i wr) (fun v i _=>n - (intOf i).toNat)
  case atStart=>exact ⟨0,_,_,_,Nat.zero_le _,rfl,rfl,Lib.hid (by simpa [Tr.encs] using HQL.out),Lib.hid (by simpa [Tr.encs] using HM6.out),HG6,HH6,HN6⟩
  case round =>
   clear HM6 HG6 HH6 HN6
   obtain ⟨k,A',c',m,hk,rfl,rfl,HL,HM,HG,HB,HN⟩:=hrel
   obtain ⟨V,hV⟩:∃ V,V=wr:=⟨_,rfl⟩
   subst hV
   have hBV:Below B0 w V:=HG.out.below hB HAB.out
   by_cases hkn:k<n
   case pos =>
    have hkI:(k:Int)<(n:Int):=by omega
    have hk0:(0:Int)≤(k:Int):=by omega
    obtain ⟨b,off,rfl,hb,hcs⟩:=(HROW.out V hBV).2.2 (by have:=HN2.out;omega)
    obtain ⟨q0,q1,q2⟩:=hcs k (by have:=HN2.out;omega)
    have HEM:Hid (p ++ [tag] ++ y ++ body ++ Tr.encs (L.take (k+1))=p ++ [tag] ++ y ++ body ++ Tr.encs (L.take k) ++ (L.getD k default).enc∧m+(L.getD k default).enc.length≤400000):=Lib.hid (by
     have h1:=Tr.encs_more (l:=L) (k:=k) (by have:=HLN.out;omega)
     have h2:=Tr.encs_le L (k+1)
     have h3:=HL.out
     have h4:=HQL.out
     have h5:=HZZ.out
     refine ⟨by rw [h1,List.append_assoc (p ++ [tag] ++ y ++ body)],?_⟩
     rw [h1,List.length_append] at h2
     rw [List.length_append,h4] at h3
     omega)
    have hVA:Below w.heap.size V (V.alloc (.cells #[.int .u8 ((kids.getD k default).tag:Int),.slice (kids.getD k default).ba (kids.getD k default).body.length (kids.getD k default).bc,.slice (kids.getD k default).ka (kids.getD k default).kids.length (kids.getD k default).kc] 32)):=(Below.refl _ _).alloc HG.out.1.size _
    have HC:Hid (Calls Tryz.prog 76 #[.slice A' m c',.agg #[.int .u8 ((kids.getD k default).tag:Int),.slice (kids.getD k default).ba (kids.getD k default).body.length (kids.getD k default).bc,.slice (kids.getD k default).ka (kids.getD k default).kids.length (kids.getD k default).kc]] (V.alloc (.cells #[.int .u8 ((kids.getD k default).tag:Int),.slice (kids.getD k default).ba (kids.getD k default).body.length (kids.getD k default).bc,.slice (kids.getD k default).ka (kids.getD k default).kids.length (kids.getD k default).kc] 32)) fun e w'=>∃ A'' c'',e = .returned (.slice A'' (m+(L.getD k default).enc.length) c'')∧Mine 5 w' B0 A'' c'' (p ++ [tag] ++ y ++ body ++ Tr.encs (L.take (k+1)))∧Grew V w' A' A''):=Lib.hid (by
     have h:=HIH.out k hkn _ (hBV.trans (hVA.mono hB)) A' c' m _ (HM.out.alloc _) HL.out HEM.out.2
     rw [Lt.val_eq,←HEM.out.1] at h
     exact h.mono fun _ _ ⟨A'',c'',h1,h2,h3⟩=>⟨A'',c'',h1,h2,(Grew.of_below ((Below.refl _ _).alloc (Nat.le_refl _) _)).trans h3⟩)
    clear hcs hVA
    generalize (kids.getD k default).tag=dt at *
    generalize (kids.getD k default).ba=dba at *
    generalize (kids.getD k default).bc=dbc at *
    generalize (kids.getD k default).body.length=dbl at *
    generalize (kids.getD k default).ka=dka at *
    generalize (kids.getD k default).kids.length=dkl at *
    generalize (kids.getD k default).kc=dkc at *
    obtain ⟨x,hx⟩:∃ x,(L.getD k default).enc.length=x:=⟨_,rfl⟩
    have HXE:Hid ((p ++ [tag] ++ y ++ body ++ Tr.encs (L.take (k+1))).length=m+x):=Lib.hid (by rw [HEM.out.1,List.length_append,HL.out,hx])
    rw [hx] at HC
    have hb9:Holds (V.alloc (.cells #[.int .u8 (dt:Int),.slice dba dbl dbc,.slice dka dkl dkc] 32)) V.heap.size 32 #[.int .u8 (dt:Int),.slice dba dbl dbc,.slice dka dkl dkc]:=Holds.fresh _ _ _
    have y0:(V.alloc (.cells #[.int .u8 (dt:Int),.slice dba dbl dbc,.slice dka dkl dkc] 32)).cell? ⟨V.heap.size,0,none⟩=some (.int .u8 (dt:Int)):=hb9.cell 0
    have y1:(V.alloc (.cells #[.int .u8 (dt:Int),.slice dba dbl dbc,.slice dka dkl dkc] 32)).cell? ⟨V.heap.size,1,none⟩=some (.slice dba dbl dbc):=hb9.cell 1
    have y2:(V.alloc (.cells #[.int .u8 (dt:Int),.slice dba dbl dbc,.slice dka dkl dkc] 32)).cell? ⟨V.heap.size,2,none⟩=some (.slice dka dkl dkc):=hb9.cell 2
    clear hb9 hx HEM
    go_wp2_with fail
    refine HC.out.mono ?_
    rintro e w7 ⟨A7,c7,rfl,hm7,hg7⟩
    have HG7:Hid (Grew w w7 A A7):=Lib.hid (HG.out.trans hg7)
    have HH7:Hid (Holds w7 w.heap.size 32 #[.int .u8 (tag:Int),.slice ba bl bc,.slice (some ⟨b,off,none⟩) n kc]):=Lib.hid (hg7.holds HB.out HN.out)
    have HN7:Hid (blk_of A7≠some w.heap.size):=Lib.hid (hg7.apart HB.out.lt HN.out)
    have HM7:=Lib.hid hm7
    clear hm7 hg7 HC q0 q1 q2 y0 y1 y2
    go_wp2_with fail
    go_roundw
    case rel=>exact ⟨k+1,_,_,m+x,by omega,by go_num,rfl,HXE,HM7,HG7,HH7,HN7⟩
    case measure=>simp [intOf];omega
   case neg =>
    obtain rfl:k=n:=by omega
    have hkI:¬ ((k:Int)<(k:Int)):=by omega
    have HE:Hid (Tr.encs (L.take k)=Tr.encs L):=Lib.hid (by rw [List.take_of_length_le (by have:=HLN.out;omega)])
    have HM2:Hid (Mine 5 V B0 A' c' (p ++ (Tr.mk tag body L).enc)):=Lib.hid (by have:=HM.out;rw [HE.out,←HENC.out] at this;exact this)
    have HML:Hid (m=n0+(1+yl+z)):=Lib.hid (by
     have h1:=HL.out
     rw [HE.out,List.length_append,HQL.out] at h1
     have:=HZZ.out
     omega)
    go_wp2_with fail
    go_ret
    exact ⟨_,_,by rw [←HML.out];rfl,HM2.out,HG.out⟩
theorem put_any (t:Lt) (w:World) (B:Nat) (hr:TrAt w B t) (hB:B≤w.heap.size) (hmx:t.t.enc.length≤400000) :
  Calls Tryz.prog 76 #[.slice none 0 0,t.val] w fun e w'=>∃ A c,e = .returned (.slice A t.t.enc.length c)∧Mine 5 w' w.heap.size A c t.t.enc∧Below w.heap.size w w' :=
 (put_N (t.sz+1) t w B w.heap.size none 0 0 [] (Nat.lt_succ_self _) hr hB (Nat.le_refl _) (Mine.nil _ _ _) rfl (by omega)).mono fun _ _ ⟨A,c,h1,h2,h3⟩=>⟨A,c,by rw [h1,Nat.zero_add],by simpa using h2,h3.below (Nat.le_refl _) (fun g hg=>by simp [blk_of] at hg)⟩
end Go.Proofs.YtcibjcgipfpniaaGreatDoor
namespace Go.Proofs.YtcibjcgipfpniaaGreatDoor
open Go.RowKit
set_option linter.unusedVariables false
set_option linter.unusedSimpArgs false

def tagOk (x:Nat):Bool:=x != 0 && x % 32 != 31
def parted (x:Nat):Bool:=x / 32 % 2 == 1
theorem tag_all:∀ x:Fin 256,(((x.val:Nat):Int) != 0 && ((x.val:Nat):Int) % 32 != 31)=tagOk x.val:=by decide +kernel
theorem part_all:∀ x:Fin 256,(Go.bits BinOp.and IntKind.u8 ((x.val:Nat):Int) 32 != 0)=parted x.val:=by decide +kernel
theorem tagged_is (x:Nat) (hx:x<256):(((x:Nat):Int) != 0 && ((x:Nat):Int) % 32 != 31)=tagOk x:=tag_all ⟨x,hx⟩
theorem parted_is (x:Nat) (hx:x<256):(Go.bits BinOp.and IntKind.u8 ((x:Nat):Int) 32 != 0)=parted x:=part_all ⟨x,hx⟩
set_option maxRecDepth 100000 in
theorem tagged_any (w:World) (x:Nat) (hx:x<256) :
  Calls Tryz.prog 108 #[.int .u8 (x:Int)] w fun e w'=>e = .returned (.bool (tagOk x))∧w=w':=by
 have ht:=Lib.hid (tagged_is x hx)
 by_cases h0:x=0
 ·subst h0
  have hT:Hid (tagOk 0=false):=Lib.hid rfl
  clear ht
  go_enter Tryz.func108,Tryz.ntmps108
  go_wp2_with fail
  go_ret
  exact ⟨ret_bool (by rw [hT.out]),rfl⟩
 ·have hne:((x:Int) != 0)=true:=by rw [bne_iff_ne];omega
  have hT:Hid (((x:Int) % 32 != 31)=tagOk x):=Lib.hid (by have:=ht.out;rw [hne,Bool.true_and] at this;exact this)
  clear ht
  go_enter Tryz.func108,Tryz.ntmps108
  go_wp2_with fail
  go_ret
  exact ⟨ret_bool hT.out,rfl⟩
set_option maxRecDepth 100000 in
theorem constructed_any (w:World) (x:Nat) (hx:x<256) :
  Calls Tryz.prog 109 #[.int .u8 (x:Int)] w fun e w'=>e = .returned (.bool (parted x))∧w=w':=by
 have ht:=Lib.hid (parted_is x hx)
 go_enter Tryz.func109,Tryz.ntmps109
 go_wp2_with fail
 go_ret
 exact ⟨ret_bool ht.out,rfl⟩
set_option maxRecDepth 100000 in
theorem tag'_any (w:World) (x:Nat) (hx:x<256) :
  Calls Tryz.prog 96 #[.int .u8 (x:Int)] w fun e w'=>e = .returned (.bool (tagOk x))∧w=w':=by
 have ht:=Lib.hid (tagged_is x hx)
 by_cases h0:x=0
 ·subst h0
  have hT:Hid (tagOk 0=false):=Lib.hid rfl
  clear ht
  go_enter Tryz.func96,Tryz.ntmps96
  go_wp2_with fail
  go_ret
  exact ⟨ret_bool (by rw [hT.out]),rfl⟩
 ·have hne:((x:Int) != 0)=true:=by rw [bne_iff_ne];omega
  have hT:Hid (((x:Int) % 32 != 31)=tagOk x):=Lib.hid (by have:=ht.out;rw [hne,Bool.true_and] at this;exact this)
  clear ht
  go_enter Tryz.func96,Tryz.ntmps96
  go_wp2_with fail
  go_ret
  exact ⟨ret_bool hT.out,rfl⟩
set_option maxRecDepth 100000 in
theorem parted'_any (w:World) (x:Nat) (hx:x<256) :
  Calls Tryz.prog 98 #[.int .u8 (x:Int)] w fun e w'=>e = .returned (.bool (parted x))∧w=w':=by
 have ht:=Lib.hid (parted_is x hx)
 go_enter Tryz.func98,Tryz.ntmps98
 go_wp2_with fail
 go_ret
 exact ⟨ret_bool ht.out,rfl⟩
end Go.Proofs.YtcibjcgipfpniaaGreatDoor
namespace Go.Proofs.YtcibjcgipfpniaaGreatDoor
open Go.RowKit
set_option linter.unusedVariables false
set_option linter.unusedSimpArgs false

/-- Its own tag and parts are such. -/
def ok1 (tag bl n:Nat):Bool:=tagOk tag && !(parted tag && decide (0<bl)) && !(!parted tag && decide (0<n))
mutual
def Tr.sound:Tr→Nat→Bool
 | .mk tag body kids,d=>ok1 tag body.length kids.length && decide (d≤12) && Tr.sounds kids (d+1)
def Tr.sounds:List Tr→Nat→Bool
 | [],_=>true
 | x :: r,d=>x.sound d && Tr.sounds r d
end
theorem Tr.sounds_iff:∀ {l:List Tr} {d:Nat},Tr.sounds l d=true↔∀ j,j<l.length→(l.getD j default).sound d=true
 | [],d=>by simp [Tr.sounds]
 | x :: r,d=>by
  rw [Tr.sounds,Bool.and_eq_true,Tr.sounds_iff (l:=r)]
  constructor
  ·rintro ⟨h1,h2⟩ j hj
   rcases j with _ | j
   ·simpa [List.getD] using h1
   ·have:=h2 j (by simpa using hj)
    simpa [List.getD] using this
  ·intro h
   refine ⟨by simpa [List.getD] using h 0 (by simp),fun j hj=>?_⟩
   have:=h (j+1) (by simpa using hj)
   simpa [List.getD] using this
theorem Tr.sounds_not {l:List Tr} {d j:Nat} (hj:j<l.length) (h:(l.getD j default).sound d=false):Tr.sounds l d=false:=by
 cases e:Tr.sounds l d
 ·rfl
 ·have:=Tr.sounds_iff.1 e j hj
  rw [h] at this
  cases this
def RelB (w:World) (cs:Array Value) (l:List Tr) (d n:Nat) (i:Value) (wr:World):Prop :=
 ∃ k:Nat,k≤n∧i = .int .i64 k∧Hid (∀ j,j<k→(l.getD j default).sound d=true)∧Hid (Below w.heap.size w wr)∧Hid (Holds wr w.heap.size 32 cs)
set_option maxRecDepth 100000 in
set_option maxHeartbeats 4000000 in
theorem sound_N:∀ (N:Nat) (t:Lt) (w:World) (B d:Nat),t.sz<N→TrAt w B t→B≤w.heap.size→d≤13 →
  Calls Tryz.prog 115 #[t.val,.int .i64 (d:Int)] w fun e w'=>e = .returned (.bool (t.t.sound d))∧Below w.heap.size w w':=by
 intro N
 induction N with
 | zero=>intro t w B d h;omega
 | succ N ih =>
  intro t w B d hN hr hB hd
  obtain ⟨tag,ba,bc,body,ka,kc,kids⟩:=t
  rw [trAt_mk] at hr
  obtain ⟨htag,hbody,_,hrow,hkids⟩:=hr
  rw [Lt.t_mk]
  obtain ⟨n,hn⟩:∃ n,kids.length=n:=⟨_,rfl⟩
  obtain ⟨bl,hbl⟩:∃ n,body.length=n:=⟨_,rfl⟩
  obtain ⟨L,hL⟩:∃ L,kids.map Lt.t=L:=⟨_,rfl⟩
  have hLn:L.length=n:=by rw [←hL,List.length_map,hn]
  rw [hL]
  have HS:Hid ((Tr.mk tag body L).sound d=(ok1 tag bl n && decide (d≤12) && Tr.sounds L (d+1))):=Lib.hid (by rw [Tr.sound,hbl,hLn])
  have HLN:=Lib.hid hLn
  have hlc:n≤kc:=by have:=hrow.1;omega
  have hc63:=hrow.2.1
  have hblc:bl≤bc:=by have:=hbody.1;omega
  have hbc63:=hbody.2.1
  have HROW:Hid (∀ W,Below w.heap.size w W→RowT W B ka kc kids):=Lib.hid fun W hW=>hrow.under (hW.mono hB)
  have HIH:Hid (d≤12→∀ k,k<n→∀ W,Below w.heap.size w W→Calls Tryz.prog 115 #[(kids.getD k default).val,.int .i64 ((d+1:Nat):Int)] W fun e w'=>e = .returned (.bool ((L.getD k default).sound (d+1)))∧Below W.heap.size W w'):=Lib.hid fun hd12 k hk W hW=>by
   have e:(L.getD k default)=(kids.getD k default).t:=by rw [←hL,Lt.ts_at (by omega)]
   rw [e]
   refine ih _ W B (d+1) ?_ ((hkids k (by omega)).under' (hW.mono hB)) (by have:=hW.size;omega) (by omega)
   have:=lt_kid (tag:=tag) (ba:=ba) (bc:=bc) (body:=body) (ka:=ka) (kc:=kc) (kids:=kids) (j:=k) (by omega)
   omega
  have HN2:=Lib.hid hn
  have hval:(Lt.mk tag ba bc body ka kc kids).val = .agg #[.int .u8 (tag:Int),.slice ba bl bc,.slice ka n kc]:=by rw [←hn,←hbl];rfl
  rw [hval]
  have hb0:Holds (w.alloc (.cells #[.int .u8 (tag:Int),.slice ba bl bc,.slice ka n kc] 32)) w.heap.size 32 #[.int .u8 (tag:Int),.slice ba bl bc,.slice ka n kc]:=Holds.fresh _ _ _
  have hq0:Hid (Below w.heap.size w (w.alloc (.cells #[.int .u8 (tag:Int),.slice ba bl bc,.slice ka n kc] 32))):=Lib.hid ((Below.refl _ _).alloc (Nat.le_refl _) _)
  have z0:(w.alloc (.cells #[.int .u8 (tag:Int),.slice ba bl bc,.slice ka n kc] 32)).cell? ⟨w.heap.size,0,none⟩=some (.int .u8 (tag:Int)):=hb0.cell 0
  have z1:(w.alloc (.cells #[.int .u8 (tag:Int),.slice ba bl bc,.slice ka n kc] 32)).cell? ⟨w.heap.size,1,none⟩=some (.slice ba bl bc):=hb0.cell 1
  have z2:(w.alloc (.cells #[.int .u8 (tag:Int),.slice ba bl bc,.slice ka n kc] 32)).cell? ⟨w.heap.size,2,none⟩=some (.slice ka n kc):=hb0.cell 2
  have HB0:=Lib.hid hb0
  have HT:=Lib.hid (fun W=>tag'_any W tag htag)
  have HP:=Lib.hid (fun W=>parted'_any W tag htag)
  clear hN ih hrow hkids hLn hL hval hn hbl hb0 hbody
  rcases h1:tagOk tag with _ | _
  case false =>
   have HF:Hid ((Tr.mk tag body L).sound d=false):=Lib.hid (by rw [HS.out];simp [ok1,h1])
   go_enter Tryz.func115,Tryz.ntmps115
   go_wp2_with fail
   refine (HT.out _).mono ?_
   rintro e w2 ⟨rfl,rfl⟩
   rw [h1]
   go_wp2_with fail
   go_ret
   exact ⟨ret_bool HF.out.symm,hq0.out⟩
  case true =>
  by_cases h2:d≤12
  case neg =>
   have HF:Hid ((Tr.mk tag body L).sound d=false):=Lib.hid (by rw [HS.out];simp [h2])
   have d2:decide ((12:Int)<(d:Int))=true:=decide_eq_true (by omega)
   have d3:decide (12<d)=true:=decide_eq_true (by omega)
   clear h2
   go_enter Tryz.func115,Tryz.ntmps115
   go_wp2_with fail
   refine (HT.out _).mono ?_
   rintro e w2 ⟨rfl,rfl⟩
   rw [h1]
   go_wp2_with fail
   go_ret
   exact ⟨ret_bool HF.out.symm,hq0.out⟩
  have d2:decide ((12:Int)<(d:Int))=false:=decide_eq_false (by omega)
  have d3:decide (12<d)=false:=decide_eq_false (by omega)
  have HIK:Hid (∀ k,k<n→∀ W,Below w.heap.size w W→Calls Tryz.prog 115 #[(kids.getD k default).val,.int .i64 ((d:Int)+1)] W fun e w'=>e = .returned (.bool ((L.getD k default).sound (d+1)))∧Below W.heap.size W w'):=Lib.hid fun k hk W hW=>HIH.out h2 k hk W hW
  have HS1:Hid (ok1 tag bl n=true→(Tr.mk tag body L).sound d=Tr.sounds L (d+1)):=Lib.hid fun h=>by rw [HS.out,h];simp [h2]
  have HS2:Hid (ok1 tag bl n=false→(Tr.mk tag body L).sound d=false):=Lib.hid fun h=>by rw [HS.out,h];simp
  clear HIH HS h2
    -- the walk through the guards
  rcases h3:parted tag with _ | _
  case false =>
   by_cases h4:0<n
   case pos =>
    have HF:Hid ((Tr.mk tag body L).sound d=false):=Lib.hid (HS2.out (by simp [ok1,h1,h3,h4]))
    have e4:decide ((0:Int)<(n:Int))=true:=decide_eq_true (by omega)
    have e5:decide (0<n)=true:=decide_eq_true (by omega)
    go_enter Tryz.func115,Tryz.ntmps115
    go_wp2_with fail
    refine (HT.out _).mono ?_
    rintro e w2 ⟨rfl,rfl⟩
    rw [h1]
    go_wp2_with fail
    refine (HP.out _).mono ?_
    rintro e w2 ⟨rfl,rfl⟩
    rw [h3]
    go_wp2_with fail
    refine (HP.out _).mono ?_
    rintro e w2 ⟨rfl,rfl⟩
    rw [h3]
    go_wp2_with fail
    go_ret
    exact ⟨ret_bool HF.out.symm,hq0.out⟩
   have e4:decide ((0:Int)<(n:Int))=false:=decide_eq_false (by omega)
   have e5:decide (0<n)=false:=decide_eq_false (by omega)
   have HOK:Hid ((Tr.mk tag body L).sound d=Tr.sounds L (d+1)):=Lib.hid (HS1.out (by simp [ok1,h1,h3,h4]))
   clear HS1 HS2
   go_enter Tryz.func115,Tryz.ntmps115
   go_wp2_with fail
   refine (HT.out _).mono ?_
   rintro e w2 ⟨rfl,rfl⟩
   rw [h1]
   go_wp2_with fail
   refine (HP.out _).mono ?_
   rintro e w2 ⟨rfl,rfl⟩
   rw [h3]
   go_wp2_with fail
   refine (HP.out _).mono ?_
   rintro e w2 ⟨rfl,rfl⟩
   rw [h3]
   go_wp2_with fail
   clear e4 e5
   generalize w.alloc (.cells #[.int .u8 (tag:Int),.slice ba bl bc,.slice ka n kc] 32)=W at *
   clear z0 z1 z2 d2 d3
   go_loopw [5] (fun i wr=>RelB w #[.int .u8 (tag:Int),.slice ba bl bc,.slice ka n kc] L (d+1) n i wr) (fun i _=>n - (intOf i).toNat)
   case atStart=>exact ⟨0,Nat.zero_le _,rfl,Lib.hid (fun j hj=>by omega),hq0,HB0⟩
   case round =>
    clear hq0 HB0
    obtain ⟨k,hk,rfl,HK,HQ,HB⟩:=hrel
    obtain ⟨V,hV⟩:∃ V,V=wr:=⟨_,rfl⟩
    subst hV
    have z2:V.cell? ⟨w.heap.size,2,none⟩=some (.slice ka n kc):=HB.out.cell 2
    by_cases hkn:k<n
    case pos =>
     exact absurd (Nat.lt_of_le_of_lt (Nat.zero_le k) hkn) h4
    case neg =>
     obtain rfl:k=n:=by omega
     have hkI:¬ ((k:Int)<(k:Int)):=by omega
     have HT2:Hid ((Tr.mk tag body L).sound d=true):=Lib.hid (by rw [HOK.out,Tr.sounds_iff];intro j hj;exact HK.out j (by have:=HLN.out;omega))
     go_wp2_with fail
     go_ret
     exact ⟨ret_bool HT2.out.symm,HQ.out⟩
  case true =>
   by_cases h4:0<bl
   case pos =>
    have HF:Hid ((Tr.mk tag body L).sound d=false):=Lib.hid (HS2.out (by simp [ok1,h1,h3,h4]))
    have e4:decide ((0:Int)<(bl:Int))=true:=decide_eq_true (by omega)
    have e5:decide (0<bl)=true:=decide_eq_true (by omega)
    go_enter Tryz.func115,Tryz.ntmps115
    go_wp2_with fail
    refine (HT.out _).mono ?_
    rintro e w2 ⟨rfl,rfl⟩
    rw [h1]
    go_wp2_with fail
    refine (HP.out _).mono ?_
    rintro e w2 ⟨rfl,rfl⟩
    rw [h3]
    go_wp2_with fail
    go_ret
    exact ⟨ret_bool HF.out.symm,hq0.out⟩
   have e4:decide ((0:Int)<(bl:Int))=false:=decide_eq_false (by omega)
   have e5:decide (0<bl)=false:=decide_eq_false (by omega)
   have HOK:Hid ((Tr.mk tag body L).sound d=Tr.sounds L (d+1)):=Lib.hid (HS1.out (by simp [ok1,h1,h3,h4]))
   clear HS1 HS2
   go_enter Tryz.func115,Tryz.ntmps115
   go_wp2_with fail
   refine (HT.out _).mono ?_
   rintro e w2 ⟨rfl,rfl⟩
   rw [h1]
   go_wp2_with fail
   refine (HP.out _).mono ?_
   rintro e w2 ⟨rfl,rfl⟩
   rw [h3]
   go_wp2_with fail
   refine (HP.out _).mono ?_
   rintro e w2 ⟨rfl,rfl⟩
   rw [h3]
   go_wp2_with fail
   clear e4 e5
   generalize w.alloc (.cells #[.int .u8 (tag:Int),.slice ba bl bc,.slice ka n kc] 32)=W at *
   clear z0 z1 z2 d2 d3
   go_loopw [5] (fun i wr=>RelB w #[.int .u8 (tag:Int),.slice ba bl bc,.slice ka n kc] L (d+1) n i wr) (fun i _=>n - (intOf i).toNat)
   case atStart=>exact ⟨0,Nat.zero_le _,rfl,Lib.hid (fun j hj=>by omega),hq0,HB0⟩
   case round =>
    clear hq0 HB0
    obtain ⟨k,hk,rfl,HK,HQ,HB⟩:=hrel
    obtain ⟨V,hV⟩:∃ V,V=wr:=⟨_,rfl⟩
    subst hV
    have z2:V.cell? ⟨w.heap.size,2,none⟩=some (.slice ka n kc):=HB.out.cell 2
    by_cases hkn:k<n
    case pos =>
     have hkI:(k:Int)<(n:Int):=by omega
     have hk0:(0:Int)≤(k:Int):=by omega
     obtain ⟨b,off,rfl,hb,hcs⟩:=(HROW.out V HQ.out).2.2 (by have:=HN2.out;omega)
     obtain ⟨q0,q1,q2⟩:=hcs k (by have:=HN2.out;omega)
     have HC:=Lib.hid (HIK.out k hkn V HQ.out)
     have hwd:IntKind.i64.wrap ((d:Int)+1)=(d:Int)+1:=IntWalk.i64_in _ (by omega)
     rw [show (kids.getD k default).val = .agg #[.int .u8 ((kids.getD k default).tag:Int),.slice (kids.getD k default).ba (kids.getD k default).body.length (kids.getD k default).bc,.slice (kids.getD k default).ka (kids.getD k default).kids.length (kids.getD k default).kc] from rfl] at HC
     clear hcs
     generalize (kids.getD k default).tag=dt at *
     generalize (kids.getD k default).ba=dba at *
     generalize (kids.getD k default).bc=dbc at *
     generalize (kids.getD k default).body.length=dbl at *
     generalize (kids.getD k default).ka=dka at *
     generalize (kids.getD k default).kids.length=dkl at *
     generalize (kids.getD k default).kc=dkc at *
     rcases hsk:(L.getD k default).sound (d+1) with _ | _
     case false =>
      have HF:Hid ((Tr.mk tag body L).sound d=false):=Lib.hid (by rw [HOK.out];exact Tr.sounds_not (by have:=HLN.out;omega) hsk)
      rw [hsk] at HC
      clear hsk
      go_wp2_with fail
      refine HC.out.mono ?_
      rintro e w2 ⟨rfl,hb2⟩
      have HQ2:Hid (Below w.heap.size w w2):=Lib.hid (HQ.out.trans (hb2.mono HQ.out.size))
      clear hb2 HC q0 q1 q2 z2
      go_wp2_with fail
      go_ret
      exact ⟨ret_bool HF.out.symm,HQ2.out⟩
     case true =>
      have HK2:Hid (∀ j,j<k+1→(L.getD j default).sound (d+1)=true):=Lib.hid fun j hj=>by
       rcases Nat.lt_or_ge j k with h | h
       ·exact HK.out j h
       ·obtain rfl:j=k:=by omega
        exact hsk
      rw [hsk] at HC
      clear hsk
      go_wp2_with fail
      refine HC.out.mono ?_
      rintro e w2 ⟨rfl,hb2⟩
      have HQ2:Hid (Below w.heap.size w w2):=Lib.hid (HQ.out.trans (hb2.mono HQ.out.size))
      have HB2:=Lib.hid (HB.out.under hb2 HB.out.lt)
      clear hb2 HC q0 q1 q2 z2
      go_wp2_with fail
      go_roundw
      case rel=>exact ⟨k+1,by omega,by go_num,HK2,HQ2,HB2⟩
      case measure=>simp [intOf];omega
    case neg =>
     obtain rfl:k=n:=by omega
     have hkI:¬ ((k:Int)<(k:Int)):=by omega
     have HT2:Hid ((Tr.mk tag body L).sound d=true):=Lib.hid (by rw [HOK.out,Tr.sounds_iff];intro j hj;exact HK.out j (by have:=HLN.out;omega))
     go_wp2_with fail
     go_ret
     exact ⟨ret_bool HT2.out.symm,HQ.out⟩
theorem sound_any (t:Lt) (w:World) (B:Nat) (hr:TrAt w B t) (hB:B≤w.heap.size) :
  Calls Tryz.prog 115 #[t.val,.int .i64 1] w fun e w'=>e = .returned (.bool (t.t.sound 1))∧Below w.heap.size w w':=sound_N (t.sz+1) t w B 1 (Nat.lt_succ_self _) hr hB (by omega)
end Go.Proofs.YtcibjcgipfpniaaGreatDoor
namespace Go.Proofs.YtcibjcgipfpniaaGreatDoor
open Go.RowKit
set_option linter.unusedVariables false
set_option linter.unusedSimpArgs false

/-- A thing that may be. -/
def isT (t:Tr):Bool:=t.sound 1 && decide (t.count≤600) && decide (t.enc.length≤12000)
set_option maxRecDepth 100000 in
set_option maxHeartbeats 4000000 in
theorem isTl'_any (t:Lt) (w:World) (B:Nat) (hr:TrAt w B t) (hB:B≤w.heap.size) (hmc:t.t.count≤1000000) (hmx:t.t.enc.length≤400000) :
  Calls Tryz.prog 78 #[t.val] w fun e w'=>e = .returned (.bool (isT t.t))∧Below w.heap.size w w':=by
 have HS:Hid (∀ W,Below w.heap.size w W→Calls Tryz.prog 115 #[t.val,.int .i64 1] W fun e w'=>e = .returned (.bool (t.t.sound 1))∧Below W.heap.size W w'):=Lib.hid fun W hW=>sound_any t W B (hr.under' (hW.mono hB)) (by have:=hW.size;omega)
 have HC:Hid (∀ W,Below w.heap.size w W→Calls Tryz.prog 116 #[t.val] W fun e w'=>e = .returned (.int .i64 (t.t.count:Int))∧Below W.heap.size W w'):=Lib.hid fun W hW=>count'_N (t.sz+1) t W B (Nat.lt_succ_self _) (hr.under' (hW.mono hB)) (by have:=hW.size;omega) hmc
 have HL:Hid (∀ W,Below w.heap.size w W→Calls Tryz.prog 79 #[t.val] W fun e w'=>∃ A c,e = .returned (.slice A t.t.enc.length c)∧Below W.heap.size W w'):=Lib.hid fun W hW=>(laid_any t W B (hr.under' (hW.mono hB)) (by have:=hW.size;omega) hmx).mono fun _ _ ⟨A,c,h1,_,h3⟩=>⟨A,c,h1,h3⟩
 have HI:Hid (isT t.t=(t.t.sound 1 && decide (t.t.count≤600) && decide (t.t.enc.length≤12000))):=Lib.hid rfl
 rw [Lt.val_eq] at HS HC HL ⊢
 generalize isT t.t=v at *
 generalize t.t.sound 1=s at *
 generalize t.t.count=x at *
 generalize t.t.enc.length=y at *
 clear hr hB
 generalize t.tag=tag at *
 generalize t.ba=ba at *
 generalize t.bc=bc at *
 generalize t.body.length=bl at *
 generalize t.ka=ka at *
 generalize t.kids.length=n at *
 generalize t.kc=kc at *
 have hq0:Hid (Below w.heap.size w (w.alloc (.cells #[.int .u8 (tag:Int),.slice ba bl bc,.slice ka n kc] 32))):=Lib.hid ((Below.refl _ _).alloc (Nat.le_refl _) _)
 have hb0:Hid (Holds (w.alloc (.cells #[.int .u8 (tag:Int),.slice ba bl bc,.slice ka n kc] 32)) w.heap.size 32 #[.int .u8 (tag:Int),.slice ba bl bc,.slice ka n kc]):=Lib.hid (Holds.fresh _ _ _)
 have z0:(w.alloc (.cells #[.int .u8 (tag:Int),.slice ba bl bc,.slice ka n kc] 32)).cell? ⟨w.heap.size,0,none⟩=some (.int .u8 (tag:Int)):=hb0.out.cell 0
 have z1:(w.alloc (.cells #[.int .u8 (tag:Int),.slice ba bl bc,.slice ka n kc] 32)).cell? ⟨w.heap.size,1,none⟩=some (.slice ba bl bc):=hb0.out.cell 1
 have z2:(w.alloc (.cells #[.int .u8 (tag:Int),.slice ba bl bc,.slice ka n kc] 32)).cell? ⟨w.heap.size,2,none⟩=some (.slice ka n kc):=hb0.out.cell 2
 cases s
 case false =>
  have HF:Hid (v=false):=Lib.hid (by rw [HI.out];rfl)
  go_enter Tryz.func78,Tryz.ntmps78
  go_wp2_with fail
  refine (HS.out _ hq0.out).mono ?_
  rintro e w2 ⟨rfl,hb2⟩
  have HQ2:=Lib.hid (hq0.out.trans (hb2.mono hq0.out.size))
  clear hb2
  go_wp2_with fail
  go_ret
  exact ⟨ret_bool HF.out.symm,HQ2.out⟩
 case true =>
 have HQ0:=hq0
 have HB0:=hb0
 go_enter Tryz.func78,Tryz.ntmps78
 go_wp2_with fail
 refine (HS.out _ HQ0.out).mono ?_
 rintro e w2 ⟨rfl,hb2⟩
 have HQ2:=Lib.hid (HQ0.out.trans (hb2.mono HQ0.out.size))
 have HB2:=Lib.hid (HB0.out.under hb2 HB0.out.lt)
 have y20:w2.cell? ⟨w.heap.size,0,none⟩=some (.int .u8 (tag:Int)):=HB2.out.cell 0
 have y21:w2.cell? ⟨w.heap.size,1,none⟩=some (.slice ba bl bc):=HB2.out.cell 1
 have y22:w2.cell? ⟨w.heap.size,2,none⟩=some (.slice ka n kc):=HB2.out.cell 2
 clear hb2
 go_wp2_with fail
 refine (HC.out _ HQ2.out).mono ?_
 rintro e w3 ⟨rfl,hb3⟩
 have HQ3:=Lib.hid (HQ2.out.trans (hb3.mono HQ2.out.size))
 have HB3:=Lib.hid (HB2.out.under hb3 HB2.out.lt)
 have y30:w3.cell? ⟨w.heap.size,0,none⟩=some (.int .u8 (tag:Int)):=HB3.out.cell 0
 have y31:w3.cell? ⟨w.heap.size,1,none⟩=some (.slice ba bl bc):=HB3.out.cell 1
 have y32:w3.cell? ⟨w.heap.size,2,none⟩=some (.slice ka n kc):=HB3.out.cell 2
 clear hb3
 by_cases h1:x≤600
 case neg =>
  have HF:Hid (v=false):=Lib.hid (by rw [HI.out];simp [h1])
  have d1:decide ((x:Int)≤600)=false:=decide_eq_false (by omega)
  have d2:decide (x≤600)=false:=decide_eq_false h1
  go_wp2_with fail
  go_ret
  exact ⟨ret_bool HF.out.symm,HQ3.out⟩
 case pos =>
  have HV:Hid (v=decide (y≤12000)):=Lib.hid (by rw [HI.out];simp [h1])
  have d1:decide ((x:Int)≤600)=true:=decide_eq_true (by omega)
  have d2:decide (x≤600)=true:=decide_eq_true h1
  go_wp2_with fail
  refine (HL.out _ HQ3.out).mono ?_
  rintro e w4 ⟨A4,c4,rfl,hb4⟩
  have HQ4:=Lib.hid (HQ3.out.trans (hb4.mono HQ3.out.size))
  clear hb4
  have hd:decide ((y:Int)≤12000)=decide (y≤12000):=by rw [decide_eq_decide];omega
  go_wp2_with fail
  go_ret
  exact ⟨ret_bool (by rw [HV.out]),HQ4.out⟩
/-- Its bytes, or none. -/
def bytesT (t:Tr):List Nat:=if isT t=true then t.enc else []
set_option maxRecDepth 100000 in
set_option maxHeartbeats 4000000 in
theorem bytes'_any (t:Lt) (w:World) (B:Nat) (hr:TrAt w B t) (hB:B≤w.heap.size) (hmc:t.t.count≤1000000) (hmx:t.t.enc.length≤400000) :
  Calls Tryz.prog 34 #[t.val] w fun e w'=>∃ A c n,e = .returned (.slice A n c)∧(bytesT t.t).length=n∧Mine 5 w' w.heap.size A c (bytesT t.t)∧Below w.heap.size w w':=by
 have HS:Hid (∀ W,Below w.heap.size w W→Calls Tryz.prog 78 #[t.val] W fun e w'=>e = .returned (.bool (isT t.t))∧Below W.heap.size W w'):=Lib.hid fun W hW=>isTl'_any t W B (hr.under' (hW.mono hB)) (by have:=hW.size;omega) hmc hmx
 have HL:Hid (∀ W,Below w.heap.size w W→Calls Tryz.prog 79 #[t.val] W fun e w'=>∃ A c,e = .returned (.slice A t.t.enc.length c)∧Mine 5 w' w.heap.size A c t.t.enc∧Below W.heap.size W w'):=Lib.hid fun W hW=>(laid_any t W B (hr.under' (hW.mono hB)) (by have:=hW.size;omega) hmx).mono fun _ _ ⟨A,c,h1,h2,h3⟩=>⟨A,c,h1,h2.less hW.size,h3⟩
 have HI:Hid (bytesT t.t=if isT t.t=true then t.t.enc else []):=Lib.hid rfl
 rw [Lt.val_eq] at HS HL ⊢
 generalize bytesT t.t=v at *
 generalize isT t.t=s at *
 generalize t.t.enc=y at *
 clear hr hB
 generalize t.tag=tag at *
 generalize t.ba=ba at *
 generalize t.bc=bc at *
 generalize t.body.length=bl at *
 generalize t.ka=ka at *
 generalize t.kids.length=n at *
 generalize t.kc=kc at *
 have hq0:Hid (Below w.heap.size w (w.alloc (.cells #[.int .u8 (tag:Int),.slice ba bl bc,.slice ka n kc] 32))):=Lib.hid ((Below.refl _ _).alloc (Nat.le_refl _) _)
 have hb0:Hid (Holds (w.alloc (.cells #[.int .u8 (tag:Int),.slice ba bl bc,.slice ka n kc] 32)) w.heap.size 32 #[.int .u8 (tag:Int),.slice ba bl bc,.slice ka n kc]):=Lib.hid (Holds.fresh _ _ _)
 have z0:(w.alloc (.cells #[.int .u8 (tag:Int),.slice ba bl bc,.slice ka n kc] 32)).cell? ⟨w.heap.size,0,none⟩=some (.int .u8 (tag:Int)):=hb0.out.cell 0
 have z1:(w.alloc (.cells #[.int .u8 (tag:Int),.slice ba bl bc,.slice ka n kc] 32)).cell? ⟨w.heap.size,1,none⟩=some (.slice ba bl bc):=hb0.out.cell 1
 have z2:(w.alloc (.cells #[.int .u8 (tag:Int),.slice ba bl bc,.slice ka n kc] 32)).cell? ⟨w.heap.size,2,none⟩=some (.slice ka n kc):=hb0.out.cell 2
 have HQ0:=hq0
 have HB0:=hb0
 cases s
 case false =>
  have HF:Hid (v=[]):=Lib.hid (by rw [HI.out];rfl)
  go_enter Tryz.func34,Tryz.ntmps34
  go_wp2_with fail
  refine (HS.out _ hq0.out).mono ?_
  rintro e w2 ⟨rfl,hb2⟩
  have HQ2:=Lib.hid (hq0.out.trans (hb2.mono hq0.out.size))
  clear hb2
  go_wp2_with fail
  go_ret
  exact ⟨none,0,0,rfl,by rw [HF.out];rfl,by rw [HF.out];exact Mine.nil _ _ _,HQ2.out⟩
 case true =>
  have HF:Hid (v=y):=Lib.hid (by rw [HI.out];rfl)
  go_enter Tryz.func34,Tryz.ntmps34
  go_wp2_with fail
  refine (HS.out _ hq0.out).mono ?_
  rintro e w2 ⟨rfl,hb2⟩
  have HQ2:=Lib.hid (HQ0.out.trans (hb2.mono HQ0.out.size))
  have HB2:=Lib.hid (HB0.out.under hb2 HB0.out.lt)
  have y20:w2.cell? ⟨w.heap.size,0,none⟩=some (.int .u8 (tag:Int)):=HB2.out.cell 0
  have y21:w2.cell? ⟨w.heap.size,1,none⟩=some (.slice ba bl bc):=HB2.out.cell 1
  have y22:w2.cell? ⟨w.heap.size,2,none⟩=some (.slice ka n kc):=HB2.out.cell 2
  clear hb2
  go_wp2_with fail
  refine (HL.out _ HQ2.out).mono ?_
  rintro e w3 ⟨A3,c3,rfl,hm3,hb3⟩
  have HQ3:=Lib.hid (HQ2.out.trans (hb3.mono HQ2.out.size))
  have HM3:=Lib.hid hm3
  clear hb3 hm3
  go_wp2_with fail
  go_ret
  exact ⟨A3,c3,y.length,rfl,by rw [HF.out],by rw [HF.out];exact HM3.out,HQ3.out⟩
end Go.Proofs.YtcibjcgipfpniaaGreatDoor
namespace Go.Proofs.YtcibjcgipfpniaaGreatDoor
open Go.RowKit Go.Shelf
set_option linter.unusedVariables false
set_option linter.unusedSimpArgs false
attribute [local go_sem] Oper.semAt_some

mutual
/-- All things in a thing, itself first, with how deep each is. -/
def Lt.items:Lt→Nat→List (Nat×Lt)
 | .mk tag ba bc body ka kc kids,d=>(d,.mk tag ba bc body ka kc kids) :: Lt.itemss kids (d+1)
def Lt.itemss:List Lt→Nat→List (Nat×Lt)
 | [],_=>[]
 | x :: r,d=>x.items d ++ Lt.itemss r d
end
theorem Lt.itemss_append:∀ (a b:List Lt) (d:Nat),Lt.itemss (a ++ b) d=Lt.itemss a d ++ Lt.itemss b d
 | [],b,d=>by simp [Lt.itemss]
 | x :: r,b,d=>by rw [List.cons_append,Lt.itemss,Lt.itemss,Lt.itemss_append r b,List.append_assoc]
theorem Lt.itemss_more {l:List Lt} {k:Nat} (h:k<l.length) (d:Nat):Lt.itemss (l.take (k+1)) d=Lt.itemss (l.take k) d ++ (l.getD k default).items d:=by
 rw [take_more l h,Lt.itemss_append]
 simp [Lt.itemss]
theorem Lt.itemss_take (l:List Lt) (k d:Nat):Lt.itemss (l.take k) d <+: Lt.itemss l d:=by
 have:=Lt.itemss_append (l.take k) (l.drop k) d
 rw [List.take_append_drop] at this
 rw [this]
 exact List.prefix_append _ _
mutual
theorem Lt.items_len:∀ (t:Lt) (d:Nat),(t.items d).length=t.t.count
 | .mk _ _ _ _ _ _ kids,d=>by rw [Lt.items,Lt.t,Tr.count,List.length_cons,Lt.itemss_len' kids (d+1)];omega
theorem Lt.itemss_len':∀ (l:List Lt) (d:Nat),(Lt.itemss l d).length=Tr.counts (Lt.ts l)
 | [],d=>by simp [Lt.itemss,Lt.ts,Tr.counts]
 | x :: r,d=>by rw [Lt.itemss,Lt.ts,Tr.counts,List.length_append,Lt.items_len x d,Lt.itemss_len' r d]
end
theorem Lt.itemss_len (l:List Lt) (d:Nat):(Lt.itemss l d).length=Tr.counts (l.map Lt.t):=by rw [Lt.itemss_len',Lt.ts_map]
/-- One of them, as it is handed on. -/
abbrev It:={ p:Nat×Lt // p.2.tag<256 }
def itv (x:It):Array Value:=#[.int .i64 (x.1.1:Int),x.1.2.val]
/-- No cell turns but those of two blocks. -/
def PassX (c1 c2:Nat) (A B:World):Prop:=A.heap.size≤B.heap.size∧∀ b o v,b≠c1→b≠c2→A.cell? ⟨b,o,none⟩=some v→B.cell? ⟨b,o,none⟩=some v
theorem PassX.refl (c1 c2:Nat) (A:World):PassX c1 c2 A A:=⟨Nat.le_refl _,fun _ _ _ _ _ h=>h⟩
theorem PassX.trans {c1 c2:Nat} {A B C:World} (h:PassX c1 c2 A B) (k:PassX c1 c2 B C):PassX c1 c2 A C:=⟨Nat.le_trans h.1 k.1,fun b o v h1 h2 hv=>k.2 b o v h1 h2 (h.2 b o v h1 h2 hv)⟩
theorem PassX.alloc (c1 c2:Nat) (A:World) (o:Obj):PassX c1 c2 A (A.alloc o):=⟨by simp,fun b o' v _ _ hv=>by
 have hlt:=World.block_lt_of_cell? A _ hv
 rw [World.cell?_alloc_past _ _ _ hlt];exact hv⟩
theorem TrAt.pass {w w':World} {B:Nat} (hp:∀ b o v,b<B→w.cell? ⟨b,o,none⟩=some v→w'.cell? ⟨b,o,none⟩=some v):∀ (N:Nat) {t:Lt},t.sz<N→TrAt w B t→TrAt w' B t
 | 0,_,h,_=>by omega
 | N+1,.mk tag ba bc body ka kc kids,h,hr=>by
  rw [trAt_mk] at hr ⊢
  obtain ⟨h1,h2,h3,h4,h5⟩:=hr
  refine ⟨h1,⟨h2.1,h2.2.1,fun hn=>?_⟩,h3,⟨h4.1,h4.2.1,fun hn=>?_⟩,fun j hj=>TrAt.pass hp N (by have:=lt_kid (tag:=tag) (ba:=ba) (bc:=bc) (body:=body) (ka:=ka) (kc:=kc) hj;omega) (h5 j hj)⟩
  ·obtain ⟨b,off,e,hlt,hc⟩:=h2.2.2 hn
   exact ⟨b,off,e,hlt,fun j hj=>hp _ _ _ hlt (hc j hj)⟩
  ·obtain ⟨b,off,e,hlt,hc⟩:=h4.2.2 hn
   exact ⟨b,off,e,hlt,fun j hj=>⟨hp _ _ _ hlt (hc j hj).1,hp _ _ _ hlt (hc j hj).2.1,hp _ _ _ hlt (hc j hj).2.2⟩⟩
theorem TrAt.passX {c1 c2:Nat} {w w':World} {B:Nat} {t:Lt} (h:TrAt w B t) (hp:PassX c1 c2 w w') (h1:B≤c1) (h2:B≤c2):TrAt w' B t :=
 TrAt.pass (fun b o v hb hv=>hp.2 b o v (by omega) (by omega) hv) (t.sz+1) (Nat.lt_succ_self _) h
theorem room_of_none {F:Fence} (hd:F.depth=none) (k:Nat):F.room k:=fun d h=>by rw [hd] at h;cases h

def RelW (l c1 c2 n:Nat) (J:List It→World→Prop) (pre:List It) (d:Nat) (me:Nat×Lt) (kids:List Lt) (W:World) (i:Value) (wr:World):Prop :=
 ∃ (k:Nat) (ys:List It),k≤n∧i = .int .i64 k∧Hid (ys.map (·.1)=me :: Lt.itemss (kids.take k) (d+1))∧J (pre ++ ys) wr∧Hid (PassX c1 c2 W wr)
set_option maxRecDepth 100000 in
set_option maxHeartbeats 4000000 in
theorem walk_in (F:Fence) (hd:F.depth=none) (h37:F.fn 133) (hro:F.round=none) (l c1 c2 N:Nat) (J Jx:List It→World→Prop) (hJ:∀ s W o,J s W→J s (W.alloc o))
  (hY:∀ m pre x W,J pre W→pre.length<N→YieldAt F m Tryz.prog l (itv x) W fun e W' =>
   (e = .returned (.bool true)∧J (pre ++ [x]) W'∧PassX c1 c2 W W')∨(e = .returned (.bool false)∧Jx (pre ++ [x]) W')) :
  ∀ (K:Nat) (t:Lt),t.sz<K→∀ (m d B:Nat) (pre:List It) (W:World),TrAt W B t→B≤c1→B≤c2→c1<W.heap.size→c2<W.heap.size→J pre W→pre.length+t.t.count≤N→d+t.t.count≤4000000 →
   CallsIn F m Tryz.prog 133 #[t.val,.int .i64 (d:Int),.func (.yield l) #[] #[]] W fun e W' =>
    (e = .returned (.bool true)∧∃ ys:List It,ys.map (·.1)=t.items d∧J (pre ++ ys) W'∧PassX c1 c2 W W')∨(e = .returned (.bool false)∧∃ ys:List It,ys.map (·.1) <+: t.items d∧Jx (pre ++ ys) W'):=by
 intro K
 induction K with
 | zero=>intro t h;omega
 | succ K ih =>
  intro t hK m d B pre W hr hB1 hB2 hc1 hc2 hj hN hdc
  obtain ⟨tag,ba,bc,body,ka,kc,kids⟩:=t
  have hr0:=hr
  rw [trAt_mk] at hr
  obtain ⟨htag,hbody,_,hrow,hkids⟩:=hr
  rw [Lt.t_mk,Tr.count] at hN hdc
  rw [Lt.items]
  have hdd:∀ k:Nat,(F.depth.isSome=true→1≤k):=fun k h=>by rw [hd] at h;cases h
  obtain ⟨n,hn⟩:∃ n,kids.length=n:=⟨_,rfl⟩
  obtain ⟨bl,hbl⟩:∃ n,body.length=n:=⟨_,rfl⟩
  have hlc:n≤kc:=by have:=hrow.1;omega
  have hc63:=hrow.2.1
  have hval:(Lt.mk tag ba bc body ka kc kids).val = .agg #[.int .u8 (tag:Int),.slice ba bl bc,.slice ka n kc]:=by rw [←hn,←hbl];rfl
    -- the box
  have hb0:Holds (W.alloc (.cells #[.int .u8 (tag:Int),.slice ba bl bc,.slice ka n kc] 32)) W.heap.size 32 #[.int .u8 (tag:Int),.slice ba bl bc,.slice ka n kc]:=Holds.fresh _ _ _
  have hp0:PassX c1 c2 W (W.alloc (.cells #[.int .u8 (tag:Int),.slice ba bl bc,.slice ka n kc] 32)):=PassX.alloc _ _ _ _
  have hj0:=hJ _ _ (.cells #[.int .u8 (tag:Int),.slice ba bl bc,.slice ka n kc] 32) hj
  have z0:(W.alloc (.cells #[.int .u8 (tag:Int),.slice ba bl bc,.slice ka n kc] 32)).cell? ⟨W.heap.size,0,none⟩=some (.int .u8 (tag:Int)):=hb0.cell 0
  have z1:(W.alloc (.cells #[.int .u8 (tag:Int),.slice ba bl bc,.slice ka n kc] 32)).cell? ⟨W.heap.size,1,none⟩=some (.slice ba bl bc):=hb0.cell 1
  have z2:(W.alloc (.cells #[.int .u8 (tag:Int),.slice ba bl bc,.slice ka n kc] 32)).cell? ⟨W.heap.size,2,none⟩=some (.slice ka n kc):=hb0.cell 2
  have HIH:Hid (∀ k,k<n→∀ (W':World) (ys:List It),PassX c1 c2 W W'→J (pre ++ ys) W'→ys.length=1+Tr.counts ((kids.map Lt.t).take k)→CallsIn F (m - 1) Tryz.prog 133 #[(kids.getD k default).val,.int .i64 ((d+1:Nat):Int),.func (.yield l) #[] #[]] W' fun e W'' =>
    (e = .returned (.bool true)∧∃ zs:List It,zs.map (·.1)=(kids.getD k default).items (d+1)∧J (pre ++ ys ++ zs) W''∧PassX c1 c2 W' W'')∨(e = .returned (.bool false)∧∃ zs:List It,zs.map (·.1) <+: (kids.getD k default).items (d+1)∧Jx (pre ++ ys ++ zs) W'')):=Lib.hid fun k hk W' ys hp hjy hyl=>by
   have h1:=Tr.counts_more (l:=kids.map Lt.t) (k:=k) (by rw [List.length_map];omega)
   have h2:=Tr.counts_le (kids.map Lt.t) (k+1)
   rw [Lt.ts_at (by omega)] at h1
   have hkz:=lt_kid (tag:=tag) (ba:=ba) (bc:=bc) (body:=body) (ka:=ka) (kc:=kc) (kids:=kids) (j:=k) (by omega)
   refine ih _ (by omega) (m - 1) (d+1) B (pre ++ ys) W' ((hkids k (by omega)).passX hp hB1 hB2) hB1 hB2 (by have:=hp.1;omega) (by have:=hp.1;omega) hjy ?_ (by omega)
   rw [List.length_append,hyl]
   omega
  have HROW:Hid (∀ W',PassX c1 c2 W W'→RowT W' B ka kc kids):=Lib.hid fun W' hp=>by
   have h:=hr0.passX hp hB1 hB2
   rw [trAt_mk] at h
   exact h.2.2.2.1
  have hdle:d≤4000000:=by omega
  have hy:=hY (m - 1) pre ⟨(d,.mk tag ba bc body ka kc kids),htag⟩ (W.alloc (.cells #[.int .u8 (tag:Int),.slice ba bl bc,.slice ka n kc] 32)) hj0 (by omega)
  rw [show itv ⟨(d,.mk tag ba bc body ka kc kids),htag⟩=#[.int .i64 (d:Int),.agg #[.int .u8 (tag:Int),.slice ba bl bc,.slice ka n kc]] by unfold itv;rw [hval]] at hy
  have HN2:=Lib.hid hn
  rw [hval]
  obtain ⟨x0,hx0⟩:∃ x0:It,x0.1=(d,Lt.mk tag ba bc body ka kc kids)∧(⟨(d,.mk tag ba bc body ka kc kids),htag⟩:It)=x0:=⟨⟨(d,.mk tag ba bc body ka kc kids),htag⟩,rfl,rfl⟩
  rw [hx0.2] at hy
  have HX0:=Lib.hid hx0.1
  have hwd:IntKind.i64.wrap ((d:Int)+1)=(d:Int)+1:=IntWalk.i64_in _ (by omega)
  have HBOX:Hid (∀ W',PassX c1 c2 (W.alloc (.cells #[.int .u8 (tag:Int),.slice ba bl bc,.slice ka n kc] 32)) W'→W'.cell? ⟨W.heap.size,2,none⟩=some (.slice ka n kc)):=Lib.hid fun W' hp=>hp.2 _ _ _ (by omega) (by omega) z2
  have hy2:=YieldAt.mono (R':=fun e W'=>(e = .returned (.bool true)∧J (pre ++ [x0]) W'∧PassX c1 c2 W W'∧W'.cell? ⟨W.heap.size,2,none⟩=some (.slice ka n kc))∨(e = .returned (.bool false)∧Jx (pre ++ [x0]) W')) hy (fun e W' h=>h.elim (fun ⟨a1,a2,a3⟩=>.inl ⟨a1,a2,hp0.trans a3,HBOX.out _ a3⟩) .inr)
  obtain ⟨fn,tmps,assign,bdy,hyr,hR⟩:=hy2
  have HIT:Hid (∀ k,k<n→Lt.itemss (kids.take (k+1)) (d+1)=Lt.itemss (kids.take k) (d+1) ++ (kids.getD k default).items (d+1)):=Lib.hid fun k hk=>Lt.itemss_more (by omega) _
  have HIP:Hid (∀ k,k<n→Lt.itemss (kids.take k) (d+1) ++ (kids.getD k default).items (d+1) <+: Lt.itemss kids (d+1)):=Lib.hid fun k hk=>by rw [←HIT.out k hk];exact Lt.itemss_take kids (k+1) (d+1)
  have HLEN:Hid (∀ k (ys:List It),k≤n→ys.map (·.1)=(d,Lt.mk tag ba bc body ka kc kids) :: Lt.itemss (kids.take k) (d+1)→ys.length=1+Tr.counts ((kids.map Lt.t).take k)):=Lib.hid fun k ys hk e=>by
   have h:=congrArg List.length e
   rw [List.length_map,List.length_cons,Lt.itemss_len,List.map_take] at h
   omega
  clear hx0 hval hrow hkids hr0 hb0 hn hbl hbody ih hK hY hN hdc
  refine callsIn_of_wp Tryz.func133 rfl h37 ?_ hro
  simp only [Tryz.ntmps133,List.size_toArray,List.length_cons,List.length_nil,Nat.reduceAdd,Nat.reduceSub,Array.replicate_succ,Array.replicate_zero,List.push_toArray,List.append_toArray,List.nil_append,List.cons_append]
  gi_wp2_with ((try refine ⟨hdd _,?_⟩);refine hR.mono ?_;clear hR;rintro e W2 (⟨rfl,hJ2,hp2,z3⟩ | ⟨rfl,hx2⟩))
  ·have HP2:=Lib.hid hp2
   clear hp2 z0 z1 z2 hyr hy hj0 hp0
   gi_loopw [17] (fun i wr=>RelW l c1 c2 n J pre d (d,Lt.mk tag ba bc body ka kc kids) kids W i wr) (fun i _=>n - (intOf i).toNat)
   case atStart=>exact ⟨0,[x0],Nat.zero_le _,rfl,Lib.hid (by simp [Lt.itemss,HX0.out]),hJ2,HP2⟩
   case round =>
    clear hJ2 HP2 z3
    obtain ⟨k,ys,hk,rfl,HYS,hJk,HPK⟩:=hrel
    obtain ⟨V,hV⟩:∃ V,V=wr:=⟨_,rfl⟩
    subst hV
    by_cases hkn:k<n
    case pos =>
     have hkI:(k:Int)<(n:Int):=by omega
     have hk0:(0:Int)≤(k:Int):=by omega
     obtain ⟨b,off,rfl,hb,hcs⟩:=(HROW.out V HPK.out).2.2 (by have:=HN2.out;omega)
     obtain ⟨q0,q1,q2⟩:=hcs k (by have:=HN2.out;omega)
     have hjA:=hJ _ _ (.cells #[.int .u8 ((kids.getD k default).tag:Int),.slice (kids.getD k default).ba (kids.getD k default).body.length (kids.getD k default).bc,.slice (kids.getD k default).ka (kids.getD k default).kids.length (kids.getD k default).kc] 32) hJk
     have HC0:=HIH.out k hkn (V.alloc (.cells #[.int .u8 ((kids.getD k default).tag:Int),.slice (kids.getD k default).ba (kids.getD k default).body.length (kids.getD k default).bc,.slice (kids.getD k default).ka (kids.getD k default).kids.length (kids.getD k default).kc] 32)) ys (HPK.out.trans (PassX.alloc _ _ _ _)) hjA (HLEN.out k ys hk HYS.out)
     have HPA:Hid (∀ W',PassX c1 c2 (V.alloc (.cells #[.int .u8 ((kids.getD k default).tag:Int),.slice (kids.getD k default).ba (kids.getD k default).body.length (kids.getD k default).bc,.slice (kids.getD k default).ka (kids.getD k default).kids.length (kids.getD k default).kc] 32)) W'→PassX c1 c2 W W'):=Lib.hid fun W' hp=>(HPK.out.trans (PassX.alloc _ _ _ _)).trans hp
     have HC:Hid (CallsIn F (m - 1) Tryz.prog 133 #[.agg #[.int .u8 ((kids.getD k default).tag:Int),.slice (kids.getD k default).ba (kids.getD k default).body.length (kids.getD k default).bc,.slice (kids.getD k default).ka (kids.getD k default).kids.length (kids.getD k default).kc],.int .i64 ((d:Int)+1),.func (.yield l) #[] #[]] (V.alloc (.cells #[.int .u8 ((kids.getD k default).tag:Int),.slice (kids.getD k default).ba (kids.getD k default).body.length (kids.getD k default).bc,.slice (kids.getD k default).ka (kids.getD k default).kids.length (kids.getD k default).kc] 32)) fun e W'' =>
      (e = .returned (.bool true)∧∃ ys':List It,ys'.map (·.1)=(d,Lt.mk tag ba bc body (some ⟨b,off,none⟩) kc kids) :: Lt.itemss (kids.take (k+1)) (d+1)∧J (pre ++ ys') W''∧PassX c1 c2 W W'')∨(e = .returned (.bool false)∧∃ ys':List It,ys'.map (·.1) <+: (d,Lt.mk tag ba bc body (some ⟨b,off,none⟩) kc kids) :: Lt.itemss kids (d+1)∧Jx (pre ++ ys') W'')):=Lib.hid (CallsIn.mono HC0 fun e W'' h=>by
       rcases h with ⟨h1,zs,h2,h3,h4⟩ | ⟨h1,zs,h2,h3⟩
       ·exact .inl ⟨h1,ys ++ zs,by rw [List.map_append,HYS.out,h2,HIT.out k hkn];rfl,by rw [←List.append_assoc];exact h3,HPA.out _ h4⟩
       ·refine .inr ⟨h1,ys ++ zs,?_,by rw [←List.append_assoc];exact h3⟩
        rw [List.map_append,HYS.out,List.cons_append]
        exact (List.cons_prefix_cons.2 ⟨rfl,((List.prefix_append_right_inj _).2 h2).trans (HIP.out k hkn)⟩))
     clear hcs HC0 hjA HPA HIH HIT HIP HLEN HYS
     generalize (kids.getD k default).tag=dt at *
     generalize (kids.getD k default).ba=dba at *
     generalize (kids.getD k default).bc=dbc at *
     generalize (kids.getD k default).body.length=dbl at *
     generalize (kids.getD k default).ka=dka at *
     generalize (kids.getD k default).kids.length=dkl at *
     generalize (kids.getD k default).kc=dkc at *
     have hb9:Holds (V.alloc (.cells #[.int .u8 (dt:Int),.slice dba dbl dbc,.slice dka dkl dkc] 32)) V.heap.size 32 #[.int .u8 (dt:Int),.slice dba dbl dbc,.slice dka dkl dkc]:=Holds.fresh _ _ _
     have y0:(V.alloc (.cells #[.int .u8 (dt:Int),.slice dba dbl dbc,.slice dka dkl dkc] 32)).cell? ⟨V.heap.size,0,none⟩=some (.int .u8 (dt:Int)):=hb9.cell 0
     have y1:(V.alloc (.cells #[.int .u8 (dt:Int),.slice dba dbl dbc,.slice dka dkl dkc] 32)).cell? ⟨V.heap.size,1,none⟩=some (.slice dba dbl dbc):=hb9.cell 1
     have y2:(V.alloc (.cells #[.int .u8 (dt:Int),.slice dba dbl dbc,.slice dka dkl dkc] 32)).cell? ⟨V.heap.size,2,none⟩=some (.slice dka dkl dkc):=hb9.cell 2
     clear hb9
     gi_wp2_with ((try refine ⟨hdd _,?_⟩);gi_at_call 133;refine HC.out.mono ?_;clear HC;rintro e W3 (⟨rfl,ys',hys',hJ3,hp3⟩ | ⟨rfl,ys',hys',hx3⟩))
     ·go_roundw
      case rel=>exact ⟨k+1,ys',by omega,by go_num,Lib.hid hys',hJ3,Lib.hid hp3⟩
      case measure=>simp [intOf];omega
     ·go_ret
      exact .inr ⟨rfl,ys',hys',hx3⟩
    case neg =>
     obtain rfl:k=n:=by omega
     have hkI:¬ ((k:Int)<(k:Int)):=by omega
     have HYE:Hid (ys.map (·.1)=(d,Lt.mk tag ba bc body ka kc kids) :: Lt.itemss kids (d+1)):=Lib.hid (by
      have h:=HYS.out
      rw [List.take_of_length_le (by have:=HN2.out;omega)] at h
      exact h)
     gi_wp2
     go_ret
     exact .inl ⟨rfl,ys,HYE.out,hJk,HPK.out⟩
  ·go_ret
   exact .inr ⟨rfl,[x0],by rw [List.map_cons,HX0.out];exact List.cons_prefix_cons.2 ⟨rfl,List.nil_prefix⟩,hx2⟩
end Go.Proofs.YtcibjcgipfpniaaGreatDoor
namespace Go.Proofs.YtcibjcgipfpniaaGreatDoor
open Go.RowKit Go.Shelf
set_option linter.unusedVariables false
set_option linter.unusedSimpArgs false
attribute [local go_sem] Oper.semAt_some

set_option maxRecDepth 100000 in
set_option maxHeartbeats 1000000 in
theorem all1_in (F:Fence) (hd:F.depth=none) (m:Nat) (h36:F.fn 132) (h37:F.fn 133) (hro:F.round=none) (l Bt c1 c2 B:Nat) (t:Lt) (J Jx:List It→World→Prop) (hJ:∀ s W o,J s W→J s (W.alloc o))
  (hY:∀ pre x W,J pre W→pre.length<t.t.count→YieldAt F (m - 1) Tryz.prog l (itv x) W fun e W' =>
   (e = .returned (.bool true)∧J (pre ++ [x]) W'∧PassX c1 c2 W W')∨(e = .returned (.bool false)∧Jx (pre ++ [x]) W'))
  (W:World) (hBt:Holds W Bt 32 t.cells) (hr:TrAt W B t) (hB1:B≤c1) (hB2:B≤c2) (hc1:c1<W.heap.size) (hc2:c2<W.heap.size) (hmx:t.t.count≤3000000) (h0:J [] W) :
  CallsIn F m Tryz.prog 132 #[.func (.yield l) #[] #[],.pointer (some ⟨Bt,0,none⟩)] W fun e W'=>(∃ v,e = .returned v) ∧
   ((∃ ys:List It,ys.map (·.1)=t.items 1∧J ys W')∨(∃ pre:List It,pre.map (·.1) <+: t.items 1∧Jx pre W')):=by
 have hdd:∀ k:Nat,(F.depth.isSome=true→1≤k):=fun k h=>by rw [hd] at h;cases h
 have anyD:∀ (m':Nat) (args:Array Value) (W:World) (R:Ending→World→Prop),YieldAt F (m - 1) Tryz.prog l args W R→YieldAt F m' Tryz.prog l args W R:=fun m' args W R h=>by
  obtain ⟨fn,tmps,assign,body,hy,hR⟩:=h
  exact ⟨fn,tmps,assign,body,hy,hR.1,fun c cs _=>hR.2 c cs (room_of_none hd _)⟩
 have hp:=Lib.hid (walk_in F hd h37 hro l c1 c2 t.t.count J Jx hJ (fun m' pre x W hj hl=>anyD m' _ _ _ (hY pre x W hj hl)) (t.sz+1) t (Nat.lt_succ_self _) (m - 1) 1 B [] W hr hB1 hB2 hc1 hc2 h0 (by simp) (by omega))
 rw [Lt.val_eq] at hp
 have hcl:t.cells=#[.int .u8 (t.tag:Int),.slice t.ba t.body.length t.bc,.slice t.ka t.kids.length t.kc]:=rfl
 rw [hcl] at hBt
 generalize t.tag=tag at *
 generalize t.ba=ba at *
 generalize t.bc=bc at *
 generalize t.body.length=bl at *
 generalize t.ka=ka at *
 generalize t.kids.length=n at *
 generalize t.kc=kc at *
 have z0:W.cell? ⟨Bt,0,none⟩=some (.int .u8 (tag:Int)):=hBt.cell 0
 have z1:W.cell? ⟨Bt,1,none⟩=some (.slice ba bl bc):=hBt.cell 1
 have z2:W.cell? ⟨Bt,2,none⟩=some (.slice ka n kc):=hBt.cell 2
 clear hcl hBt hY anyD hr hJ
 refine callsIn_of_wp Tryz.func132 rfl h36 ?_ hro
 simp only [Tryz.ntmps132,List.size_toArray,List.length_cons,List.length_nil,Nat.reduceAdd,Nat.reduceSub,Array.replicate_succ,Array.replicate_zero,List.push_toArray,List.append_toArray,List.nil_append,List.cons_append]
 gi_wp2_with ((try refine ⟨hdd _,?_⟩);gi_at_call 133;refine hp.out.mono ?_;clear hp;rintro e W1 (⟨rfl,ys,hys,hJ1,_⟩ | ⟨rfl,ys,hys,hx⟩))
 ·go_end0
  exact ⟨⟨_,rfl⟩,.inl ⟨ys,hys,by simpa using hJ1⟩⟩
 ·go_end0
  exact ⟨⟨_,rfl⟩,.inr ⟨ys,hys,by simpa using hx⟩⟩
set_option maxRecDepth 100000 in
set_option maxHeartbeats 1000000 in
theorem all_in (F:Fence) (m:Nat) (h24:F.fn 107) (hro:F.round=none) (t:Lt) (w:World) :
  CallsIn F m Tryz.prog 107 #[t.val] w fun e w'=>e = .returned (.func (.func 132) #[] #[.pointer (some ⟨w.heap.size,0,none⟩)])∧w'=w.alloc (.cells t.cells 32):=by
 have hcl:t.cells=#[.int .u8 (t.tag:Int),.slice t.ba t.body.length t.bc,.slice t.ka t.kids.length t.kc]:=rfl
 rw [Lt.val_eq,hcl]
 generalize t.tag=tag at *
 generalize t.ba=ba at *
 generalize t.bc=bc at *
 generalize t.body.length=bl at *
 generalize t.ka=ka at *
 generalize t.kids.length=n at *
 generalize t.kc=kc at *
 clear hcl
 refine callsIn_of_wp Tryz.func107 rfl h24 ?_ hro
 simp only [Tryz.ntmps107,List.size_toArray,List.length_cons,List.length_nil,Nat.reduceAdd,Nat.reduceSub,Array.replicate_succ,Array.replicate_zero,List.push_toArray,List.append_toArray,List.nil_append,List.cons_append]
 gi_wp2
 go_ret
 exact ⟨rfl,rfl⟩
theorem all_stops (F:Fence) (hd:F.depth=none) (m:Nat) (h36:F.fn 132) (h37:F.fn 133) (hro:F.round=none) (Bt c1 c2 B:Nat) (t:Lt) (w:World) (hBt:Holds w Bt 32 t.cells) (hr:TrAt w B t) (hB:B≤w.heap.size) (hB1:B≤c1) (hB2:B≤c2) (hc1:c1<w.heap.size) (hc2:c2<w.heap.size) (hmx:t.t.count≤3000000) :
  SeqStopsK F m Tryz.prog 132 #[.pointer (some ⟨Bt,0,none⟩)] itv (PassX c1 c2) (fun ys=>ys.map (·.1)=t.items 1) (fun pre=>pre.map (·.1) <+: t.items 1) t.t.count w:=fun l J Jx W hW hJ _ hY h0 =>
 all1_in F hd m h36 h37 hro l Bt c1 c2 B t J Jx (fun s W' o h=>hJ s W' _ none h (World.grownBy_alloc W' o none) (fun r e=>by cases e)) hY W (hBt.under hW hBt.lt) (hr.under' (hW.mono hB)) hB1 hB2 (Nat.lt_of_lt_of_le hc1 hW.size) (Nat.lt_of_lt_of_le hc2 hW.size) hmx h0
end Go.Proofs.YtcibjcgipfpniaaGreatDoor
namespace Go.Proofs.YtcibjcgipfpniaaGreatDoor
open Go.RowKit Go.Shelf
set_option linter.unusedVariables false
set_option linter.unusedSimpArgs false
attribute [local go_sem] Oper.semAt_some

theorem passX_put {c1 c2:Nat} (W:World) (l:Nat) (o o':Obj) (hl:W.heap[l]?=some o) (ho:o.isCells=false):PassX c1 c2 W (W.putObj l o') :=
 ⟨by simp [World.putObj],fun b k v _ _ hv=>cell_kept hv (grownBy_putObj' W l o') (fun r e=>by cases e;exact ⟨o,hl,ho⟩)⟩
theorem passX_set {c1 c2:Nat} (W:World) (k:Nat) (v:Value) {c:Nat} (hc:c=c1∨c=c2):PassX c1 c2 W (W.setCell ⟨c,k,none⟩ v) :=
 ⟨by simp [World.setCell],fun b o u h1 h2 hu=>by
  rw [World.cell?_of_block (Below.heap_setCell W ⟨c,k,none⟩ v b (by show b≠c;rcases hc with rfl | rfl <;> assumption))]
  exact hu⟩
end Go.Proofs.YtcibjcgipfpniaaGreatDoor
