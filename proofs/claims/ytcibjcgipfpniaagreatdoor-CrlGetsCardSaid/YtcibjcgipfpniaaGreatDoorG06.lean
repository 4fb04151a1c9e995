/- Words and laws for the statement, part 6. -/
import Derived.Laws.IdiomStrings
import Derived.Laws.BytesArg
import Derived.OwnWalk
import Derived.BigRegion
import Derived.BigQuiet
import Derived.Lib.ItoaNum
import Derived.WalkSmall
import Derived.Laws.CopyOwn
import Derived.Deep.Upon
import Derived.Test.YtcibjcgipfpniaaGreatDoorG01
import Derived.Test.YtcibjcgipfpniaaGreatDoorG02
import Derived.Test.YtcibjcgipfpniaaGreatDoorG04
import Derived.Test.YtcibjcgipfpniaaGreatDoorG05
namespace Go.Proofs.YtcibjcgipfpniaaGreatDoor
open Go.RowKit
set_option linter.unusedVariables false

theorem byte_val {l:List Nat} {k x:Nat} (hx:x=l.getD (k / 4) 0):((x:Int) / 2 ^ (k % 4*8) % 256)=((byteAt l k:Nat):Int):=by
 unfold byteAt
 rw [←hx,Nat.mul_comm 8,Int.natCast_emod,Int.natCast_ediv,Int.natCast_pow]
 rfl
theorem byte_val' {l:List Nat} {k x:Nat} (hx:x=l.getD (k / 4) 0):((x:Int) / 2 ^ (8*(k % 4)) % 256)=((byteAt l k:Nat):Int):=by
 rw [←byte_val hx,Nat.mul_comm 8]
theorem fresh_whole {k:IntKind} {T:TypeId} {w':World} {B g c:Nat} {L:List Nat} (h:Row k T w' g L) (hB:B≤g) (hc:L.length≤c) (h63:c≤9223372036854775807):Fresh k T w' B (some ⟨g,0,none⟩) c L:=by
 have:=fresh_row h hB (Nat.le_refl _) hc h63
 rwa [List.take_length] at this

set_option maxRecDepth 100000 in
theorem bytes_yes (w:World) (B:Nat) (A:Option Addr) (c m:Nat) (l:List Nat) (hr:Rd .u32 w B A c l) (hm:l.length=m) (hB:B≤w.heap.size) (hd:Dg l) (hs:l.length≤5000) (n:Nat) (h2:n≤2048) (h3:nb (trl l)≤8*n) :
  Calls Tryz.prog 70 #[.slice A m c,.int .i64 n] w fun e w'=>∃ A2,e = .returned (.tuple #[.slice A2 n n,.bool true])∧Fresh .u8 5 w' w.heap.size A2 n (bytesOf l n)∧Below w.heap.size w w':=by
 subst hm
 have hlc:l.length≤c:=hr.1
 have hc63:c≤9223372036854775807:=hr.2.1
 have hmk:=make_bytes (n:Int) n rfl (by omega)
 go_enter Tryz.func70,Tryz.ntmps70
 go_wp2_with fail
 refine (bits_any w B A c _ l hr rfl hd hs _ rfl).mono ?_
 rintro e w1 ⟨rfl,rfl⟩
 generalize nb (trl l)=yb at *
 go_wp2_with fail
 have hR0:Row .u8 5 (w.alloc (.cells (nums .u8 (List.replicate n 0)) 5)) w.heap.size (List.replicate n 0):=Holds.fresh _ _ _
 clear hmk
 go_loopw [26] (fun si wr=>∃ (i:Nat) (L:List Nat),i≤n∧si = .int .i64 i∧Row .u8 5 wr w.heap.size L∧L.length=n∧Hid (∀ j,j<n→L.getD j 0=if j<i then byteAt l (n - 1 - j) else 0)∧Below w.heap.size w wr)
  (fun si _=>n - (intOf si).toNat)
 case atStart=>exact ⟨0,_,by omega,rfl,hR0,by simp,fun j hj=>by simp [List.getD,hj],(Below.refl _ _).alloc (Nat.le_refl _) _⟩
 case round =>
  obtain ⟨i,L,hi,rfl,hR,hL,HD,hbel⟩:=hrel
  have hz:=Holds.lt hR
  have HL:=Lib.hid hL
  clear hL
  have hfr:=hR.open_
  by_cases h:i<n
  ·obtain ⟨k,hk⟩:∃ k:Nat,n=k+1+i:=⟨n - 1 - i,by omega⟩
   have ek:(n:Int) - 1 - i=k:=by omega
   have hkk:n - 1 - i=k:=by omega
   have Hkk:=Lib.hid hkk
   have hcell:=hR.cell (i:=i) (by rw [HL.out];omega)
   clear hk hkk
   by_cases h4:k / 4<l.length
   ·obtain ⟨b,off,x,rfl,hb,hx,Hx⟩:=(hr.under (hbel.mono hB)).at_ h4
    have hxl:x<4294967296:=by rw [Hx.out];exact hd.at_ _
    have h4':(k:Int) / 4<l.length:=by omega
    go_wp2_with fail
    have hst:=hR.set i (byteAt l k)
    have hp:=bput (i:=i) HL.out HD.out
    rw [Hkk.out] at hp
    exact ⟨⟨i+1,_,by omega,by go_num,by rw [byte_val Hx.out];exact hst,by rw [List.length_set];exact HL.out,hp,hbel.setCell (Nat.le_refl _) _⟩,by simp [intOf];omega⟩
   ·have h4':¬ (k:Int) / 4<l.length:=by omega
    have hp:=bskip h (by rw [Hkk.out];exact byteAt_far (by omega)) HD.out
    have Hp:=Lib.hid hp
    clear hp
    go_wp2_with fail
    exact ⟨⟨i+1,_,by omega,by go_num,hR,HL.out,Hp.out,hbel⟩,by simp [intOf];omega⟩
  ·have hLw:L=bytesOf l n:=bytesOf_eq HL.out (fun j hj=>by rw [HD.out j hj,if_pos (by omega)])
   subst hLw
   go_wp2_with fail
   go_ret2
   exact ⟨_,rfl,fresh_whole hR (Nat.le_refl _) (Nat.le_of_eq HL.out) (by omega),hbel⟩
set_option maxRecDepth 100000 in
theorem bytes'_yes (w:World) (B:Nat) (A:Option Addr) (c m:Nat) (l:List Nat) (hr:Rd .u32 w B A c l) (hm:l.length=m) (hB:B≤w.heap.size) (hd:Dg l) (hs:l.length≤5000) (n:Nat) (h2:n≤2048) (h3:nb l≤8*n) :
  Calls Tryz.prog 85 #[.slice A m c,.int .i64 n] w fun e w'=>∃ A2,e = .returned (.tuple #[.slice A2 n n,.bool true])∧Fresh .u8 5 w' w.heap.size A2 n (bytesOf l n)∧Below w.heap.size w w':=by
 subst hm
 have hlc:l.length≤c:=hr.1
 have hc63:c≤9223372036854775807:=hr.2.1
 have hmk:=make_bytes (n:Int) n rfl (by omega)
 go_enter Tryz.func85,Tryz.ntmps85
 go_wp2_with fail
 refine (bits'_any w B A c l hr hd hs _ rfl).mono ?_
 rintro e w1 ⟨rfl,rfl⟩
 generalize nb l=yb at *
 go_wp2_with fail
 have hR0:Row .u8 5 (w.alloc (.cells (nums .u8 (List.replicate n 0)) 5)) w.heap.size (List.replicate n 0):=Holds.fresh _ _ _
 clear hmk
 go_loopw [7] (fun si wr=>∃ (k:Nat) (L:List Nat),k≤n∧si = .int .i64 k∧Row .u8 5 wr w.heap.size L∧L.length=n∧Hid (∀ j,j<n→L.getD j 0=if n - 1 - j<k then byteAt l (n - 1 - j) else 0)∧Below w.heap.size w wr)
  (fun si _=>n - (intOf si).toNat)
 case atStart=>exact ⟨0,_,by omega,rfl,hR0,by simp,fun j hj=>by simp [List.getD,hj],(Below.refl _ _).alloc (Nat.le_refl _) _⟩
 case round =>
  obtain ⟨k,L,hi,rfl,hR,hL,HD,hbel⟩:=hrel
  have hz:=Holds.lt hR
  have HL:=Lib.hid hL
  clear hL
  have hfr:=hR.open_
  by_cases h:k<n∧k / 4<l.length
  ·obtain ⟨h1,h4⟩:=h
   obtain ⟨b,off,x,rfl,hb,hx,Hx⟩:=(hr.under (hbel.mono hB)).at_ h4
   obtain ⟨i,hi'⟩:∃ i:Nat,n=k+1+i:=⟨n - 1 - k,by omega⟩
   have ek:(n:Int) - 1 - k=i:=by omega
   have Hkk:=Lib.hid (show n - 1 - k=i by omega)
   have hin:(i:Int)<n:=by omega
   have hcell:=hR.cell (i:=i) (by rw [HL.out];omega)
   have hxl:x<4294967296:=by rw [Hx.out];exact hd.at_ _
   have h4':decide ((k:Int) / 4<l.length)=true:=by simp;omega
   clear hi'
   go_wp2_with fail
   have hst:=hR.set i (byteAt l k)
   have hp:=bput' HL.out h1 HD.out
   rw [Hkk.out] at hp
   exact ⟨⟨k+1,_,by omega,by go_num,by rw [byte_val' Hx.out];exact hst,by rw [List.length_set];exact HL.out,hp,hbel.setCell (Nat.le_refl _) _⟩,by simp [intOf];omega⟩
  ·have hLw:L=bytesOf l n:=bytesOf_eq HL.out (bend' (by omega) HD.out)
   subst hLw
   by_cases h1:k<n
   ·have h4':decide ((k:Int) / 4<l.length)=false:=by simp;omega
    go_wp2_with fail
    go_ret2
    exact ⟨_,rfl,fresh_whole hR (Nat.le_refl _) (Nat.le_of_eq HL.out) (by omega),hbel⟩
   ·go_wp2_with fail
    go_ret2
    exact ⟨_,rfl,fresh_whole hR (Nat.le_refl _) (Nat.le_of_eq HL.out) (by omega),hbel⟩
end Go.Proofs.YtcibjcgipfpniaaGreatDoor
namespace Go.Proofs.YtcibjcgipfpniaaGreatDoor
open Go.RowKit
set_option linter.unusedVariables false

/-- The number of at most 1024 bytes; nothing of more. -/
def numOf (b:List Nat):List Nat:=if 1024<b.length then [] else trl (words b)
theorem numOf_far {b:List Nat} (h:1024<b.length):numOf b=[]:=if_pos h
theorem numOf_near {b:List Nat} (h:¬ 1024<b.length):numOf b=trl (words b):=if_neg h
theorem numOf_dg {b:List Nat} (h:Oct b.reverse):Dg (numOf b):=by
 unfold numOf
 split
 ·intro x hx;cases hx
 ·exact trl_dg (words_dg h)
theorem numOf_nrm (b:List Nat):nrm (numOf b):=by
 unfold numOf
 split
 ·exact .inl rfl
 ·exact trl_nrm _
theorem numOf_length (b:List Nat):(numOf b).length≤256:=by
 unfold numOf
 split
 ·simp
 ·have h1:=trl_length (words b)
  have h2:=tlen_le (words b) (words b).length
  have h3:=words_length b
  omega
theorem fresh_nil (k:IntKind) (T:TypeId) (w:World) (B:Nat):Fresh k T w B none 0 []:=⟨Rd.nil_ k w _,fun h=>by simp at h⟩

set_option maxRecDepth 100000 in
theorem of_all (w:World) (B:Nat) (A:Option Addr) (c:Nat) (l:List Nat) (hr:Rd .u8 w B A c l) (hB:B≤w.heap.size) (ho:Oct l.reverse) :
  Calls Tryz.prog 68 #[.slice A l.length c] w fun e w'=>∃ A2 c2,e = .returned (.slice A2 (numOf l).length c2)∧Fresh .u32 59 w' w.heap.size A2 c2 (numOf l)∧Below w.heap.size w w':=by
 by_cases h:1024<l.length
 ·rw [numOf_far h]
  go_enter Tryz.func68,Tryz.ntmps68
  go_wp2_with fail
  go_ret
  exact ⟨none,0,rfl,fresh_nil _ _ _ _,Below.refl _ _⟩
 ·rw [numOf_near h]
  exact of_any w B A c l hr hB ho (by omega)
set_option maxRecDepth 100000 in
theorem of'_all (w:World) (B:Nat) (A:Option Addr) (c:Nat) (l:List Nat) (hr:Rd .u8 w B A c l) (hB:B≤w.heap.size) (ho:Oct l.reverse) :
  Calls Tryz.prog 128 #[.slice A l.length c] w fun e w'=>∃ A2 c2,e = .returned (.slice A2 (numOf l).length c2)∧Fresh .u32 59 w' w.heap.size A2 c2 (numOf l)∧Below w.heap.size w w':=by
 by_cases h:1024<l.length
 ·rw [numOf_far h]
  go_enter Tryz.func128,Tryz.ntmps128
  go_wp2_with fail
  go_ret
  exact ⟨none,0,rfl,fresh_nil _ _ _ _,Below.refl _ _⟩
 ·rw [numOf_near h]
  exact of'_any w B A c l hr hB ho (by omega)

/-- Whether a number goes into so many bytes; those bytes. -/
def fits (l:List Nat) (n:Int):Bool:=decide (0≤n) && decide (n≤2048) && decide ((nb l:Int)≤8*n)
def out (l:List Nat) (n:Int):List Nat:=if fits l n=true then bytesOf l n.toNat else []
end Go.Proofs.YtcibjcgipfpniaaGreatDoor
namespace Go.Proofs.YtcibjcgipfpniaaGreatDoor
open Go.RowKit
set_option linter.unusedVariables false
set_option linter.unusedSimpArgs false

theorem ret_one {R:Ending→World→Prop} {tmps:Array Value} {w:World} {g:Nat} {t:TypeId} {cs:Array Value} {fn:Func} {p:Tmp}
  (hr:fn.results=#[.cell p 32]) (hp:tmps.getD p undef = .pointer (some ⟨g,0,none⟩)) (hg:Holds w g t cs) (hcs:cs.size=3) (hR:R (.returned (.agg cs)) w) :
  bodyPost Tryz.prog fn R .ret { tmps:=tmps,defers:=[] } w:=by
 have hi:(Tryz.prog.info? 32).map (·.size)=some cs.size:=by rw [hcs];kernel_rfl
 refine bodyPost_ret (v:=.agg cs) ?_ rfl hR
 have hp':tmps[p]?.getD undef = .pointer (some ⟨g,0,none⟩):=by simpa using hp
 simp [results,hr,hp',asAddr,run_loadVar_row w g t _ cs (0,0) _ hg Tryz.underlying32 rfl hi,Result.andThen]
/-- Is it a primitive thing of a tag? -/
def heldOk (x kn tag:Nat):Bool:=decide (x=tag) && decide (kn=0)
/-- A primitive thing of these bytes. -/
def IsPrim (v:Value) (w:World) (tag:Nat) (b:List Nat):Prop:=∃ lt:Lt,v=lt.val∧lt.t = .mk tag b []∧TrAt w w.heap.size lt
theorem prim_at {w:World} {A:Option Addr} {c n tag:Nat} {b:List Nat} (ht:tag<256) (hn:b.length=n) (hr:Rd .u8 w w.heap.size A c b) (ho:∀ x∈b,x<256):IsPrim (.agg #[.int .u8 (tag:Int),.slice A n c,.slice none 0 0]) w tag b:=by
 subst hn
 exact ⟨.mk tag A c b none 0 [],rfl,rfl,by rw [trAt_mk];exact ⟨ht,hr,ho,⟨by simp,by omega,fun h=>by simp at h⟩,fun j hj=>by simp at hj⟩⟩
/-- A primitive thing whose bytes lie in memory from block B on. -/
def PrimAt (v:Value) (w:World) (B:Nat) (tag:Nat) (b:List Nat):Prop:=∃ A c,v = .agg #[.int .u8 (tag:Int),.slice A b.length c,.slice none 0 0]∧Rd .u8 w w.heap.size A c b∧(∀ g,blk_of A=some g→B≤g)∧(∀ x∈b,x<256)∧tag<256
theorem PrimAt.is {v:Value} {w:World} {B tag:Nat} {b:List Nat} (h:PrimAt v w B tag b):IsPrim v w tag b:=by
 obtain ⟨A,c,rfl,hr,_,ho,ht⟩:=h
 exact prim_at ht rfl hr ho
theorem PrimAt.under {v:Value} {w w':World} {B tag:Nat} {b:List Nat} (h:PrimAt v w B tag b) (hb:Below w.heap.size w w'):PrimAt v w' B tag b:=by
 obtain ⟨A,c,rfl,hr,hg,ho,ht⟩:=h
 exact ⟨A,c,rfl,(hr.under hb).more hb.size,hg,ho,ht⟩
theorem PrimAt.mono {v:Value} {w:World} {B B' tag:Nat} {b:List Nat} (h:PrimAt v w B tag b) (hB:B'≤B):PrimAt v w B' tag b:=by
 obtain ⟨A,c,rfl,hr,hg,ho,ht⟩:=h
 exact ⟨A,c,rfl,hr,fun g hh=>Nat.le_trans hB (hg g hh),ho,ht⟩
theorem rd_aside {w:World} {B B':Nat} {A:Option Addr} {c:Nat} {b:List Nat} (hr:Rd .u8 w B A c b) (hg:∀ g,blk_of A=some g→B'≤g) {p:Addr} (hp:p.block<B') (u:Value):Rd .u8 (w.setCell p u) B A c b:=by
 refine ⟨hr.1,hr.2.1,fun hn=>?_⟩
 obtain ⟨g,off,rfl,hlt,hc⟩:=hr.2.2 hn
 refine ⟨g,off,rfl,hlt,fun j hj=>?_⟩
 have hne:g≠p.block:=by have:=hg g rfl;omega
 rw [show (w.setCell p u).cell? ⟨g,off+j,none⟩=w.cell? ⟨g,off+j,none⟩ by simp only [World.cell?];rw [Below.heap_setCell w p u g hne]]
 exact hc j hj
theorem PrimAt.store {v:Value} {w:World} {B tag:Nat} {b:List Nat} (h:PrimAt v w B tag b) {p:Addr} (hp:p.block<B) (u:Value):PrimAt v (w.setCell p u) B tag b:=by
 obtain ⟨A,c,rfl,hr,hg,ho,ht⟩:=h
 exact ⟨A,c,rfl,by have:=rd_aside hr hg hp u;rwa [show (w.setCell p u).heap.size=w.heap.size by simp [World.setCell]],hg,ho,ht⟩
theorem lt_parts {lt:Lt} {tag:Nat} {b:List Nat} {k:List Tr} (h:lt.t = .mk tag b k):lt.tag=tag∧lt.body=b∧lt.kids.length=k.length:=by
 rcases lt with ⟨tag,ba,bc,body,ka,kc,kids⟩
 rw [Lt.t_mk] at h
 injection h with h1 h2 h3
 subst h1 h2 h3
 simp [Lt.tag,Lt.body,Lt.kids]
def HeldPost (w:World) (A:Option Addr) (n c:Nat):Bool→Ending→World→Prop
 | true,e,w'=>e = .returned (.tuple #[.slice A n c,.bool true])∧Below w.heap.size w w'
 | false,e,w'=>e = .returned (.tuple #[.slice none 0 0,.bool false])∧Below w.heap.size w w'
def HeldPost' (w:World) (n:Nat) (b:List Nat):Bool→Ending→World→Prop
 | true,e,w'=>∃ A c,e = .returned (.tuple #[.slice A n c,.bool true])∧Mine 5 w' w.heap.size A c b∧Below w.heap.size w w'
 | false,e,w'=>e = .returned (.tuple #[.slice none 0 0,.bool false])∧Below w.heap.size w w'
set_option maxRecDepth 100000 in
set_option maxHeartbeats 2000000 in
theorem held_any (w:World) (x n c kn kc tag:Nat) (A K:Option Addr) :
  Calls Tryz.prog 67 #[.agg #[.int .u8 (x:Int),.slice A n c,.slice K kn kc],.int .u8 (tag:Int)] w (HeldPost w A n c (heldOk x kn tag)):=by
 have hH:=Holds.fresh w 32 #[.int .u8 (x:Int),.slice A n c,.slice K kn kc]
 have HB:Hid (Below w.heap.size w (w.alloc (.cells #[.int .u8 (x:Int),.slice A n c,.slice K kn kc] 32))):=Lib.hid ((Below.refl _ _).alloc (Nat.le_refl _) _)
 have c0:=hH.cell 0
 have c1:=hH.cell 1
 have c2:=hH.cell 2
 by_cases h1:x=tag
 case neg =>
  have HE:Hid (heldOk x kn tag=false):=Lib.hid (by simp [heldOk,h1])
  have b1:((x:Int) != (tag:Int))=true:=by simp;omega
  have d1:decide ((x:Int)=(tag:Int))=false:=decide_eq_false (by omega)
  go_enter Tryz.func67,Tryz.ntmps67
  go_wp2_with fail
  go_ret2
  rw [HE.out]
  exact ⟨rfl,HB.out⟩
 subst h1
 by_cases h2:kn=0
 case neg =>
  have HE:Hid (heldOk x kn x=false):=Lib.hid (by simp [heldOk,h2])
  have d2:decide ((0:Int)<(kn:Int))=true:=decide_eq_true (by omega)
  go_enter Tryz.func67,Tryz.ntmps67
  go_wp2_with fail
  go_ret2
  rw [HE.out]
  exact ⟨rfl,HB.out⟩
 subst h2
 have HE:Hid (heldOk x 0 x=true):=Lib.hid (by simp [heldOk])
 go_enter Tryz.func67,Tryz.ntmps67
 go_wp2_with fail
 go_ret2
 rw [HE.out]
 exact ⟨rfl,HB.out⟩
set_option maxRecDepth 100000 in
set_option maxHeartbeats 2000000 in
theorem held'_any (w:World) (x n c kn kc tag B:Nat) (A K:Option Addr) (b:List Nat) (hr:Rd .u8 w B A c b) (hn:b.length=n) (hB:B≤w.heap.size) (hmx:n≤900000) :
  Calls Tryz.prog 102 #[.agg #[.int .u8 (x:Int),.slice A n c,.slice K kn kc],.int .u8 (tag:Int)] w (HeldPost' w n b (heldOk x kn tag)):=by
 have hH:=Holds.fresh w 32 #[.int .u8 (x:Int),.slice A n c,.slice K kn kc]
 have HB:Hid (Below w.heap.size w (w.alloc (.cells #[.int .u8 (x:Int),.slice A n c,.slice K kn kc] 32))):=Lib.hid ((Below.refl _ _).alloc (Nat.le_refl _) _)
 have c0:=hH.cell 0
 have c1:=hH.cell 1
 have c2:=hH.cell 2
 by_cases h1:x=tag
 case neg =>
  have HE:Hid (heldOk x kn tag=false):=Lib.hid (by simp [heldOk,h1])
  have b1:((x:Int) != (tag:Int))=true:=by simp;omega
  have d1:decide ((x:Int)=(tag:Int))=false:=decide_eq_false (by omega)
  clear hr hn
  go_enter Tryz.func102,Tryz.ntmps102
  go_wp2_with fail
  go_ret2
  rw [HE.out]
  exact ⟨rfl,HB.out⟩
 subst h1
 by_cases h2:kn=0
 case neg =>
  have HE:Hid (heldOk x kn x=false):=Lib.hid (by simp [heldOk,h2])
  have d2:decide ((0:Int)<(kn:Int))=true:=decide_eq_true (by omega)
  clear hr hn
  go_enter Tryz.func102,Tryz.ntmps102
  go_wp2_with fail
  go_ret2
  rw [HE.out]
  exact ⟨rfl,HB.out⟩
 subst h2
 have HE:Hid (heldOk x 0 x=true):=Lib.hid (by simp [heldOk])
 obtain ⟨V,hV⟩:∃ V,V=w.alloc (.cells #[.int .u8 (x:Int),.slice A n c,.slice K 0 kc] 32):=⟨_,rfl⟩
 have hH2:=hH.alloc (.cells #[] 5)
 have k1:=hH2.cell 1
 have hs1:(w.alloc (.cells #[.int .u8 (x:Int),.slice A n c,.slice K 0 kc] 32)).heap.size=w.heap.size+1:=by simp
 have HM1:Hid (Mine 5 ((w.alloc (.cells #[.int .u8 (x:Int),.slice A n c,.slice K 0 kc] 32)).alloc (.cells #[] 5)) w.heap.size (some ⟨w.heap.size+1,0,none⟩) 0 []):=Lib.hid (by
  have h:=Mine.fresh0 (w.alloc (.cells #[.int .u8 (x:Int),.slice A n c,.slice K 0 kc] 32)) w.heap.size (by omega)
  rw [hs1] at h
  exact h)
 have HQ1:Hid (Below w.heap.size w ((w.alloc (.cells #[.int .u8 (x:Int),.slice A n c,.slice K 0 kc] 32)).alloc (.cells #[] 5))):=Lib.hid (HB.out.alloc (by omega) _)
 have HR1:Hid (Rd .u8 ((w.alloc (.cells #[.int .u8 (x:Int),.slice A n c,.slice K 0 kc] 32)).alloc (.cells #[] 5)) B A c b):=Lib.hid (hr.under (HQ1.out.mono hB))
 have HN:=Lib.hid hn
 clear hr hn hV hH hH2
 go_enter Tryz.func102,Tryz.ntmps102
 go_wp2_with (first | (refine wpList_mine (B2:=B) _ rfl (.tmp 16) (.tmp 18) 24 rfl 5 Tryz.underlying24 info_u8 rfl HM1.out rfl rfl HR1.out HN.out HQ1.out.size (by omega) ?_;intro A5 c5 W5 hm5 hg5 hat5) | fail)
 have HQ5:Hid (Below w.heap.size w W5):=Lib.hid (HQ1.out.trans (below_blk hg5 HQ1.out.size (fun g hg=>by simp [blk_of] at hg;omega)))
 have HM5:=Lib.hid hm5
 clear hm5 hg5 hat5
 go_wp2_with fail
 go_ret2
 rw [HE.out]
 exact ⟨A5,c5,by simp,HM5.out,HQ5.out⟩
set_option maxRecDepth 100000 in
set_option maxHeartbeats 2000000 in
theorem prim'_own (w:World) (n c tag B:Nat) (A:Option Addr) (b:List Nat) (hr:Rd .u8 w B A c b) (hn:b.length=n) (hB:B≤w.heap.size) (hmx:n≤900000) (ht:tag<256) (ho:∀ x∈b,x<256) :
  Calls Tryz.prog 81 #[.int .u8 (tag:Int),.slice A n c] w fun e w'=>∃ v,e = .returned v∧PrimAt v w' w.heap.size tag b∧Below w.heap.size w w':=by
 have HO:=Lib.hid ho
 have hZ:=(Holds.fresh w 32 #[.int .u8 0,.slice none 0 0,.slice none 0 0]).alloc (.cells #[] 5)
 have hs1:(w.alloc (.cells #[.int .u8 0,.slice none 0 0,.slice none 0 0] 32)).heap.size=w.heap.size+1:=by simp
 have HM1:Hid (Mine 5 ((w.alloc (.cells #[.int .u8 0,.slice none 0 0,.slice none 0 0] 32)).alloc (.cells #[] 5)) (w.heap.size+1) (some ⟨w.heap.size+1,0,none⟩) 0 []):=Lib.hid (by
  have h:=Mine.fresh0 (w.alloc (.cells #[.int .u8 0,.slice none 0 0,.slice none 0 0] 32)) (w.heap.size+1) (by omega)
  rw [hs1] at h
  exact h)
 have HQ1:Hid (Below w.heap.size w ((w.alloc (.cells #[.int .u8 0,.slice none 0 0,.slice none 0 0] 32)).alloc (.cells #[] 5))):=Lib.hid (((Below.refl _ _).alloc (Nat.le_refl _) _).alloc (by omega) _)
 have HR1:Hid (Rd .u8 ((w.alloc (.cells #[.int .u8 0,.slice none 0 0,.slice none 0 0] 32)).alloc (.cells #[] 5)) B A c b):=Lib.hid (hr.under (HQ1.out.mono hB))
 have HN:=Lib.hid hn
 have HZ:=Lib.hid hZ
 have HS1:Hid (w.heap.size+1≤((w.alloc (.cells #[.int .u8 0,.slice none 0 0,.slice none 0 0] 32)).alloc (.cells #[] 5)).heap.size):=Lib.hid (by simp)
 have HF5:Hid (∀ W,((w.alloc (.cells #[.int .u8 0,.slice none 0 0,.slice none 0 0] 32)).alloc (.cells #[] 5)).grownBy W (blk_of (some ⟨w.heap.size+1,0,none⟩))→Holds W w.heap.size 32 #[.int .u8 0,.slice none 0 0,.slice none 0 0]):=Lib.hid fun W hW=>HZ.out.grown hW (by simp [blk_of])
 clear hr hn hZ hs1 ho
 go_enter Tryz.func81,Tryz.ntmps81
 go_wp2_with (first | (refine wpList_mine (B2:=B) _ rfl (.tmp 6) (.tmp 7) 24 rfl 5 Tryz.underlying24 info_u8 rfl HM1.out rfl rfl HR1.out HN.out HS1.out (by omega) ?_;intro A5 c5 W5 hm5 hg5 hat5;have hz5:=HF5.out _ hg5;have z0:=hz5.cell 0;have z1:=hz5.cell 1;have z2:=hz5.cell 2;have y0:=hz5.open_ 0;have y1:=hz5.open_ 1;have y2:=hz5.open_ 2) | fail)
 have HQ5:Hid (Below w.heap.size w W5):=Lib.hid (HQ1.out.trans (below_blk hg5 HQ1.out.size (fun g hg=>by simp [blk_of] at hg;omega)))
 refine ret_one rfl rfl (((hz5.stored 0 _).stored 1 _).stored 2 _) rfl ?_
 have hne:∀ g,g≠w.heap.size→((((W5.setCell ⟨w.heap.size,0,none⟩ (.int .u8 (tag:Int))).setCell ⟨w.heap.size,1,none⟩ (.slice A5 n c5)).setCell ⟨w.heap.size,2,none⟩ (.slice none 0 0))).heap[g]?=W5.heap[g]?:=fun g hg=>by
  rw [Below.heap_setCell _ ⟨w.heap.size,2,none⟩ _ g hg,Below.heap_setCell _ ⟨w.heap.size,1,none⟩ _ g hg,Below.heap_setCell _ ⟨w.heap.size,0,none⟩ _ g hg]
 have HM6:=hm5.keep fun g hg=>hne g (by have:=(hm5.block hg).1;omega)
 refine ⟨_,rfl,⟨A5,c5,by rw [HN.out];rfl,Mine.rd HM6,fun g hg=>by have:=(HM6.block hg).1;omega,HO.out,ht⟩,((HQ5.out.setCell (p:=⟨w.heap.size,0,none⟩) (Nat.le_refl _) _).setCell (p:=⟨w.heap.size,1,none⟩) (Nat.le_refl _) _).setCell (p:=⟨w.heap.size,2,none⟩) (Nat.le_refl _) _⟩
end Go.Proofs.YtcibjcgipfpniaaGreatDoor
namespace Go.Proofs.YtcibjcgipfpniaaGreatDoor
open Go.RowKit
set_option linter.unusedVariables false
set_option linter.unusedSimpArgs false

/-- A number's bytes. -/
def intB (a:List Nat):List Nat:=bytesOf a (nb a / 8+1)
theorem intB_length (a:List Nat):(intB a).length=nb a / 8+1:=bytesOf_length _ _
theorem intB_oct (a:List Nat):∀ x∈intB a,x<256:=fun x hx=>by
 obtain ⟨i,_,rfl⟩:=List.mem_map.1 hx
 exact byteAt_lt _ _
def strip (b:List Nat):List Nat:=if b.getD 0 0=0∧1<b.length then b.drop 1 else b
/-- Is it a whole number, told in as few bytes as may be? -/
def giOk (b:List Nat):Bool:=decide (0<b.length) && decide (b.getD 0 0<128) && !(decide (b.getD 0 0=0) && decide (1<b.length) && decide (b.getD 1 0<128))
def gi (b:List Nat) (most:Int):Option (List Nat):=if giOk b=true∧(b.length:Int)≤most∧(strip b).length≤1024 then some (numOf (strip b)) else none
def gi' (b:List Nat) (most:Int):Option (List Nat):=if giOk b=true∧(b.length:Int)≤most∧b.length≤1025 then some (numOf (if b.getD 0 0=0 then b.drop 1 else b)) else none
theorem gi_same (b:List Nat) (most:Int) (h:¬ (b.length=1025∧b.getD 0 0≠0)):gi' b most=gi b most:=by
 by_cases h1:giOk b=true∧(b.length:Int)≤most
 ·by_cases h2:b.length≤1025
  ·have h3:(strip b).length≤1024:=by
    unfold strip
    split
    ·rw [List.length_drop];omega
    ·omega
   have e1:gi' b most=some (numOf (if b.getD 0 0=0 then b.drop 1 else b)):=if_pos ⟨h1.1,h1.2,h2⟩
   have e2:gi b most=some (numOf (strip b)):=if_pos ⟨h1.1,h1.2,h3⟩
   rw [e1,e2]
   congr 1
   unfold strip
   by_cases h4:b.getD 0 0=0
   ·rw [if_pos h4]
    by_cases h5:1<b.length
    ·rw [if_pos ⟨h4,h5⟩]
    ·rw [if_neg (fun h=>h5 h.2)]
     have h6:=h1.1
     simp only [giOk,Bool.and_eq_true,decide_eq_true_eq] at h6
     rcases b with _ | ⟨x,_ | ⟨y,b⟩⟩
     ·simp at h6
     ·simp at h4
      subst h4
      decide +kernel
     ·simp at h5
   ·rw [if_neg h4,if_neg (fun h=>h4 h.1)]
  ·have h3:¬ (strip b).length≤1024:=by
    unfold strip
    split
    ·rw [List.length_drop];omega
    ·omega
   have e1:gi' b most=none:=if_neg (fun h=>h2 h.2.2)
   have e2:gi b most=none:=if_neg (fun h=>h3 h.2.2)
   rw [e1,e2]
 ·have e1:gi' b most=none:=if_neg (fun h=>h1 ⟨h.1,h.2.1⟩)
  have e2:gi b most=none:=if_neg (fun h=>h1 ⟨h.1,h.2.1⟩)
  rw [e1,e2]
theorem top_bits (top bl:Nat) (h1:1≤bl) (h32:bl≤31) (hlo:2 ^ (bl - 1)≤top) (hhi:top<2 ^ bl) :
  top / 2 ^ (8*(bl / 8)) % 256<128∧(top / 2 ^ (8*(bl / 8)) % 256=0→8≤bl∧128≤top / 2 ^ (8*(bl / 8 - 1)) % 256):=by
 have h:bl=1∨bl=2∨bl=3∨bl=4∨bl=5∨bl=6∨bl=7∨bl=8∨bl=9∨bl=10∨bl=11∨bl=12∨bl=13∨bl=14∨bl=15∨bl=16∨bl=17∨bl=18∨bl=19∨bl=20∨bl=21∨bl=22∨bl=23∨bl=24∨bl=25∨bl=26∨bl=27∨bl=28∨bl=29∨bl=30∨bl=31:=by omega
 rcases h with rfl | rfl | rfl | rfl | rfl | rfl | rfl | rfl | rfl | rfl | rfl | rfl | rfl | rfl | rfl | rfl | rfl | rfl | rfl | rfl | rfl | rfl | rfl | rfl | rfl | rfl | rfl | rfl | rfl | rfl | rfl <;> simp only [Nat.reduceSub,Nat.reducePow,Nat.reduceDiv,Nat.reduceMul] at hlo hhi ⊢ <;> omega
/-- What is known of a number's topmost digit. -/
theorem nb_top {a:List Nat} (hd:Dg a) (hn:nrm a) (h0:a.length≠0):∃ m top bl,a.length=m+1∧a.getD m 0=top∧nb a=32*m+bl∧1≤bl∧bl≤32∧2 ^ (bl - 1)≤top∧top<2 ^ bl:=by
 obtain ⟨m,hm⟩:∃ m,a.length=m+1:=⟨a.length - 1,by omega⟩
 have ht:a.getD m 0≠0:=by
  rcases hn with h | h
  ·exact absurd h h0
  ·rw [hm] at h;simpa using h
 have htd:a.getD m 0<4294967296:=by
  rw [List.getD_eq_getElem?_getD]
  rcases h:a[m]? with _ | y
  ·simp
  ·exact hd y (List.mem_of_getElem? h)
 have hb:=Lib.bitLenAux_bounds 64 (a.getD m 0) (by omega) ht
 have hle:=Lib.bitLen_le (a.getD m 0) 32 (by omega) (by omega)
 exact ⟨m,_,Lib.bitLen (a.getD m 0),hm,rfl,nb_succ hm,hb.1,hle,hb.2.1,hb.2.2⟩
theorem byteAt_high {a:List Nat} (hd:Dg a) (hn:nrm a) {k:Nat} (h:nb a≤8*k):byteAt a k=0:=by
 by_cases h0:a.length=0
 ·exact byteAt_far (by omega)
 obtain ⟨m,top,bl,h1,h2,h3,h4,h5,h6,h7⟩:=nb_top hd hn h0
 by_cases hk:k / 4≤m
 ·have hk2:k / 4=m:=by omega
  unfold byteAt
  rw [hk2,h2]
  have:top<2 ^ (8*(k % 4)):=Nat.lt_of_lt_of_le h7 (Nat.pow_le_pow_right (by omega) (by omega))
  rw [Nat.div_eq_of_lt this]
 ·exact byteAt_far (by omega)
theorem giOk_int {a:List Nat} (hd:Dg a) (hn:nrm a):giOk (intB a)=true:=by
 by_cases h0:a.length=0
 ·obtain rfl:=List.eq_nil_of_length_eq_zero h0
  decide +kernel
 obtain ⟨m,top,bl,h1,h2,h3,h4,h5,h6,h7⟩:=nb_top hd hn h0
 have e0:(intB a).getD 0 0=byteAt a (nb a / 8):=by
  unfold intB
  rw [bytesOf_at a (by omega),Nat.add_sub_cancel,Nat.sub_zero]
 have e1:1<(intB a).length→(intB a).getD 1 0=byteAt a (nb a / 8 - 1):=fun h=>by
  unfold intB at h ⊢
  rw [bytesOf_length] at h
  rw [bytesOf_at a h,Nat.add_sub_cancel]
 have key:byteAt a (nb a / 8)<128∧(byteAt a (nb a / 8)=0→1<(intB a).length→128≤byteAt a (nb a / 8 - 1)):=by
  rcases Nat.lt_or_ge bl 32 with hb | hb
  ·have ht:=top_bits top bl h4 (by omega) h6 h7
   have k1:nb a / 8 / 4=m:=by omega
   have k2:nb a / 8 % 4=bl / 8:=by omega
   have e:byteAt a (nb a / 8)=top / 2 ^ (8*(bl / 8)) % 256:=by unfold byteAt;rw [k1,k2,h2]
   rw [e]
   refine ⟨ht.1,fun hz _=>?_⟩
   obtain ⟨t1,t2⟩:=ht.2 hz
   have k3:(nb a / 8 - 1) / 4=m:=by omega
   have k4:(nb a / 8 - 1) % 4=bl / 8 - 1:=by omega
   unfold byteAt
   rw [k3,k4,h2]
   exact t2
  ·obtain rfl:bl=32:=by omega
   rw [byteAt_far (by omega)]
   refine ⟨by omega,fun _ _=>?_⟩
   have k3:(nb a / 8 - 1) / 4=m:=by omega
   have k4:(nb a / 8 - 1) % 4=3:=by omega
   unfold byteAt
   rw [k3,k4,h2]
   simp only [Nat.reduceSub,Nat.reducePow,Nat.reduceMul] at h6 h7 ⊢
   omega
 unfold giOk
 rw [e0]
 have hl:0<(intB a).length:=by rw [intB_length];omega
 by_cases hz:byteAt a (nb a / 8)=0
 ·by_cases h1l:1<(intB a).length
  ·have:=key.2 hz h1l
   rw [e1 h1l]
   simp [hl,hz]
   omega
  ·simp [hl,hz,h1l]
 ·simp [hl,hz,key.1]
theorem numOf_bytesOf {a:List Nat} (hd:Dg a) (hn:nrm a) {n:Nat} (h:nb a≤8*n) (h1:n≤1024):numOf (bytesOf a n)=a:=by
 have hl:a.length≤(n+3) / 4:=by
  by_cases h0:a.length=0
  ·omega
  ·obtain ⟨m,top,bl,g1,g2,g3,g4,_⟩:=nb_top hd hn h0
   omega
 have hb:(bytesOf a n).length=n:=bytesOf_length _ _
 have ho:Oct (bytesOf a n).reverse:=oct_rev fun x hx=>by
  obtain ⟨i,_,rfl⟩:=List.mem_map.1 hx
  exact byteAt_lt _ _
 have hrev:∀ k,(bytesOf a n).reverse.getD k 0=byteAt a k:=fun k=>by
  by_cases hk:k<n
  ·rw [rev_at (i:=n - 1 - k) (by rw [hb];omega),bytesOf_at a (by omega)]
   congr 1
   omega
  ·rw [byteAt_high hd hn (by omega),List.getD_eq_getElem?_getD,List.getElem?_eq_none (by rw [List.length_reverse,hb];omega)]
   rfl
 have hat:∀ j,(trl (words (bytesOf a n))).getD j 0=a.getD j 0:=fun j=>by
  rw [trl_at]
  by_cases hj:j<(n+3) / 4
  ·rw [words_at _ (by rw [hb];exact hj)]
   unfold part
   rw [if_pos (by omega),if_pos (by omega),if_pos (by omega),if_pos (by omega),hrev,hrev,hrev,hrev]
   unfold byteAt
   rw [show 4*j / 4=j by omega,show (4*j+1) / 4=j by omega,show (4*j+2) / 4=j by omega,show (4*j+3) / 4=j by omega,show 4*j % 4=0 by omega,show (4*j+1) % 4=1 by omega,show (4*j+2) % 4=2 by omega,show (4*j+3) % 4=3 by omega]
   have hlt:a.getD j 0<4294967296:=by
    rw [List.getD_eq_getElem?_getD]
    rcases hq:a[j]? with _ | y
    ·simp
    ·exact hd y (List.mem_of_getElem? hq)
   simp only [Nat.reduceMul,Nat.reducePow]
   omega
  ·rw [List.getD_eq_getElem?_getD,List.getElem?_eq_none (by rw [words_length,hb];omega),List.getD_eq_getElem?_getD,List.getElem?_eq_none (by omega)]
 rw [numOf_near (by rw [hb];omega)]
 have hlen:(trl (words (bytesOf a n))).length=a.length:=by
  have n1:=trl_nrm (words (bytesOf a n))
  rcases Nat.lt_trichotomy (trl (words (bytesOf a n))).length a.length with hc | hc | hc
  ·exfalso
   rcases hn with h0 | h0
   ·omega
   ·rw [←hat,List.getD_eq_getElem?_getD,List.getElem?_eq_none (by omega)] at h0
    exact h0 rfl
  ·exact hc
  ·exfalso
   rcases n1 with h0 | h0
   ·omega
   ·rw [hat,List.getD_eq_getElem?_getD,List.getElem?_eq_none (by omega)] at h0
    exact h0 rfl
 apply List.ext_getElem hlen
 intro j j1 j2
 have:=hat j
 simpa [List.getD,j1,j2] using this
theorem int_fits {a:List Nat} (hd:Dg a) (hn:nrm a) (hl:a.length≤256):nb a / 8+1≤1025:=by
 by_cases h0:a.length=0
 ·rw [nb_nil h0];omega
 ·obtain ⟨m,top,bl,g1,g2,g3,g4,g5,_⟩:=nb_top hd hn h0
  omega
/-- A number's thing is that number again. -/
theorem gi_int {a:List Nat} (hd:Dg a) (hn:nrm a) (hl:a.length≤256) {most:Int} (hm:((nb a / 8+1:Nat):Int)≤most):gi (intB a) most=some a:=by
 have hf:=int_fits hd hn hl
 have e0:(intB a).getD 0 0=byteAt a (nb a / 8):=by
  unfold intB
  rw [bytesOf_at a (by omega),Nat.add_sub_cancel,Nat.sub_zero]
 have hs:numOf (strip (intB a))=a∧(strip (intB a)).length≤1024:=by
  unfold strip
  by_cases hz:(intB a).getD 0 0=0∧1<(intB a).length
  ·rw [if_pos hz]
   have hz2:=hz.2
   rw [intB_length] at hz2
   have e1:(intB a).drop 1=bytesOf a (nb a / 8):=by
    refine bytesOf_eq (by rw [List.length_drop,intB_length,Nat.add_sub_cancel]) fun j hj=>?_
    have:((intB a).drop 1).getD j 0=(intB a).getD (j+1) 0:=by simp [List.getD,Nat.add_comm]
    rw [this]
    unfold intB
    rw [bytesOf_at a (by omega)]
    congr 1
    omega
   have hfit:nb a≤8*(nb a / 8):=by
    by_cases h0:a.length=0
    ·rw [nb_nil h0];omega
    obtain ⟨m,top,bl,g1,g2,g3,g4,g5,g6,g7⟩:=nb_top hd hn h0
    by_cases hb:bl % 8=0
    ·omega
    ·exfalso
     have hzz:=hz.1
     rw [e0] at hzz
     have k1:nb a / 8 / 4=m:=by omega
     have k2:nb a / 8 % 4=bl / 8:=by omega
     unfold byteAt at hzz
     rw [k1,k2,g2] at hzz
     have ht:=(top_bits top bl g4 (by omega) g6 g7).1
     have h8:8*(bl / 8)≤bl - 1:=by omega
     have h9:2 ^ (8*(bl / 8))≤top:=Nat.le_trans (Nat.pow_le_pow_right (by omega) h8) g6
     have h10:1≤top / 2 ^ (8*(bl / 8)):=(Nat.le_div_iff_mul_le (Nat.pow_pos (by omega))).2 (by omega)
     have h11:top / 2 ^ (8*(bl / 8))<256:=(Nat.div_lt_iff_lt_mul (Nat.pow_pos (by omega))).2 (by
      rw [show 256=2 ^ 8 from rfl,←Nat.pow_add]
      exact Nat.lt_of_lt_of_le g7 (Nat.pow_le_pow_right (by omega) (by omega)))
     omega
   rw [e1]
   exact ⟨numOf_bytesOf hd hn hfit (by omega),by rw [bytesOf_length];omega⟩
  ·rw [if_neg hz]
   rcases Nat.lt_or_ge (nb a / 8+1) 1025 with h | h
   ·unfold intB
    exact ⟨numOf_bytesOf hd hn (by omega) (by omega),by rw [bytesOf_length];omega⟩
   ·exfalso
    apply hz
    refine ⟨?_,by rw [intB_length];omega⟩
    rw [e0,byteAt_far]
    omega
 have:gi (intB a) most=some (numOf (strip (intB a))):=if_pos ⟨giOk_int hd hn,by rw [intB_length];exact hm,hs.2⟩
 rw [this,hs.1]
theorem gi_int_far {a:List Nat} {most:Int} (hm:most<((nb a / 8+1:Nat):Int)):gi (intB a) most=none:=if_neg fun h=>by
 have:=h.2.1
 rw [intB_length] at this
 omega
end Go.Proofs.YtcibjcgipfpniaaGreatDoor
namespace Go.Proofs.YtcibjcgipfpniaaGreatDoor
open Go.RowKit
set_option linter.unusedVariables false
set_option linter.unusedSimpArgs false

def GetIntPost (w:World):Option (List Nat)→Ending→World→Prop
 | none,e,w'=>e = .returned (.tuple #[.slice none 0 0,.bool false])∧Below w.heap.size w w'
 | some l,e,w'=>∃ A c,e = .returned (.tuple #[.slice A l.length c,.bool true])∧Rd .u32 w' w'.heap.size A c l∧Below w.heap.size w w'
def GetIntOwn (w:World):Option (List Nat)→Ending→World→Prop
 | none,e,w'=>e = .returned (.tuple #[.slice none 0 0,.bool false])∧Below w.heap.size w w'
 | some l,e,w'=>∃ A c,e = .returned (.tuple #[.slice A l.length c,.bool true])∧Fresh .u32 59 w' w.heap.size A c l∧Below w.heap.size w w'
theorem GetIntOwn.post {w w':World} {o:Option (List Nat)} {e:Ending} (h:GetIntOwn w o e w'):GetIntPost w o e w':=by
 cases o with
 | none=>exact h
 | some l =>
  obtain ⟨A,c,he,hf,hb⟩:=h
  exact ⟨A,c,he,hf.1,hb⟩
theorem Fresh.less {k:IntKind} {T:TypeId} {w:World} {B B':Nat} {A:Option Addr} {c:Nat} {r:List Nat} (h:Fresh k T w B A c r) (hB:B'≤B):Fresh k T w B' A c r :=
 ⟨h.1,fun hn=>by
  obtain ⟨g,L,e,hb,hr⟩:=h.2 hn
  exact ⟨g,L,e,Nat.le_trans hB hb,hr⟩⟩
theorem of_at (w:World) (B:Nat) (A:Option Addr) (c n:Nat) (l:List Nat) (hn:l.length=n) (hr:Rd .u8 w B A c l) (hB:B≤w.heap.size) (ho:∀ x∈l,x<256) :
  Calls Tryz.prog 68 #[.slice A n c] w fun e w'=>∃ A2 c2,e = .returned (.slice A2 (numOf l).length c2)∧Fresh .u32 59 w' w.heap.size A2 c2 (numOf l)∧Below w.heap.size w w':=by
 subst hn
 exact of_all w B A c l hr hB (oct_rev ho)
theorem of'_at (w:World) (B:Nat) (A:Option Addr) (c n:Nat) (l:List Nat) (hn:l.length=n) (hr:Rd .u8 w B A c l) (hB:B≤w.heap.size) (ho:∀ x∈l,x<256) :
  Calls Tryz.prog 128 #[.slice A n c] w fun e w'=>∃ A2 c2,e = .returned (.slice A2 (numOf l).length c2)∧Fresh .u32 59 w' w.heap.size A2 c2 (numOf l)∧Below w.heap.size w w':=by
 subst hn
 exact of'_all w B A c l hr hB (oct_rev ho)
theorem gi_no {b:List Nat} {most:Int} (h:¬ (giOk b=true∧(b.length:Int)≤most∧(strip b).length≤1024)):gi b most=none:=if_neg h
theorem gi_yes {b:List Nat} {most:Int} (h1:giOk b=true) (h2:(b.length:Int)≤most) (h3:(strip b).length≤1024):gi b most=some (numOf (strip b)):=if_pos ⟨h1,h2,h3⟩
theorem giOk_iff {b:List Nat}:giOk b=true↔0<b.length∧b.getD 0 0<128∧¬ (b.getD 0 0=0∧1<b.length∧b.getD 1 0<128):=by
 unfold giOk
 simp only [Bool.and_eq_true,decide_eq_true_eq,Bool.not_eq_true',Bool.and_eq_false_iff,decide_eq_false_iff_not]
 omega
set_option maxRecDepth 100000 in
set_option maxHeartbeats 4000000 in
theorem getInt_own (w:World) (x n c kn kc B:Nat) (A K:Option Addr) (b:List Nat) (most:Int) (hr:Rd .u8 w B A c b) (hn:b.length=n) (hB:B≤w.heap.size) (ho:∀ y∈b,y<256) :
  Calls Tryz.prog 28 #[.agg #[.int .u8 (x:Int),.slice A n c,.slice K kn kc],.int .i64 most] w (GetIntOwn w (if heldOk x kn 2=true then gi b most else none)):=by
 have hH:=Holds.fresh w 32 #[.int .u8 (x:Int),.slice A n c,.slice K kn kc]
 have HB0:Hid (Below w.heap.size w (w.alloc (.cells #[.int .u8 (x:Int),.slice A n c,.slice K kn kc] 32))):=Lib.hid ((Below.refl _ _).alloc (Nat.le_refl _) _)
 have c0:=hH.cell 0
 have c1:=hH.cell 1
 have c2:=hH.cell 2
 have hlc:n≤c:=by rw [←hn];exact hr.1
 have hc63:=hr.2.1
 have HK:=Lib.hid (held_any (w.alloc (.cells #[.int .u8 (x:Int),.slice A n c,.slice K kn kc] 32)) x n c kn kc 2 A K)
 have HR:=Lib.hid hr
 have HN:=Lib.hid hn
 have HO:=Lib.hid ho
 clear hr hn ho
 rcases hok:heldOk x kn 2 with _ | _
 case false =>
  rw [hok] at HK
  go_enter Tryz.func28,Tryz.ntmps28
  go_wp2_with fail
  refine HK.out.mono ?_
  rintro e w2 ⟨rfl,hb2⟩
  have HQ:=Lib.hid (HB0.out.trans (hb2.mono HB0.out.size))
  clear hb2 HK
  go_wp2_with fail
  go_ret2
  exact ⟨rfl,HQ.out⟩
 rw [hok] at HK
 rw [if_pos rfl]
 by_cases h0:n=0
 case pos =>
  have HE:Hid (gi b most=none):=Lib.hid (gi_no fun h=>by have:=(giOk_iff.1 h.1).1;have:=HN.out;omega)
  subst h0
  go_enter Tryz.func28,Tryz.ntmps28
  go_wp2_with fail
  refine HK.out.mono ?_
  rintro e w2 ⟨rfl,hb2⟩
  have HQ:=Lib.hid (HB0.out.trans (hb2.mono HB0.out.size))
  clear hb2 HK
  go_wp2_with fail
  go_ret2
  rw [HE.out]
  exact ⟨rfl,HQ.out⟩
 have d0:decide ((n:Int)=0)=false:=decide_eq_false (by omega)
 have q0:((n:Int) == 0)=false:=by simp;omega
 by_cases h1:most<(n:Int)
 case pos =>
  have HE:Hid (gi b most=none):=Lib.hid (gi_no fun h=>by have:=h.2.1;have:=HN.out;omega)
  have d1:decide (most<(n:Int))=true:=decide_eq_true h1
  go_enter Tryz.func28,Tryz.ntmps28
  go_wp2_with fail
  refine HK.out.mono ?_
  rintro e w2 ⟨rfl,hb2⟩
  have HQ:=Lib.hid (HB0.out.trans (hb2.mono HB0.out.size))
  clear hb2 HK
  go_wp2_with fail
  go_ret2
  rw [HE.out]
  exact ⟨rfl,HQ.out⟩
 have d1:decide (most<(n:Int))=false:=decide_eq_false h1
 have hn1:1≤n:=by omega
 obtain ⟨k,off,rfl,hk,hcs⟩:=HR.out.2.2 (by rw [HN.out];omega)
 have HC:Hid (∀ W,Below w.heap.size w W→∀ j,j<n→W.cell? ⟨k,off+j,none⟩=some (.int .u8 ((b.getD j 0:Nat):Int))):=Lib.hid fun W hW j hj=>by
  rw [hW.cell (p:=⟨k,off+j,none⟩) (by show k<_;omega)]
  exact hcs j (by rw [HN.out];exact hj)
 have h2561:b.getD 0 0<256:=by
  rw [List.getD_eq_getElem?_getD]
  rcases h:b[0]? with _ | y
  ·simp
  ·exact HO.out y (List.mem_of_getElem? h)
 have h2562:b.getD 1 0<256:=by
  rw [List.getD_eq_getElem?_getD]
  rcases h:b[1]? with _ | y
  ·simp
  ·exact HO.out y (List.mem_of_getElem? h)
 clear hcs
 by_cases h2:128≤b.getD 0 0
 case pos =>
  have HE:Hid (gi b most=none):=Lib.hid (gi_no fun h=>by have:=(giOk_iff.1 h.1).2.1;omega)
  have d2:decide (128≤((b.getD 0 0:Nat):Int))=true:=decide_eq_true (by omega)
  go_enter Tryz.func28,Tryz.ntmps28
  go_wp2_with fail
  refine HK.out.mono ?_
  rintro e w2 ⟨rfl,hb2⟩
  have hq:=HB0.out.trans (hb2.mono HB0.out.size)
  have HQ:=Lib.hid hq
  have e0:w2.cell? ⟨k,off,none⟩=some (.int .u8 ((b.getD 0 0:Nat):Int)):=HC.out _ hq 0 (by omega)
  generalize b.getD 0 0=y0 at *
  clear hb2 HK hq
  go_wp2_with fail
  go_ret2
  rw [HE.out]
  exact ⟨rfl,HQ.out⟩
 have d2:decide (128≤((b.getD 0 0:Nat):Int))=false:=decide_eq_false (by omega)
 by_cases h3:b.getD 0 0=0∧1<n
 case pos =>
  have hs3:strip b=b.drop 1:=if_pos ⟨h3.1,by rw [HN.out];exact h3.2⟩
  have h31:=h3.2
  have h30:=h3.1
  have d3:decide ((1:Int)<(n:Int))=true:=decide_eq_true (by omega)
  have HL:Hid ((b.drop 1).length=n - 1):=Lib.hid (by rw [List.length_drop,HN.out])
  have HRD:Hid (∀ W,Below w.heap.size w W→Rd .u8 W B (some ⟨k,off+1,none⟩) (c - 1) (b.drop 1)):=Lib.hid fun W hW=>by
   have h:=(HR.out.under (hW.mono hB)).drop 1 (by rw [HN.out];omega)
   unfold dropA at h
   rw [if_neg (by omega)] at h
   exact h
  have HSL:Hid (∀ W:World,(Instr.sliceAt 24 (.slice (some ⟨k,off,none⟩) n c) (some (.int .i64 1)) none none).run Tryz.prog W = .ok (.slice (some ⟨k,off+1,none⟩) (n - 1) (c - 1)) W):=Lib.hid fun W=>by
   have h:=run_drop W (some ⟨k,off,none⟩) n c 1 (by omega) hlc
   unfold dropA at h
   rw [if_neg (by omega)] at h
   exact h
  have hnI:((n - 1:Nat):Int)=(n:Int) - 1:=by omega
  have hm1:1≤n - 1:=by omega
  have hmc:n - 1≤c - 1:=by omega
  by_cases h4:b.getD 1 0<128
  case pos =>
   have HE:Hid (gi b most=none):=Lib.hid (gi_no fun h=>(giOk_iff.1 h.1).2.2 ⟨h30,by rw [HN.out];exact h31,h4⟩)
   have d4:decide (((b.getD 1 0:Nat):Int)<128)=true:=decide_eq_true (by omega)
   go_enter Tryz.func28,Tryz.ntmps28
   go_wp2_with fail
   refine HK.out.mono ?_
   rintro e w2 ⟨rfl,hb2⟩
   have hq:=HB0.out.trans (hb2.mono HB0.out.size)
   have HQ:=Lib.hid hq
   have e0:w2.cell? ⟨k,off,none⟩=some (.int .u8 ((b.getD 0 0:Nat):Int)):=HC.out _ hq 0 (by omega)
   have e1:w2.cell? ⟨k,off+1,none⟩=some (.int .u8 ((b.getD 1 0:Nat):Int)):=HC.out _ hq 1 (by omega)
   have hsl:=HSL.out w2
   rw [h30] at e0 d2
   generalize b.getD 1 0=y1 at *
   clear hb2 HK hq h3 h30 hs3
   go_wp2_with fail
   go_ret2
   rw [HE.out]
   exact ⟨rfl,HQ.out⟩
  have d4:decide (((b.getD 1 0:Nat):Int)<128)=false:=decide_eq_false (by omega)
  by_cases h5:1024<n - 1
  case pos =>
   have HE:Hid (gi b most=none):=Lib.hid (gi_no fun h=>by have:=h.2.2;rw [hs3,HL.out] at this;omega)
   have d5:decide ((1024:Int)<((n - 1:Nat):Int))=true:=decide_eq_true (by omega)
   go_enter Tryz.func28,Tryz.ntmps28
   go_wp2_with fail
   refine HK.out.mono ?_
   rintro e w2 ⟨rfl,hb2⟩
   have hq:=HB0.out.trans (hb2.mono HB0.out.size)
   have HQ:=Lib.hid hq
   have e0:w2.cell? ⟨k,off,none⟩=some (.int .u8 ((b.getD 0 0:Nat):Int)):=HC.out _ hq 0 (by omega)
   have e1:w2.cell? ⟨k,off+1,none⟩=some (.int .u8 ((b.getD 1 0:Nat):Int)):=HC.out _ hq 1 (by omega)
   have hsl:=HSL.out w2
   rw [h30] at e0 d2
   generalize b.getD 1 0=y1 at *
   generalize n - 1=m at *
   clear hb2 HK hq h3 h30 hs3 hnI
   go_wp2_with fail
   go_ret2
   rw [HE.out]
   exact ⟨rfl,HQ.out⟩
  have HE:Hid (gi b most=some (numOf (b.drop 1))):=Lib.hid (by
   have h:=gi_yes (b:=b) (most:=most) (giOk_iff.2 ⟨by have:=HN.out;omega,by omega,fun h=>h4 h.2.2⟩) (by have:=HN.out;omega) (by rw [hs3,HL.out];omega)
   rw [hs3] at h
   exact h)
  have d5:decide ((1024:Int)<((n - 1:Nat):Int))=false:=decide_eq_false (by omega)
  go_enter Tryz.func28,Tryz.ntmps28
  go_wp2_with fail
  refine HK.out.mono ?_
  rintro e w2 ⟨rfl,hb2⟩
  have hq:=HB0.out.trans (hb2.mono HB0.out.size)
  have HQ:=Lib.hid hq
  have e0:w2.cell? ⟨k,off,none⟩=some (.int .u8 ((b.getD 0 0:Nat):Int)):=HC.out _ hq 0 (by omega)
  have e1:w2.cell? ⟨k,off+1,none⟩=some (.int .u8 ((b.getD 1 0:Nat):Int)):=HC.out _ hq 1 (by omega)
  have hsl:=HSL.out w2
  have HOF:=Lib.hid (of_at w2 B _ (c - 1) (n - 1) (b.drop 1) HL.out (HRD.out _ hq) (Nat.le_trans hB hq.size) (fun y hy=>HO.out y (List.mem_of_mem_drop hy)))
  rw [h30] at e0 d2
  generalize b.getD 1 0=y1 at *
  generalize n - 1=m at *
  clear hb2 HK hq h3 h30 hs3 hnI
  go_wp2_with fail
  refine HOF.out.mono ?_
  rintro e w3 ⟨A3,c3,rfl,hf3,hb3⟩
  have HQ3:=Lib.hid (HQ.out.trans (hb3.mono HQ.out.size))
  have HF3:=Lib.hid (hf3.less HQ.out.size)
  clear hb3 hf3 HOF
  generalize hll:(numOf (b.drop 1)).length=ll at *
  go_wp2_with fail
  go_ret2
  rw [HE.out]
  exact ⟨A3,c3,by subst hll;rfl,HF3.out,HQ3.out⟩
 case neg =>
  have hs3:strip b=b:=if_neg (by rw [HN.out];exact h3)
  have ht:(decide (((b.getD 0 0:Nat):Int)=0) && decide ((1:Int)<(n:Int)))=false:=by
   rw [Bool.and_eq_false_iff,decide_eq_false_iff_not,decide_eq_false_iff_not]
   omega
  by_cases h5:1024<n
  case pos =>
   have HE:Hid (gi b most=none):=Lib.hid (gi_no fun h=>by have:=h.2.2;rw [hs3,HN.out] at this;omega)
   have d5:decide ((1024:Int)<(n:Int))=true:=decide_eq_true (by omega)
   have h6:b.getD 0 0≠0:=fun h=>h3 ⟨h,by omega⟩
   have d6:decide (((b.getD 0 0:Nat):Int)=0)=false:=decide_eq_false (by omega)
   have q6:(((b.getD 0 0:Nat):Int) == 0)=false:=by rw [beq_eq_false_iff_ne];omega
   go_enter Tryz.func28,Tryz.ntmps28
   go_wp2_with fail
   refine HK.out.mono ?_
   rintro e w2 ⟨rfl,hb2⟩
   have hq:=HB0.out.trans (hb2.mono HB0.out.size)
   have HQ:=Lib.hid hq
   have e0:w2.cell? ⟨k,off,none⟩=some (.int .u8 ((b.getD 0 0:Nat):Int)):=HC.out _ hq 0 (by omega)
   generalize b.getD 0 0=y0 at *
   clear hb2 HK hq h3 hs3 ht
   go_wp2_with fail
   go_ret2
   rw [HE.out]
   exact ⟨rfl,HQ.out⟩
  have d5:decide ((1024:Int)<(n:Int))=false:=decide_eq_false (by omega)
  have HE:Hid (gi b most=some (numOf b)):=Lib.hid (by
   have h:=gi_yes (b:=b) (most:=most) (giOk_iff.2 ⟨by have:=HN.out;omega,by omega,fun h=>h3 ⟨h.1,by have:=h.2.1;have:=HN.out;omega⟩⟩) (by have:=HN.out;omega) (by rw [hs3,HN.out];omega)
   rw [hs3] at h
   exact h)
  have HOF:Hid (∀ W,Below w.heap.size w W→Calls Tryz.prog 68 #[.slice (some ⟨k,off,none⟩) n c] W fun e w'=>∃ A2 c2,e = .returned (.slice A2 (numOf b).length c2)∧Fresh .u32 59 w' W.heap.size A2 c2 (numOf b)∧Below W.heap.size W w'):=Lib.hid fun W hW=>of_at W B _ c n b HN.out (HR.out.under (hW.mono hB)) (Nat.le_trans hB hW.size) HO.out
  by_cases h6:b.getD 0 0=0
  case pos =>
   have h7:n=1:=by omega
   subst h7
   go_enter Tryz.func28,Tryz.ntmps28
   go_wp2_with fail
   refine HK.out.mono ?_
   rintro e w2 ⟨rfl,hb2⟩
   have hq:=HB0.out.trans (hb2.mono HB0.out.size)
   have HQ:=Lib.hid hq
   have e0:w2.cell? ⟨k,off,none⟩=some (.int .u8 ((b.getD 0 0:Nat):Int)):=HC.out _ hq 0 (by omega)
   rw [h6] at e0 d2
   have HOF2:=Lib.hid (HOF.out _ hq)
   clear hb2 HK hq h3 h6 hs3 ht
   go_wp2_with fail
   refine HOF2.out.mono ?_
   rintro e w3 ⟨A3,c3,rfl,hf3,hb3⟩
   have HQ3:=Lib.hid (HQ.out.trans (hb3.mono HQ.out.size))
   have HF3:=Lib.hid (hf3.less HQ.out.size)
   clear hb3 hf3 HOF HOF2
   generalize hll:(numOf b).length=ll at *
   go_wp2_with fail
   go_ret2
   rw [HE.out]
   exact ⟨A3,c3,by subst hll;rfl,HF3.out,HQ3.out⟩
  case neg =>
   have d6:decide (((b.getD 0 0:Nat):Int)=0)=false:=decide_eq_false (by omega)
   have q6:(((b.getD 0 0:Nat):Int) == 0)=false:=by rw [beq_eq_false_iff_ne];omega
   go_enter Tryz.func28,Tryz.ntmps28
   go_wp2_with fail
   refine HK.out.mono ?_
   rintro e w2 ⟨rfl,hb2⟩
   have hq:=HB0.out.trans (hb2.mono HB0.out.size)
   have HQ:=Lib.hid hq
   have e0:w2.cell? ⟨k,off,none⟩=some (.int .u8 ((b.getD 0 0:Nat):Int)):=HC.out _ hq 0 (by omega)
   have HOF2:=Lib.hid (HOF.out _ hq)
   generalize b.getD 0 0=y0 at *
   clear hb2 HK hq h3 hs3 ht
   go_wp2_with fail
   refine HOF2.out.mono ?_
   rintro e w3 ⟨A3,c3,rfl,hf3,hb3⟩
   have HQ3:=Lib.hid (HQ.out.trans (hb3.mono HQ.out.size))
   have HF3:=Lib.hid (hf3.less HQ.out.size)
   clear hb3 hf3 HOF HOF2
   generalize hll:(numOf b).length=ll at *
   go_wp2_with fail
   go_ret2
   rw [HE.out]
   exact ⟨A3,c3,by subst hll;rfl,HF3.out,HQ3.out⟩
theorem getInt_any (w:World) (x n c kn kc B:Nat) (A K:Option Addr) (b:List Nat) (most:Int) (hr:Rd .u8 w B A c b) (hn:b.length=n) (hB:B≤w.heap.size) (ho:∀ y∈b,y<256) :
  Calls Tryz.prog 28 #[.agg #[.int .u8 (x:Int),.slice A n c,.slice K kn kc],.int .i64 most] w (GetIntPost w (if heldOk x kn 2=true then gi b most else none)):=(getInt_own w x n c kn kc B A K b most hr hn hB ho).mono fun _ _ h=>h.post
end Go.Proofs.YtcibjcgipfpniaaGreatDoor
namespace Go.Proofs.YtcibjcgipfpniaaGreatDoor
open Go.RowKit
set_option linter.unusedVariables false
set_option linter.unusedSimpArgs false

theorem getD_octAt4 {b:List Nat} (ho:∀ y∈b,y<256) (j:Nat):b.getD j 0<256:=by
 rw [List.getD_eq_getElem?_getD]
 rcases h:b[j]? with _ | y
 ·simp
 ·exact ho y (List.mem_of_getElem? h)
/-- Bytes of one's own, read: where they lie, and each of them. -/
theorem Mine.cells_ {w:World} {B:Nat} {A:Option Addr} {c:Nat} {l:List Nat} (h:Mine 5 w B A c l) (h0:0<l.length):∃ g off,A=some ⟨g,off,none⟩∧g<w.heap.size∧∀ j,j<l.length→w.cell? ⟨g,off+j,none⟩=some (.int .u8 ((l.getD j 0:Nat):Int)):=h.rd.2.2 h0
def WholeOk (x kn:Nat) (b:List Nat):Bool:=heldOk x kn 2 && giOk b
set_option maxRecDepth 100000 in
set_option maxHeartbeats 4000000 in
theorem whole'_any (w:World) (x n c kn kc B:Nat) (A K:Option Addr) (b:List Nat) (hr:Rd .u8 w B A c b) (hn:b.length=n) (hB:B≤w.heap.size) (ho:∀ y∈b,y<256) (hmx:n≤900000) :
  Calls Tryz.prog 127 #[.agg #[.int .u8 (x:Int),.slice A n c,.slice K kn kc]] w (HeldPost' w n b (WholeOk x kn b)):=by
 have hH:=Holds.fresh w 32 #[.int .u8 (x:Int),.slice A n c,.slice K kn kc]
 have HB0:Hid (Below w.heap.size w (w.alloc (.cells #[.int .u8 (x:Int),.slice A n c,.slice K kn kc] 32))):=Lib.hid ((Below.refl _ _).alloc (Nat.le_refl _) _)
 have c0:=hH.cell 0
 have c1:=hH.cell 1
 have c2:=hH.cell 2
 have HK:=Lib.hid (held'_any (w.alloc (.cells #[.int .u8 (x:Int),.slice A n c,.slice K kn kc] 32)) x n c kn kc 2 B A K b (hr.under (HB0.out.mono hB)) hn (Nat.le_trans hB HB0.out.size) hmx)
 have HN:=Lib.hid hn
 have HO:=Lib.hid ho
 have hn0:b.length=n:=hn
 clear hr ho hn
 rcases hok:heldOk x kn 2 with _ | _
 case false =>
  have HW:Hid (WholeOk x kn b=false):=Lib.hid (by unfold WholeOk;rw [hok];rfl)
  rw [hok] at HK
  rw [HW.out]
  clear hn0
  go_enter Tryz.func127,Tryz.ntmps127
  go_wp2_with fail
  refine HK.out.mono ?_
  rintro e w2 ⟨rfl,hb2⟩
  have HQ:=Lib.hid (HB0.out.trans (hb2.mono HB0.out.size))
  clear hb2 HK
  go_wp2_with fail
  go_ret2
  exact ⟨rfl,HQ.out⟩
 have hw:WholeOk x kn b=giOk b:=by unfold WholeOk;rw [hok];rfl
 rw [hok] at HK
 rw [hw]
 have o0:=getD_octAt4 HO.out 0
 have o1:=getD_octAt4 HO.out 1
 by_cases h0:n=0
 case pos =>
  have hg:giOk b=false:=by rw [←Bool.not_eq_true,giOk_iff];omega
  rw [hg]
  subst h0
  clear hn0 hg hw
  go_enter Tryz.func127,Tryz.ntmps127
  go_wp2_with fail
  refine HK.out.mono ?_
  rintro e w2 ⟨A2,c2,rfl,hm2,hb2⟩
  have HQ:=Lib.hid (HB0.out.trans (hb2.mono HB0.out.size))
  have HM:=Lib.hid (hm2.less HB0.out.size)
  clear hm2 hb2 HK
  go_wp2_with fail
  go_ret2
  exact ⟨rfl,HQ.out⟩
 have d0:decide ((n:Int)=0)=false:=decide_eq_false (by omega)
 have q0:((n:Int) == 0)=false:=by simp;omega
 have hn1:1≤n:=by omega
 by_cases h2:128≤b.getD 0 0
 case pos =>
  have hg:giOk b=false:=by rw [←Bool.not_eq_true,giOk_iff];omega
  have d2:decide (128≤((b.getD 0 0:Nat):Int))=true:=decide_eq_true (by omega)
  rw [hg]
  clear hn0 hg hw
  go_enter Tryz.func127,Tryz.ntmps127
  go_wp2_with fail
  refine HK.out.mono ?_
  rintro e w2 ⟨A2,c2,rfl,hm2,hb2⟩
  have HQ:=Lib.hid (HB0.out.trans (hb2.mono HB0.out.size))
  have HM:=Lib.hid (hm2.less HB0.out.size)
  obtain ⟨g2,o2,rfl,hg2,hcs⟩:=Mine.cells_ hm2 (by rw [HN.out];omega)
  have hnc2:n≤c2:=by have:=hm2.rd.1;rw [HN.out] at this;exact this
  have hc263:=hm2.rd.2.1
  have e0:w2.cell? ⟨g2,o2,none⟩=some (.int .u8 ((b.getD 0 0:Nat):Int)):=hcs 0 (by rw [HN.out];omega)
  generalize b.getD 0 0=y0 at *
  clear hcs hm2 hb2 HK
  go_wp2_with fail
  go_ret2
  exact ⟨rfl,HQ.out⟩
 have d2:decide (128≤((b.getD 0 0:Nat):Int))=false:=decide_eq_false (by omega)
 by_cases h3:n=1
 case pos =>
  have hg:giOk b=true:=by rw [giOk_iff];omega
  have d3:decide ((1:Int)<(n:Int))=false:=decide_eq_false (by omega)
  rw [hg]
  clear hn0 hg hw h3 hmx
  go_enter Tryz.func127,Tryz.ntmps127
  go_wp2_with fail
  refine HK.out.mono ?_
  rintro e w2 ⟨A2,c2,rfl,hm2,hb2⟩
  have HQ:=Lib.hid (HB0.out.trans (hb2.mono HB0.out.size))
  have HM:=Lib.hid (hm2.less HB0.out.size)
  obtain ⟨g2,o2,rfl,hg2,hcs⟩:=Mine.cells_ hm2 (by rw [HN.out];omega)
  have hnc2:n≤c2:=by have:=hm2.rd.1;rw [HN.out] at this;exact this
  have hc263:=hm2.rd.2.1
  have e0:w2.cell? ⟨g2,o2,none⟩=some (.int .u8 ((b.getD 0 0:Nat):Int)):=hcs 0 (by rw [HN.out];omega)
  generalize b.getD 0 0=y0 at *
  clear hcs hm2 hb2 HK
  go_wp2_with fail
  go_ret2
  exact ⟨_,_,rfl,HM.out,HQ.out⟩
 have d3:decide ((1:Int)<(n:Int))=true:=decide_eq_true (by omega)
 have hn2:2≤n:=by omega
 by_cases h4:b.getD 0 0=0
 case neg =>
  have hg:giOk b=true:=by rw [giOk_iff];omega
  have d4:decide (((b.getD 0 0:Nat):Int)=0)=false:=decide_eq_false (by omega)
  have q4:(((b.getD 0 0:Nat):Int) == 0)=false:=by rw [beq_eq_false_iff_ne];omega
  rw [hg]
  clear hn0 hg hw
  go_enter Tryz.func127,Tryz.ntmps127
  go_wp2_with fail
  refine HK.out.mono ?_
  rintro e w2 ⟨A2,c2,rfl,hm2,hb2⟩
  have HQ:=Lib.hid (HB0.out.trans (hb2.mono HB0.out.size))
  have HM:=Lib.hid (hm2.less HB0.out.size)
  obtain ⟨g2,o2,rfl,hg2,hcs⟩:=Mine.cells_ hm2 (by rw [HN.out];omega)
  have hnc2:n≤c2:=by have:=hm2.rd.1;rw [HN.out] at this;exact this
  have hc263:=hm2.rd.2.1
  have e0:w2.cell? ⟨g2,o2,none⟩=some (.int .u8 ((b.getD 0 0:Nat):Int)):=hcs 0 (by rw [HN.out];omega)
  generalize b.getD 0 0=y0 at *
  clear hcs hm2 hb2 HK
  go_wp2_with fail
  go_ret2
  exact ⟨_,_,rfl,HM.out,HQ.out⟩
 by_cases h5:b.getD 1 0<128
 case pos =>
  have hg:giOk b=false:=by rw [←Bool.not_eq_true,giOk_iff];omega
  have d5:decide (((b.getD 1 0:Nat):Int)<128)=true:=decide_eq_true (by omega)
  rw [hg]
  clear hn0 hg hw
  go_enter Tryz.func127,Tryz.ntmps127
  go_wp2_with fail
  refine HK.out.mono ?_
  rintro e w2 ⟨A2,c2,rfl,hm2,hb2⟩
  have HQ:=Lib.hid (HB0.out.trans (hb2.mono HB0.out.size))
  have HM:=Lib.hid (hm2.less HB0.out.size)
  obtain ⟨g2,o2,rfl,hg2,hcs⟩:=Mine.cells_ hm2 (by rw [HN.out];omega)
  have hnc2:n≤c2:=by have:=hm2.rd.1;rw [HN.out] at this;exact this
  have hc263:=hm2.rd.2.1
  have e0:w2.cell? ⟨g2,o2,none⟩=some (.int .u8 ((b.getD 0 0:Nat):Int)):=hcs 0 (by rw [HN.out];omega)
  have e1:=hcs 1 (by rw [HN.out];omega)
  rw [h4] at e0 d2
  generalize b.getD 1 0=y1 at *
  clear h4
  clear hcs hm2 hb2 HK
  go_wp2_with fail
  go_ret2
  exact ⟨rfl,HQ.out⟩
 have hg:giOk b=true:=by rw [giOk_iff];omega
 have d5:decide (((b.getD 1 0:Nat):Int)<128)=false:=decide_eq_false (by omega)
 rw [hg]
 clear hn0 hg hw
 go_enter Tryz.func127,Tryz.ntmps127
 go_wp2_with fail
 refine HK.out.mono ?_
 rintro e w2 ⟨A2,c2,rfl,hm2,hb2⟩
 have HQ:=Lib.hid (HB0.out.trans (hb2.mono HB0.out.size))
 have HM:=Lib.hid (hm2.less HB0.out.size)
 obtain ⟨g2,o2,rfl,hg2,hcs⟩:=Mine.cells_ hm2 (by rw [HN.out];omega)
 have hnc2:n≤c2:=by have:=hm2.rd.1;rw [HN.out] at this;exact this
 have hc263:=hm2.rd.2.1
 have e0:w2.cell? ⟨g2,o2,none⟩=some (.int .u8 ((b.getD 0 0:Nat):Int)):=hcs 0 (by rw [HN.out];omega)
 have e1:=hcs 1 (by rw [HN.out];omega)
 rw [h4] at e0 d2
 generalize b.getD 1 0=y1 at *
 clear h4
 clear hcs hm2 hb2 HK
 go_wp2_with fail
 go_ret2
 exact ⟨_,_,rfl,HM.out,HQ.out⟩
set_option maxRecDepth 100000 in
set_option maxHeartbeats 4000000 in
theorem getInt'_own (w:World) (x n c kn kc B:Nat) (A K:Option Addr) (b:List Nat) (most:Int) (hr:Rd .u8 w B A c b) (hn:b.length=n) (hB:B≤w.heap.size) (ho:∀ y∈b,y<256) (hmx:n≤900000) :
  Calls Tryz.prog 101 #[.agg #[.int .u8 (x:Int),.slice A n c,.slice K kn kc],.int .i64 most] w (GetIntOwn w (if heldOk x kn 2=true then gi' b most else none)):=by
 have hH:=Holds.fresh w 32 #[.int .u8 (x:Int),.slice A n c,.slice K kn kc]
 have HB0:Hid (Below w.heap.size w (w.alloc (.cells #[.int .u8 (x:Int),.slice A n c,.slice K kn kc] 32))):=Lib.hid ((Below.refl _ _).alloc (Nat.le_refl _) _)
 have c0:=hH.cell 0
 have c1:=hH.cell 1
 have c2:=hH.cell 2
 have HK:=Lib.hid (whole'_any (w.alloc (.cells #[.int .u8 (x:Int),.slice A n c,.slice K kn kc] 32)) x n c kn kc B A K b (hr.under (HB0.out.mono hB)) hn (Nat.le_trans hB HB0.out.size) ho hmx)
 have HN:=Lib.hid hn
 have HO:=Lib.hid ho
 clear hr ho hn
 rcases hok:WholeOk x kn b with _ | _
 case false =>
  have HE:Hid ((if heldOk x kn 2=true then gi' b most else none)=none):=Lib.hid (by
   by_cases h:heldOk x kn 2=true
   ·rw [if_pos h]
    exact if_neg fun hh=>by unfold WholeOk at hok;rw [h,hh.1] at hok;cases hok
   ·rw [if_neg h])
  rw [hok] at HK
  rw [HE.out]
  go_enter Tryz.func101,Tryz.ntmps101
  go_wp2_with fail
  refine HK.out.mono ?_
  rintro e w2 ⟨rfl,hb2⟩
  have HQ:=Lib.hid (HB0.out.trans (hb2.mono HB0.out.size))
  clear hb2 HK
  go_wp2_with fail
  go_ret2
  exact ⟨rfl,HQ.out⟩
 rw [hok] at HK
 have hh:heldOk x kn 2=true∧giOk b=true:=by unfold WholeOk at hok;simpa using hok
 rw [if_pos hh.1]
 have hgi:=giOk_iff.1 hh.2
 have hn1:1≤n:=by have:=HN.out;omega
 by_cases h1:most<(n:Int)
 case pos =>
  have HE:Hid (gi' b most=none):=Lib.hid (if_neg fun h=>by have:=h.2.1;have:=HN.out;omega)
  have d1:decide (most<(n:Int))=true:=decide_eq_true h1
  go_enter Tryz.func101,Tryz.ntmps101
  go_wp2_with fail
  refine HK.out.mono ?_
  rintro e w2 ⟨A2,c2,rfl,hm2,hb2⟩
  have HQ:=Lib.hid (HB0.out.trans (hb2.mono HB0.out.size))
  clear hm2 hb2 HK
  go_wp2_with fail
  go_ret2
  rw [HE.out]
  exact ⟨rfl,HQ.out⟩
 have d1:decide (most<(n:Int))=false:=decide_eq_false h1
 by_cases h2:1025<n
 case pos =>
  have HE:Hid (gi' b most=none):=Lib.hid (if_neg fun h=>by have:=h.2.2;have:=HN.out;omega)
  have d2:decide ((1025:Int)<(n:Int))=true:=decide_eq_true (by omega)
  go_enter Tryz.func101,Tryz.ntmps101
  go_wp2_with fail
  refine HK.out.mono ?_
  rintro e w2 ⟨A2,c2,rfl,hm2,hb2⟩
  have HQ:=Lib.hid (HB0.out.trans (hb2.mono HB0.out.size))
  clear hm2 hb2 HK
  go_wp2_with fail
  go_ret2
  rw [HE.out]
  exact ⟨rfl,HQ.out⟩
 have d2:decide ((1025:Int)<(n:Int))=false:=decide_eq_false (by omega)
 have hE:gi' b most=some (numOf (if b.getD 0 0=0 then b.drop 1 else b)):=if_pos ⟨hh.2,by have:=HN.out;omega,by have:=HN.out;omega⟩
 by_cases h3:b.getD 0 0=0
 case pos =>
  rw [if_pos h3] at hE
  have HE:=Lib.hid hE
  have HL:Hid ((b.drop 1).length=n - 1):=Lib.hid (by rw [List.length_drop,HN.out])
  clear hE hgi hh
  go_enter Tryz.func101,Tryz.ntmps101
  go_wp2_with fail
  refine HK.out.mono ?_
  rintro e w2 ⟨A2,c2,rfl,hm2,hb2⟩
  have hq:=HB0.out.trans (hb2.mono HB0.out.size)
  have HQ:=Lib.hid hq
  have hnc2:n≤c2:=by have:=hm2.rd.1;rw [HN.out] at this;exact this
  have hc263:=hm2.rd.2.1
  have HRD:=Lib.hid hm2.rd
  obtain ⟨g2,o2,rfl,hg2,hcs⟩:=Mine.cells_ hm2 (by rw [HN.out];omega)
  have e0:w2.cell? ⟨g2,o2,none⟩=some (.int .u8 ((b.getD 0 0:Nat):Int)):=hcs 0 (by rw [HN.out];omega)
  rw [h3] at e0
  obtain ⟨D,hD⟩:∃ D,D=dropA (some ⟨g2,o2,none⟩) 1 c2:=⟨_,rfl⟩
  have hsl:(Instr.sliceAt 24 (.slice (some ⟨g2,o2,none⟩) n c2) (some (.int .i64 1)) none none).run Tryz.prog w2 = .ok (.slice (dropA (some ⟨g2,o2,none⟩) 1 c2) (n - 1) (c2 - 1)) w2:=run_drop w2 (some ⟨g2,o2,none⟩) n c2 1 hn1 hnc2
  have hrd1:=HRD.out.drop 1 (by rw [HN.out];omega)
  rw [←hD] at hsl hrd1
  clear hD h3
  have HOF:=Lib.hid (of'_at w2 w2.heap.size D (c2 - 1) (n - 1) (b.drop 1) HL.out hrd1 (Nat.le_refl _) (fun y hy=>HO.out y (List.mem_of_mem_drop hy)))
  clear hcs hm2 hb2 HK hq
  go_wp2_with fail
  refine HOF.out.mono ?_
  rintro e w3 ⟨A3,c3,rfl,hf3,hb3⟩
  have HQ3:=Lib.hid (HQ.out.trans (hb3.mono HQ.out.size))
  have HF3:=Lib.hid (hf3.less HQ.out.size)
  clear hb3 hf3 HOF
  generalize hll:(numOf (b.drop 1)).length=ll at *
  go_wp2_with fail
  go_ret2
  rw [HE.out]
  exact ⟨A3,c3,by subst hll;rfl,HF3.out,HQ3.out⟩
 case neg =>
  rw [if_neg h3] at hE
  have HE:=Lib.hid hE
  have d3:decide (((b.getD 0 0:Nat):Int)=0)=false:=decide_eq_false (by omega)
  have q3:(((b.getD 0 0:Nat):Int) == 0)=false:=by rw [beq_eq_false_iff_ne];omega
  clear hE hgi hh
  go_enter Tryz.func101,Tryz.ntmps101
  go_wp2_with fail
  refine HK.out.mono ?_
  rintro e w2 ⟨A2,c2,rfl,hm2,hb2⟩
  have hq:=HB0.out.trans (hb2.mono HB0.out.size)
  have HQ:=Lib.hid hq
  have hnc2:n≤c2:=by have:=hm2.rd.1;rw [HN.out] at this;exact this
  have hc263:=hm2.rd.2.1
  have HRD:=Lib.hid hm2.rd
  obtain ⟨g2,o2,rfl,hg2,hcs⟩:=Mine.cells_ hm2 (by rw [HN.out];omega)
  have e0:w2.cell? ⟨g2,o2,none⟩=some (.int .u8 ((b.getD 0 0:Nat):Int)):=hcs 0 (by rw [HN.out];omega)
  generalize b.getD 0 0=y0 at *
  have HOF:=Lib.hid (of'_at w2 w2.heap.size _ c2 n b HN.out HRD.out (Nat.le_refl _) HO.out)
  clear hcs hm2 hb2 HK hq
  go_wp2_with fail
  refine HOF.out.mono ?_
  rintro e w3 ⟨A3,c3,rfl,hf3,hb3⟩
  have HQ3:=Lib.hid (HQ.out.trans (hb3.mono HQ.out.size))
  have HF3:=Lib.hid (hf3.less HQ.out.size)
  clear hb3 hf3 HOF
  generalize hll:(numOf b).length=ll at *
  go_wp2_with fail
  go_ret2
  rw [HE.out]
  exact ⟨A3,c3,by subst hll;rfl,HF3.out,HQ3.out⟩
end Go.Proofs.YtcibjcgipfpniaaGreatDoor
namespace Go.Proofs.YtcibjcgipfpniaaGreatDoor
open Go.RowKit
set_option linter.unusedVariables false
set_option linter.unusedSimpArgs false

theorem is_at (w:World) (B:Nat) (A:Option Addr) (c n:Nat) (l:List Nat) (hr:Rd .u32 w B A c l) (hn:l.length=n) (v:Bool) (hv:okN l=v):Calls Tryz.prog 69 #[.slice A n c] w fun e w'=>e = .returned (.bool v)∧w=w':=by
 subst hn
 exact is_any w B A c l hr v hv
theorem is'_at (w:World) (B:Nat) (A:Option Addr) (c n:Nat) (l:List Nat) (hr:Rd .u32 w B A c l) (hn:l.length=n) (v:Bool) (hv:okN l=v):Calls Tryz.prog 61 #[.slice A n c] w fun e w'=>e = .returned (.bool v)∧w=w':=by
 subst hn
 exact is'_any w B A c l hr v hv
theorem bits'_at (w:World) (B:Nat) (A:Option Addr) (c n:Nat) (l:List Nat) (hr:Rd .u32 w B A c l) (hn:l.length=n) (hd:Dg l) (hs:l.length≤5000) (v:Nat) (hv:nb l=v):Calls Tryz.prog 62 #[.slice A n c] w fun e w'=>e = .returned (.int .i64 (v:Int))∧w=w':=by
 subst hn
 exact bits'_any w B A c l hr hd hs v hv
theorem okN_iff {l:List Nat}:okN l=true↔l.length≤256∧nrm l:=by
 unfold okN nrm
 simp only [Bool.and_eq_true,Bool.or_eq_true,decide_eq_true_eq,Bool.not_eq_true',beq_eq_false_iff_ne]
theorem trl_self {l:List Nat} (h:nrm l):trl l=l:=by
 rw [trl,tlen_id l l.length h,List.take_length]
set_option maxRecDepth 100000 in
set_option maxHeartbeats 2000000 in
theorem int_any (w:World) (B:Nat) (A:Option Addr) (c n:Nat) (l:List Nat) (hr:Rd .u32 w B A c l) (hn:l.length=n) (hB:B≤w.heap.size) (hd:Dg l) (hok:okN l=true) :
  Calls Tryz.prog 29 #[.slice A n c] w fun e w'=>∃ v,e = .returned v∧PrimAt v w' w.heap.size 2 (intB l)∧Below w.heap.size w w':=by
 obtain ⟨h256,hnr⟩:=okN_iff.1 hok
 have hf:=int_fits hd hnr h256
 obtain ⟨V,hV⟩:∃ V,V=w.alloc (.cells #[.int .u8 0,.slice none 0 0,.slice none 0 0] 32):=⟨_,rfl⟩
 have HB0:Hid (Below w.heap.size w V):=Lib.hid (by rw [hV];exact (Below.refl _ _).alloc (Nat.le_refl _) _)
 have hz:Holds V w.heap.size 32 #[.int .u8 0,.slice none 0 0,.slice none 0 0]:=by rw [hV];exact Holds.fresh _ _ _
 have hVs:w.heap.size<V.heap.size:=hz.lt
 have hrV:Rd .u32 V B A c l:=hr.under (HB0.out.mono hB)
 have HIS:=Lib.hid (is_at V B A c n l hrV hn true hok)
 have HBI:=Lib.hid (bits_any V B A c n l hrV hn hd (by omega) (nb l) (by rw [trl_self hnr]))
 obtain ⟨v,hv⟩:∃ v,v=nb l:=⟨_,rfl⟩
 have hv1:v / 8+1≤1025:=by rw [hv];exact hf
 have HBY:Hid (Calls Tryz.prog 70 #[.slice A n c,.int .i64 ((v:Int) / 8+1)] V fun e w'=>∃ A2,e = .returned (.tuple #[.slice A2 (v / 8+1) (v / 8+1),.bool true])∧Fresh .u8 5 w' V.heap.size A2 (v / 8+1) (bytesOf l (v / 8+1))∧Below V.heap.size V w'):=Lib.hid (by
  have h:=bytes_yes V B A c n l hrV hn (by omega) hd (by omega) (v / 8+1) (by omega) (by rw [trl_self hnr,←hv];omega)
  have e:((v / 8+1:Nat):Int)=(v:Int) / 8+1:=by omega
  rw [e] at h
  exact h)
 have HI:Hid (bytesOf l (v / 8+1)=intB l):=Lib.hid (by rw [hv];rfl)
 have HL:Hid ((intB l).length=v / 8+1):=Lib.hid (by rw [hv,intB_length])
 rw [←hv] at HBI
 have hm1:1≤v / 8+1:=by omega
 generalize hm:v / 8+1=m at *
 have HZ:=Lib.hid hz
 have HV:=Lib.hid hV
 have hv2:v≤9000:=by omega
 clear hr hn hd hok hnr hf hrV hv hm hz hV
 go_enter Tryz.func29,Tryz.ntmps29
 go_wp2_with fail
 rw [←HV.out]
 refine HIS.out.mono ?_
 rintro e w2 ⟨rfl,rfl⟩
 go_wp2_with fail
 refine HBI.out.mono ?_
 rintro e w2 ⟨rfl,rfl⟩
 go_wp2_with fail
 refine HBY.out.mono ?_
 rintro e w3 ⟨A2,rfl,hf3,hb3⟩
 have HQ3:Hid (Below w.heap.size w w3):=Lib.hid (HB0.out.trans (hb3.mono HB0.out.size))
 have hz3:=HZ.out.under hb3 hVs
 have HF3:=Lib.hid hf3
 have z0:=hz3.cell 0
 have z1:=hz3.cell 1
 have z2:=hz3.cell 2
 have y0:=hz3.open_ 0
 have y1:=hz3.open_ 1
 have y2:=hz3.open_ 2
 rw [HI.out] at HF3
 clear HV HIS HBI HBY HB0 hb3 hf3 HI
 go_wp2_with fail
 refine ret_one rfl rfl (((hz3.stored 0 _).stored 1 _).stored 2 _) rfl ?_
 have hmz:(intB l).length=m:=HL.out
 have hA2:∀ g,blk_of A2=some g→w.heap.size+1≤g:=fun g hg=>by
  obtain ⟨g',L,rfl,hle,_⟩:=HF3.out.2 (by omega)
  obtain rfl:g'=g:=by simpa [blk_of] using hg
  omega
 have hP:PrimAt (.agg #[.int .u8 ((2:Nat):Int),.slice A2 (intB l).length m,.slice none 0 0]) w3 (w.heap.size+1) 2 (intB l):=⟨A2,m,rfl,HF3.out.1,hA2,intB_oct l,by omega⟩
 refine ⟨_,rfl,?_,((HQ3.out.setCell (p:=⟨w.heap.size,0,none⟩) (Nat.le_refl _) _).setCell (p:=⟨w.heap.size,1,none⟩) (Nat.le_refl _) _).setCell (p:=⟨w.heap.size,2,none⟩) (Nat.le_refl _) _⟩
 rw [hmz] at hP
 exact (((hP.store (p:=⟨w.heap.size,0,none⟩) (Nat.lt_succ_self _) _).store (p:=⟨w.heap.size,1,none⟩) (Nat.lt_succ_self _) _).store (p:=⟨w.heap.size,2,none⟩) (Nat.lt_succ_self _) _).mono (Nat.le_succ _)
set_option maxRecDepth 100000 in
set_option maxHeartbeats 2000000 in
theorem int'_any (w:World) (B:Nat) (A:Option Addr) (c n:Nat) (l:List Nat) (hr:Rd .u32 w B A c l) (hn:l.length=n) (hB:B≤w.heap.size) (hd:Dg l) (hok:okN l=true) :
  Calls Tryz.prog 41 #[.slice A n c] w fun e w'=>∃ v,e = .returned v∧PrimAt v w' w.heap.size 2 (intB l)∧Below w.heap.size w w':=by
 obtain ⟨h256,hnr⟩:=okN_iff.1 hok
 have hf:=int_fits hd hnr h256
 obtain ⟨V,hV⟩:∃ V,V=w.alloc (.cells #[.int .u8 0,.slice none 0 0,.slice none 0 0] 32):=⟨_,rfl⟩
 have HB0:Hid (Below w.heap.size w V):=Lib.hid (by rw [hV];exact (Below.refl _ _).alloc (Nat.le_refl _) _)
 have hz:Holds V w.heap.size 32 #[.int .u8 0,.slice none 0 0,.slice none 0 0]:=by rw [hV];exact Holds.fresh _ _ _
 have hVs:w.heap.size<V.heap.size:=hz.lt
 have hrV:Rd .u32 V B A c l:=hr.under (HB0.out.mono hB)
 have HBI:=Lib.hid (bits'_at V B A c n l hrV hn hd (by omega) (nb l) rfl)
 obtain ⟨v,hv⟩:∃ v,v=nb l:=⟨_,rfl⟩
 have hv1:v / 8+1≤1025:=by rw [hv];exact hf
 have HBY:Hid (Calls Tryz.prog 85 #[.slice A n c,.int .i64 ((v:Int) / 8+1)] V fun e w'=>∃ A2,e = .returned (.tuple #[.slice A2 (v / 8+1) (v / 8+1),.bool true])∧Fresh .u8 5 w' V.heap.size A2 (v / 8+1) (bytesOf l (v / 8+1))∧Below V.heap.size V w'):=Lib.hid (by
  have h:=bytes'_yes V B A c n l hrV hn (by omega) hd (by omega) (v / 8+1) (by omega) (by rw [←hv];omega)
  have e:((v / 8+1:Nat):Int)=(v:Int) / 8+1:=by omega
  rw [e] at h
  exact h)
 have HI:Hid (bytesOf l (v / 8+1)=intB l):=Lib.hid (by rw [hv];rfl)
 have HL:Hid ((intB l).length=v / 8+1):=Lib.hid (by rw [hv,intB_length])
 rw [←hv] at HBI
 have hm1:1≤v / 8+1:=by omega
 generalize hm:v / 8+1=m at *
 have HZ:=Lib.hid hz
 have HV:=Lib.hid hV
 have hv2:v≤9000:=by omega
 clear hr hn hd hok hnr hf hrV hv hm hz hV
 go_enter Tryz.func41,Tryz.ntmps41
 go_wp2_with fail
 rw [←HV.out]
 refine HBI.out.mono ?_
 rintro e w2 ⟨rfl,rfl⟩
 go_wp2_with fail
 refine HBY.out.mono ?_
 rintro e w3 ⟨A2,rfl,hf3,hb3⟩
 have HQ3:Hid (Below w.heap.size w w3):=Lib.hid (HB0.out.trans (hb3.mono HB0.out.size))
 have HZ3:=Lib.hid (HZ.out.under hb3 hVs)
 have HPR:=Lib.hid (prim'_own w3 m m 2 w3.heap.size A2 (intB l) (by have:=hf3.1;rwa [HI.out] at this) HL.out (Nat.le_refl _) (by omega) (by omega) (intB_oct l))
 have hlt3:w.heap.size<w3.heap.size:=HZ3.out.lt
 clear HV HBI HBY HB0 hb3 hf3 HI
 go_wp2_with fail
 refine HPR.out.mono ?_
 rintro e w4 ⟨v4,rfl,hp4,hb4⟩
 have HQ4:Hid (Below w.heap.size w w4):=Lib.hid (HQ3.out.trans (hb4.mono HQ3.out.size))
 have hz4:=HZ3.out.under hb4 hlt3
 have HP4:=Lib.hid hp4
 obtain ⟨A4,c4,rfl,_⟩:=hp4
 have z0:=hz4.cell 0
 have z1:=hz4.cell 1
 have z2:=hz4.cell 2
 have y0:=hz4.open_ 0
 have y1:=hz4.open_ 1
 have y2:=hz4.open_ 2
 clear hb4 HPR HZ3
 go_wp2_with fail
 refine ret_one rfl rfl (((hz4.stored 0 _).stored 1 _).stored 2 _) rfl ?_
 refine ⟨_,rfl,?_,((HQ4.out.setCell (p:=⟨w.heap.size,0,none⟩) (Nat.le_refl _) _).setCell (p:=⟨w.heap.size,1,none⟩) (Nat.le_refl _) _).setCell (p:=⟨w.heap.size,2,none⟩) (Nat.le_refl _) _⟩
 exact (((HP4.out.store (p:=⟨w.heap.size,0,none⟩) hlt3 _).store (p:=⟨w.heap.size,1,none⟩) hlt3 _).store (p:=⟨w.heap.size,2,none⟩) hlt3 _).mono HQ3.out.size
end Go.Proofs.YtcibjcgipfpniaaGreatDoor
namespace Go.Proofs.YtcibjcgipfpniaaGreatDoor
open Go.RowKit
set_option linter.unusedVariables false
set_option linter.unusedSimpArgs false

/-- A number below 2^64 as eight bytes, the highest first. -/
def be8 (v:Nat):List Nat:=[v / 72057594037927936 % 256,v / 281474976710656 % 256,v / 1099511627776 % 256,v / 4294967296 % 256,v / 16777216 % 256,v / 65536 % 256,v / 256 % 256,v % 256]
/-- As digits. -/
def dg2 (v:Nat):List Nat:=trl [v % 4294967296,v / 4294967296]
end Go.Proofs.YtcibjcgipfpniaaGreatDoor
namespace Go.Proofs.YtcibjcgipfpniaaGreatDoor
open Go.RowKit
set_option linter.unusedVariables false
set_option linter.unusedSimpArgs false

theorem gi_num {b:List Nat} {most:Int} {l:List Nat} (h:gi b most=some l) (ho:∀ y∈b,y<256):Dg l∧nrm l∧l.length≤256:=by
 unfold gi at h
 split at h
 ·injection h with h
  subst h
  exact ⟨numOf_dg (oct_rev fun y hy=>by unfold strip at hy;split at hy;exact ho y (List.mem_of_mem_drop hy);exact ho y hy),numOf_nrm _,numOf_length _⟩
 ·cases h
def smallOf:Option (List Nat)→Option Nat
 | none=>none
 | some l=>if nb l≤64 then some (val l) else none
def SmallPost (w:World):Option Nat→Ending→World→Prop
 | none,e,w'=>e = .returned (.tuple #[.int .u64 0,.bool false])∧Below w.heap.size w w'
 | some v,e,w'=>e = .returned (.tuple #[.int .u64 (v:Int),.bool true])∧Below w.heap.size w w'
end Go.Proofs.YtcibjcgipfpniaaGreatDoor
namespace Go.Proofs.YtcibjcgipfpniaaGreatDoor
theorem civ_y (q a b c:Nat) (ha:a≤3) (hb:b≤24) (hc:c≤3) (hq:q≤365) (hl:q=365→c=3∧(b=24→a=3)) (o:Nat) (ho:o=36524*a+1461*b+365*c+q) :
  (o - o/1460+o/36524 - o/146096)/365=100*a+4*b+c:=by
 have h1:o/1460=25*a+b+(24*a+b+365*c+q)/1460:=by omega
 have h2:o/36524=a+(1461*b+365*c+q)/36524:=by omega
 have h3:o<146096∨(o=146096∧a=3∧b=24∧c=3∧q=365):=by omega
 rcases h3 with h3 | ⟨h3,rfl,rfl,rfl,rfl⟩
 ·have h4:o/146096=0:=by omega
  have h5:1461*b+365*c+q<36524:=by
   by_cases hb':b=24
   ·by_cases hq':q=365 <;> omega
   ·omega
  have h6:(1461*b+365*c+q)/36524=0:=by omega
  rw [h1,h2,h4,h6]
  by_cases h7:24*a+b+365*c+q<1460
  ·have h8:(24*a+b+365*c+q)/1460=0:=by omega
   rw [h8]
   have:q<365:=by omega
   have:o - (25*a+b+0)+(a+0) - 0=365*(100*a+4*b+c)+q:=by omega
   rw [this];omega
  ·have h8:(24*a+b+365*c+q)/1460=1:=by omega
   rw [h8]
   have:o - (25*a+b+1)+(a+0) - 0=365*(100*a+4*b+c)+(q-1):=by omega
   rw [this];omega
 ·subst h3;rfl
theorem civ_m (q m d:Nat) (hm:m≤11) (hd:1≤d) (hq:q+1=(153*m+2)/5+d) (h31:d≤31) (h30:m=1∨m=3∨m=6∨m=8→d≤30) (h29:m=11→d≤29):(5*q+2)/153=m:=by
 have h:m=0∨m=1∨m=2∨m=3∨m=4∨m=5∨m=6∨m=7∨m=8∨m=9∨m=10∨m=11:=by omega
 rcases h with rfl | rfl | rfl | rfl | rfl | rfl | rfl | rfl | rfl | rfl | rfl | rfl <;> omega

/-- Has a year 366 days? -/
def leap (y:Nat):Bool:=(y % 4 == 0 && y % 100 != 0) || y % 400 == 0
theorem leap_iff (y:Nat):leap y=true↔(y % 4=0∧y % 100≠0)∨y % 400=0:=by simp [leap]
/-- How many days a month has. -/
def dim (y m:Nat):Nat:=if m=2 then (if leap y then 29 else 28) else if m=4∨m=6∨m=9∨m=11 then 30 else 31
/-- Days from the 1st of March of the year 0 to a date. -/
def num (y m d:Nat):Nat :=
 let Y:=if m<3 then y - 1 else y
 let M:=if m<3 then m+9 else m - 3
 365*Y+Y/4 - Y/100+Y/400+(153*M+2)/5+d - 1
structure Valid (y m d:Nat):Prop where
 y1:1≤y
 m1:1≤m
 m12:m≤12
 d1:1≤d
 dd:d≤dim y m
theorem Valid.d31 {y m d:Nat} (h:Valid y m d):d≤31:=by
 have:=h.dd;unfold dim at this;split at this <;> (try split at this) <;> omega
/-- The date of a day, as the program reckons it. -/
def civ (n:Nat):Nat×Nat×Nat :=
 let era:=n / 146097
 let o:=n % 146097
 let y:=(o - o/1460+o/36524 - o/146096)/365
 let q:=o - (365*y+y/4 - y/100)
 let m:=(5*q+2)/153
 let d:=q - (153*m+2)/5+1
 if m<10 then (400*era+y,m+3,d) else (400*era+y+1,m-9,d)

theorem split_y (Y:Nat):∃ e a b c,a≤3∧b≤24∧c≤3∧Y=400*e+100*a+4*b+c:=by
 refine ⟨Y/400,Y%400/100,Y%100/4,Y%4,by omega,by omega,by omega,by omega⟩
theorem tot_y {Y e a b c:Nat} (ha:a≤3) (hb:b≤24) (hc:c≤3) (hY:Y=400*e+100*a+4*b+c):365*Y+Y/4 - Y/100+Y/400=146097*e+(36524*a+1461*b+365*c)∧Y/100≤365*Y:=by
 have h1:Y/4=100*e+25*a+b:=by omega
 have h2:Y/100=4*e+a:=by omega
 have h3:Y/400=e:=by omega
 rw [h1,h2,h3]
 omega
theorem civ_key (Y M q d:Nat) (hd1:1≤d) (hM:M≤11) (hq:q+1=(153*M+2)/5+d) (h31:d≤31) (h30:M=1∨M=3∨M=6∨M=8→d≤30) (h29:M=11→d≤29) (hleap:M=11→d=29→leap (Y+1)=true) :
   civ (365*Y+Y/4 - Y/100+Y/400+(153*M+2)/5+d - 1)=if M<10 then (Y,M+3,d) else (Y+1,M-9,d):=by
 have hq365:q≤365∧(q=365→M=11∧d=29):=by
  have h:M=0∨M=1∨M=2∨M=3∨M=4∨M=5∨M=6∨M=7∨M=8∨M=9∨M=10∨M=11:=by omega
  clear hleap
  rcases h with rfl | rfl | rfl | rfl | rfl | rfl | rfl | rfl | rfl | rfl | rfl | rfl <;> omega
 obtain ⟨hq365,hqM⟩:=hq365
 have hcm:=civ_m q M d hM hd1 hq h31 h30 h29
 obtain ⟨e,a,b,c,ha,hb,hc,hY⟩:=split_y Y
 have hT:=(tot_y ha hb hc hY).1
 have hl:q=365→c=3∧(b=24→a=3):=by
  intro e'
  have:=(leap_iff _).1 (hleap (hqM e').1 (hqM e').2)
  clear hleap hqM hT hcm h30 h29 h31 hq
  rw [hY] at this
  constructor
  ·omega
  ·intro hb';omega
 have htot:365*Y+Y/4 - Y/100+Y/400+(153*M+2)/5+d - 1=146097*e+(36524*a+1461*b+365*c+q):=by rw [hT];omega
 clear hleap hqM h30 h29 h31 hT
 obtain ⟨o,ho⟩:∃ o,o=36524*a+1461*b+365*c+q:=⟨_,rfl⟩
 have ho':o<146097:=by
  by_cases h:q=365
  ·have:=hl h;omega
  ·omega
 have hcy:=civ_y q a b c ha hb hc hq365 hl o ho
 rw [htot,←ho]
 unfold civ
 have e1:(146097*e+o) / 146097=e:=by omega
 have e2:(146097*e+o) % 146097=o:=by omega
 simp only [e1,e2,hcy]
 have e3:o - (365*(100*a+4*b+c)+(100*a+4*b+c) / 4 - (100*a+4*b+c) / 100)=q:=by
  have h1:(100*a+4*b+c) / 4=25*a+b:=by omega
  have h2:(100*a+4*b+c) / 100=a:=by omega
  rw [h1,h2,ho];omega
 rw [e3,hcm]
 have e4:q - (153*M+2)/5+1=d:=by omega
 have e5:400*e+(100*a+4*b+c)=Y:=by omega
 rw [e4,e5]
theorem civ_num {y m d:Nat} (h:Valid y m d):civ (num y m d)=(y,m,d):=by
 have hd31:=h.d31
 obtain ⟨hy1,hm1,hm12,hd1,hdd⟩:=h
 unfold dim at hdd
 unfold num
 by_cases hm:m<3
 ·simp only [hm,if_true]
  have h29:m+9=11→d≤29:=by
   intro h
   rw [if_pos (by omega)] at hdd
   split at hdd <;> omega
  have hlp:m+9=11→d=29→leap (y - 1+1)=true:=by
   intro h h'
   rw [if_pos (by omega)] at hdd
   rw [Nat.sub_add_cancel hy1]
   by_cases hh:leap y=true
   ·exact hh
   ·rw [if_neg hh] at hdd;omega
  rw [civ_key (y-1) (m+9) ((153*(m+9)+2)/5+d - 1) d hd1 (by omega) (by omega) hd31 (by omega) h29 hlp]
  rw [if_neg (by omega),Nat.sub_add_cancel hy1,Nat.add_sub_cancel]
 ·simp only [hm,if_false]
  have h30:m - 3=1∨m - 3=3∨m - 3=6∨m - 3=8→d≤30:=by
   intro h
   rw [if_neg (by omega),if_pos (by omega)] at hdd;exact hdd
  rw [civ_key y (m-3) ((153*(m-3)+2)/5+d - 1) d hd1 (by omega) (by omega) hd31 h30 (by omega) (by omega)]
  rw [if_pos (by omega),Nat.sub_add_cancel (by omega)]
/-- Days of whole years, those that begin in March. -/
def tot (Y:Nat):Nat:=365*Y+Y/4 - Y/100+Y/400
theorem tot_next (y:Nat) (hy:1≤y):tot y=tot (y-1)+if leap y then 366 else 365:=by
 have h4:y/4=(y-1)/4+if y % 4=0 then 1 else 0:=by split <;> omega
 have h100:y/100=(y-1)/100+if y % 100=0 then 1 else 0:=by split <;> omega
 have h400:y/400=(y-1)/400+if y % 400=0 then 1 else 0:=by split <;> omega
 have hle:(y-1)/100≤(y-1)/4:=by omega
 have hl:=leap_iff y
 have hm:(y % 400=0→y % 100=0)∧(y % 100=0→y % 4=0):=⟨by omega,by omega⟩
 unfold tot
 generalize (y-1)/4=p at *
 generalize (y-1)/100=q at *
 generalize (y-1)/400=r at *
 rw [h4,h100,h400]
 clear h4 h100 h400
 by_cases hh:leap y=true
 ·have:=hl.1 hh
  rw [if_pos hh]
  clear hl hh
  by_cases a1:y % 4=0 <;> by_cases a2:y % 100=0 <;> by_cases a3:y % 400=0 <;> simp only [a1,a2,a3,if_true,if_false] <;> omega
 ·rw [if_neg hh]
  have:¬ ((y % 4=0∧y % 100≠0)∨y % 400=0):=fun x=>hh (hl.2 x)
  clear hl hh
  by_cases a1:y % 4=0 <;> by_cases a2:y % 100=0 <;> by_cases a3:y % 400=0 <;> simp only [a1,a2,a3,if_true,if_false] <;> omega
theorem num_eq (y m d:Nat):num y m d=tot (if m<3 then y - 1 else y)+(153*(if m<3 then m+9 else m - 3)+2)/5+d - 1:=rfl
/-- The first day of a month, and the next one's. -/
theorem num_next (y m:Nat) (hy:1≤y) (hm:1≤m) (h12:m≤11):num y (m+1) 1=num y m 1+dim y m:=by
 have h:m=1∨m=2∨m=3∨m=4∨m=5∨m=6∨m=7∨m=8∨m=9∨m=10∨m=11:=by omega
 rw [num_eq,num_eq]
 rcases h with rfl | rfl | rfl | rfl | rfl | rfl | rfl | rfl | rfl | rfl | rfl
 case inr.inl =>
  have:=tot_next y hy
  simp [dim]
  split at this <;> simp_all <;> omega
 all_goals simp [dim]
/-- The first day of a year, and the next one's. -/
theorem num_year (y:Nat) (hy:1≤y):num (y+1) 1 1=num y 1 1+if leap y then 366 else 365:=by
 have:=tot_next y hy
 rw [num_eq,num_eq]
 simp
 split at this <;> simp_all <;> omega
theorem num_dec (y:Nat) (_:1≤y):num (y+1) 1 1=num y 12 1+31:=by
 rw [num_eq,num_eq]
 simp
theorem num_day (y m d:Nat) (hd:1≤d):num y m d=num y m 1+(d - 1):=by
 rw [num_eq,num_eq];omega
theorem num_in {y m d:Nat} (h:Valid y m d):num y 1 1≤num y m d∧num y m d<num (y+1) 1 1:=by
 obtain ⟨hy1,hm1,hm12,hd1,hdd⟩:=h
 have dp:∀ k,28≤dim y k:=fun k=>by unfold dim;split <;> (try split) <;> omega
 rw [num_day y m d hd1]
 have up:∀ k,1≤k→k≤12→num y 1 1≤num y k 1:=by
  intro k
  induction k with
  | zero=>omega
  | succ k ih =>
   intro h1 h2
   by_cases hk:k=0
   ·subst hk;exact Nat.le_refl _
   ·have:=ih (by omega) (by omega)
    have:=num_next y k hy1 (by omega) (by omega)
    omega
 have down:∀ j k,k+j=12→1≤k→num y k 1+dim y k≤num (y+1) 1 1:=by
  intro j
  induction j with
  | zero =>
   intro k hk _
   obtain rfl:k=12:=by omega
   have:=num_dec y hy1
   have:dim y 12=31:=rfl
   omega
  | succ j ih =>
   intro k hk h1
   have:=ih (k+1) (by omega) (by omega)
   have:=num_next y k hy1 h1 (by omega)
   have:=dp (k+1)
   omega
 have:=up m hm1 hm12
 have:=down (12 - m) m (by omega) hm1
 omega
theorem num_mono_year {y y':Nat} (hy:1≤y) (h:y≤y'):num y 1 1≤num y' 1 1:=by
 induction y' with
 | zero=>omega
 | succ k ih =>
  by_cases hk:y=k+1
  ·subst hk;exact Nat.le_refl _
  ·have:=ih (by omega)
   have:=num_year k (by omega)
   split at this <;> omega
theorem num_mono_month {y m m':Nat} (hy:1≤y) (hm:1≤m) (h:m<m') (h12:m'≤12):num y m 1+dim y m≤num y m' 1:=by
 induction m' with
 | zero=>omega
 | succ k ih =>
  by_cases hk:m=k
  ·subst hk;rw [num_next y m hy hm (by omega)];exact Nat.le_refl _
  ·have:=ih (by omega) (by omega)
   have:=num_next y k hy (by omega) (by omega)
   omega
/-- A later day is a later date. -/
theorem later {y m d y' m' d':Nat} (h:Valid y m d) (h':Valid y' m' d') (hn:num y m d≤num y' m' d'):y≤y'∧(y=y'→m≤m'∧(m=m'→d≤d')):=by
 have a:=num_in h
 have b:=num_in h'
 refine ⟨?_,?_⟩
 ·rcases Nat.lt_or_ge y' y with hlt | hge
  ·have:=num_mono_year (y:=y'+1) (y':=y) (by omega) (by omega)
   omega
  ·exact hge
 ·rintro rfl
  rw [num_day y m d h.d1,num_day y m' d' h'.d1] at hn
  have h1:=h.d1
  have h2:=h'.d1
  have h3:=h'.dd
  refine ⟨?_,?_⟩
  ·rcases Nat.lt_or_ge m' m with hlt | hge
   ·have:=num_mono_month h.y1 h'.m1 hlt h.m12
    omega
   ·exact hge
  ·rintro rfl
   omega
end Go.Proofs.YtcibjcgipfpniaaGreatDoor
namespace Go.Proofs.YtcibjcgipfpniaaGreatDoor
open Go.RowKit
set_option linter.unusedVariables false

theorem Fresh.rd {k:IntKind} {T:TypeId} {w':World} {B:Nat} {A:Option Addr} {c:Nat} {r:List Nat} (h:Fresh k T w' B A c r):Rd k w' w'.heap.size A c r:=h.1

end Go.Proofs.YtcibjcgipfpniaaGreatDoor
namespace Go.Proofs.YtcibjcgipfpniaaGreatDoor
open Go.RowKit
set_option linter.unusedVariables false

end Go.Proofs.YtcibjcgipfpniaaGreatDoor
namespace Go.Proofs.YtcibjcgipfpniaaGreatDoor
open Go.RowKit
set_option linter.unusedVariables false

/-- The cells of a number, as a copy of it takes them. -/
def valsNat10 (l:List Nat):List Value:=l.map fun x:Nat=>Value.int .u32 (x:Int)
end Go.Proofs.YtcibjcgipfpniaaGreatDoor
namespace Go.Proofs.YtcibjcgipfpniaaGreatDoor
open Go.RowKit
set_option linter.unusedVariables false

end Go.Proofs.YtcibjcgipfpniaaGreatDoor
namespace Go.Proofs.YtcibjcgipfpniaaGreatDoor
open Go.RowKit
set_option linter.unusedVariables false

end Go.Proofs.YtcibjcgipfpniaaGreatDoor
namespace Go.Proofs.YtcibjcgipfpniaaGreatDoor
open Go.RowKit
set_option linter.unusedVariables false

end Go.Proofs.YtcibjcgipfpniaaGreatDoor
namespace Go.Proofs.YtcibjcgipfpniaaGreatDoor
open Go.RowKit
set_option linter.unusedVariables false

end Go.Proofs.YtcibjcgipfpniaaGreatDoor
namespace Go.Proofs.YtcibjcgipfpniaaGreatDoor
open Go.RowKit
set_option linter.unusedVariables false

end Go.Proofs.YtcibjcgipfpniaaGreatDoor
namespace Go.Proofs.YtcibjcgipfpniaaGreatDoor
set_option linter.unusedVariables false

/-- The parts of a divisor and of what is divided, from their highest digits on. -/
structure Parts (P lu lv u0 u1 u2 v1 v2 U V:Nat):Prop where
 hp:0<P
 hlu:lu<P
 hlv:lv<P
 hu1:u1<4294967296
 hu2:u2<4294967296
 hv1:2147483648≤v1
 hv1':v1<4294967296
 hv2:v2<4294967296
 hU:U=lu+P*((u0*4294967296+u1)*4294967296+u2)
 hV:V=lv+P*(v1*4294967296+v2)
 hlt:U<4294967296*V

theorem mul_lt_cancel {a b P c:Nat} (h:P*a<P*b+c) (hc:c≤P):a≤b:=by
 rcases Nat.lt_or_ge b a with h1 | h1
 ·have:P*(b+1)≤P*a:=Nat.mul_le_mul_left _ h1
  rw [Nat.mul_add] at this
  omega
 ·exact h1

section
variable {P lu lv u0 u1 u2 v1 v2 U V:Nat} (h:Parts P lu lv u0 u1 u2 v1 v2 U V)
include h
theorem Parts.vpos:0<V:=by
 have h1:=h.hV
 have h2:P*1≤P*(v1*4294967296+v2):=Nat.mul_le_mul_left _ (by have:=h.hv1;omega)
 have:=h.hp
 omega
theorem Parts.q:U / V<4294967296:=by
 rw [Nat.div_lt_iff_lt_mul h.vpos]
 exact h.hlt
/-- The digit times the two highest digits of the divisor is no more than the three highest of what is divided. -/
theorem Parts.top:U / V*(v1*4294967296+v2)≤(u0*4294967296+u1)*4294967296+u2:=by
 have h1:=Nat.div_mul_le_self U V
 obtain ⟨q,hq⟩:∃ q,q=U / V:=⟨_,rfl⟩
 rw [←hq] at h1 ⊢
 rw [h.hV,Nat.mul_add] at h1
 have h2:q*(P*(v1*4294967296+v2))=P*(q*(v1*4294967296+v2)):=Nat.mul_left_comm _ _ _
 rw [h2,h.hU] at h1
 exact mul_lt_cancel (P:=P) (c:=P) (by have:=h.hlu;omega) (Nat.le_refl _)
theorem Parts.u0_le:u0≤v1:=by
 have h1:=h.hlt
 rw [h.hU,h.hV] at h1
 have e1:4294967296*(lv+P*(v1*4294967296+v2))<P*(4294967296*(4294967296*(v1+1))):=by
  have:lv+P*(v1*4294967296+v2)<P*(v1*4294967296+v2+1):=by rw [Nat.mul_add P (v1*4294967296+v2)];have:=h.hlv;omega
  have h3:P*(v1*4294967296+v2+1)≤P*(4294967296*(v1+1)):=Nat.mul_le_mul_left _ (by have:=h.hv2;omega)
  have h4:4294967296*(P*(4294967296*(v1+1)))=P*(4294967296*(4294967296*(v1+1))):=Nat.mul_left_comm _ _ _
  omega
 have e2:P*((u0*4294967296+u1)*4294967296+u2)<P*(4294967296*(4294967296*(v1+1))):=by omega
 have e3:=Nat.lt_of_mul_lt_mul_left e2
 omega
/-- The first guess is not too small. -/
theorem Parts.first:U / V≤(u0*4294967296+u1) / v1:=by
 have hv:=h.hv1
 rw [Nat.le_div_iff_mul_le (by omega)]
 have h1:=h.top
 rw [Nat.mul_add] at h1
 have h2:U / V*(v1*4294967296)=(U / V*v1)*4294967296:=(Nat.mul_assoc _ _ _).symm
 rw [h2] at h1
 have:=h.hu2
 omega
/-- Where the test says so the guess is too great. -/
theorem Parts.less {g r:Nat} (hg:U / V≤g) (hgr:g*v1+r=u0*4294967296+u1) (ht:4294967296≤g∨r*4294967296+u2<g*v2):U / V+1≤g:=by
 rcases ht with ht | ht
 ·have:=h.q
  omega
 ·rcases Nat.lt_or_ge (U / V) g with h1 | h1
  ·exact h1
  ·have e:U / V=g:=by omega
   have h2:=h.top
   rw [e,←hgr,Nat.mul_add] at h2
   have h3:g*(v1*4294967296)=g*v1*4294967296:=(Nat.mul_assoc _ _ _).symm
   omega
/-- Where the rest has grown over a digit the guess is a digit, and the test says no. -/
theorem Parts.over {g r:Nat} (hgr:g*v1+r=u0*4294967296+u1) (hr:4294967296≤r):g<4294967296∧g*v2≤r*4294967296+u2:=by
 have h1:=h.u0_le
 have h2:=h.hu1
 have hg:g<4294967296:=by
  rcases Nat.lt_or_ge g 4294967296 with h3 | h3
  ·exact h3
  ·have:4294967296*v1≤g*v1:=Nat.mul_le_mul_right _ h3
   omega
 refine ⟨hg,?_⟩
 have h4:g*v2≤4294967296*v2:=Nat.mul_le_mul_right _ (by omega)
 have h5:=h.hv2
 omega
end

end Go.Proofs.YtcibjcgipfpniaaGreatDoor
namespace Go.Proofs.YtcibjcgipfpniaaGreatDoor
open Go.RowKit
set_option linter.unusedVariables false

end Go.Proofs.YtcibjcgipfpniaaGreatDoor
namespace Go.Proofs.YtcibjcgipfpniaaGreatDoor
set_option linter.unusedVariables false

end Go.Proofs.YtcibjcgipfpniaaGreatDoor
namespace Go.Proofs.YtcibjcgipfpniaaGreatDoor
open Go.RowKit
set_option linter.unusedVariables false

/-- What a division yields. -/
def Divided (w:World) (a b:Nat) (e:Ending) (w':World):Prop :=
 ∃ A2 c2 q A3 c3 r,e = .returned (.tuple #[.slice A2 q.length c2,.slice A3 r.length c3,.bool true])∧NumIs q (a / b)∧NumIs r (a % b)∧Fresh .u32 59 w' w.heap.size A2 c2 q∧Fresh .u32 59 w' w.heap.size A3 c3 r∧Below w.heap.size w w'

end Go.Proofs.YtcibjcgipfpniaaGreatDoor
namespace Go.Proofs.YtcibjcgipfpniaaGreatDoor
open Go.RowKit
set_option linter.unusedVariables false

end Go.Proofs.YtcibjcgipfpniaaGreatDoor
namespace Go.Proofs.YtcibjcgipfpniaaGreatDoor
open Go.RowKit
set_option linter.unusedVariables false

end Go.Proofs.YtcibjcgipfpniaaGreatDoor
