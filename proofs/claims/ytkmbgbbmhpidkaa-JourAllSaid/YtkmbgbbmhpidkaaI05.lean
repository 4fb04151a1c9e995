/- Words and laws for the statement, part 5. -/
import Derived.RangeFuncNested
import Derived.RangeFuncBound
import Derived.RangeFuncCalls
import Derived.RangeFuncLeaves
import Derived.RangeFuncKeeps
import Derived.RangeFuncFrom
import Derived.Shelf.Abstract
import Derived.Shelf.RegionOpen
import Derived.OwnWalkIn
import Derived.TacticsInMore
import Derived.LoopNIn
import Derived.LoopIn
import Derived.Test.YtkmbgbbmhpidkaaI02
import Derived.Test.YtkmbgbbmhpidkaaI04
namespace Go.Proofs.Ytkmbgbbmhpidkaa
open Go.RowKit
set_option linter.unusedVariables false
set_option linter.unusedSimpArgs false
attribute [local go_sem ↓] Go.wp_at_zero Go.wp_at_succ

theorem secOf_take (l:List Nat):secOf (l.take 64)=secOf l:=by
 unfold secOf
 rw [List.length_take,Nat.min_comm 64,Nat.min_eq_left (Nat.min_le_right _ _)]
 have key:∀ k,k≤64→fillS (l.take 64) k=fillS l k:=by
  intro k
  induction k with
  | zero=>intro _;rfl
  | succ k ih =>
   intro hk
   rw [fillS,fillS,ih (by omega)]
   congr 1
   simp [List.getD,List.getElem?_take,show k<64 by omega]
 exact key _ (Nat.min_le_right _ _)
theorem secOf_grow {l:List Nat} {k:Nat} (h:k<l.length) (h2:k<64):secOf (l.take (k+1))=(secOf (l.take k)).set k (l.getD k 0):=by
 rw [secOf_short (by rw [List.length_take];omega),secOf_short (by rw [List.length_take];omega)]
 have hk:(l.take k).length=k:=by rw [List.length_take];omega
 have hk1:(l.take (k+1)).length=k+1:=by rw [List.length_take];omega
 have hz:zsec.drop k=0 :: zsec.drop (k+1):=by
  rw [List.drop_eq_getElem_cons (by rw [zsec,List.length_replicate];omega)]
  congr 1
  exact List.getElem_replicate _
 rw [hk,hk1,hz,List.set_append_right _ _ (by omega),hk,Nat.sub_self,List.set_cons_zero,List.take_add_one,List.getElem?_eq_getElem h,List.append_assoc]
 simp [List.getD,h]
theorem places_length (L:List (Int×List Nat)):(placesB L).length=2*L.length:=flat_length (f:=fun p:Int×List Nat=>two8 p.1.toNat) (m:=2) (fun x _=>rfl)
theorem places_at {L:List (Int×List Nat)} {k:Nat} {p:Int×List Nat} (h:L[k]?=some p):(placesB L).getD (2*k) 0=p.1.toNat / 256 % 256∧(placesB L).getD (2*k+1) 0=p.1.toNat % 256:=by
 have f:=fun j (hj:j<2)=>flat_at (f:=fun p:Int×List Nat=>two8 p.1.toNat) (m:=2) (fun x _=>rfl) h hj
 have f0:=f 0 (by omega)
 have f1:=f 1 (by omega)
 refine ⟨?_,?_⟩
 ·rw [List.getD,placesB,show 2*k=2*k+0 by omega,f0];rfl
 ·rw [List.getD,placesB,f1];rfl
def RelSh (w:World) (X:List Nat) (n t:Nat) (i:Value) (wr:World):Prop :=
 ∃ k:Nat,32*t≤k∧k≤n∧k≤32*(t+1)∧i = .int .i64 k∧Row .u8 5 wr w.heap.size (secOf (X.take (2*(k - 32*t))))∧Below w.heap.size w wr
set_option maxRecDepth 100000 in
set_option maxHeartbeats 4000000 in
theorem sheet_any (w:World) (A:Option Addr) (c n:Nat) (l:List Wr) (hl:l.length=n) (hr:RdWr A c l w) (hn:n≤1000) (hat:∀ x∈l,0≤x.at_∧x.at_<65536) (t:Nat) (ht:t<sheetsN n) :
  Calls Try.prog 62 #[.slice A n c,.int .i64 (t:Int)] w fun e w'=>e = .returned (.slice (some ⟨w.heap.size,0,none⟩) 64 64)∧Row .u8 5 w' w.heap.size (shB (wv l) t)∧Below w.heap.size w w':=by
 obtain ⟨X,hX⟩:∃ X,X=(placesB (wv l)).drop (64*t):=⟨_,rfl⟩
 unfold sheetsN at ht
 have hsh:shB (wv l) t=secOf X:=by rw [hX];rfl
 rw [hsh]
 have HXL:Hid (X.length=2*n - 64*t):=Lib.hid (by rw [hX,List.length_drop,places_length,wv_length,hl])
 have HXA:Hid (∀ k,32*t≤k→k<n→X.getD (2*(k - 32*t)) 0=(l.getD k default).at_.toNat / 256 % 256∧X.getD (2*(k - 32*t)+1) 0=(l.getD k default).at_.toNat % 256∧0≤(l.getD k default).at_∧(l.getD k default).at_<65536):=Lib.hid fun k h1 h2=>by
  obtain ⟨p1,p2⟩:=places_at (wv_at (l:=l) (j:=k) (by omega))
  refine ⟨?_,?_,hat _ (getD_memJ (by omega))⟩
  ·rw [hX,List.getD,List.getElem?_drop,show 64*t+2*(k - 32*t)=2*k by omega];exact p1
  ·rw [hX,List.getD,List.getElem?_drop,show 64*t+(2*(k - 32*t)+1)=2*k+1 by omega];exact p2
 have HR:=Lib.hid hr
 have HL:=Lib.hid hl
 have hnc:n≤c:=by have:=hr.1;omega
 have hc63:=hr.2.1
 have HH:=Lib.hid (headed_nil w)
 have ht2:t≤40:=by omega
 have ht32:32*t≤n:=by omega
 clear hX hsh hat hr hl
 have hm1:IntKind.i64.wrap ((t:Int)*32)=((32*t:Nat):Int):=by rw [IntWalk.i64_in _ (by omega)];omega
 have hm2:IntKind.i64.wrap (((t:Int)+1)*32)=((32*(t+1):Nat):Int):=by rw [IntWalk.i64_in _ (by omega)];omega
 go_enter Try.func62,Try.ntmps62
 go_wp2_with fail
 refine HH.out.mono ?_
 rintro e w1 ⟨rfl,hr1,hb1⟩
 have HR1:=Lib.hid hr1
 have HB1:=Lib.hid hb1
 clear hr1 hb1 HH
 go_wp2_with fail
 go_loopw [6] (fun i wr=>RelSh w X n t i wr) (fun i _=>n - (intOf i).toNat)
 case atStart=>exact ⟨32*t,Nat.le_refl _,ht32,by omega,by go_num,by rw [Nat.sub_self];exact HR1.out,HB1.out⟩
 case round =>
  obtain ⟨k,hk1,hk2,hk3,rfl,hrow,hb⟩:=hrel
  obtain ⟨V,hV⟩:∃ V,V=wr:=⟨_,rfl⟩
  subst hV
  have HROW:=Lib.hid hrow
  have HB:=Lib.hid hb
  clear hrow hb
  by_cases hlt:k<n∧k<32*(t+1)
  case pos =>
   obtain ⟨hlt,hlt2⟩:=hlt
   have hkI:(k:Int)<(n:Int):=by omega
   have hk0:(0:Int)≤(k:Int):=by omega
   have hkd:decide ((k:Int)<((32*(t+1):Nat):Int))=true:=decide_eq_true (by omega)
   obtain ⟨b,off,rfl,hb,hc0,_,_⟩:=HR.out.at_ (j:=k) (by rw [HL.out];exact hlt)
   obtain ⟨p1,p2,ha0,ha1⟩:=HXA.out k hk1 hlt
   obtain ⟨y,hy⟩:∃ y:Nat,(l.getD k default).at_=(y:Int):=⟨(l.getD k default).at_.toNat,by omega⟩
   rw [hy] at hc0 ha1 p1 p2
   rw [Int.toNat_natCast] at p1 p2
   have hy6:y<65536:=by omega
   have hc:=(HB.out.cell (p:=⟨b,off+k*2,none⟩) hb).trans hc0
   have hne:b≠w.heap.size:=by omega
   obtain ⟨a,ha⟩:∃ a,a=k - 32*t:=⟨_,rfl⟩
   have hmod:(k:Int) % 32=(a:Int):=by omega
   rw [←ha] at p1 p2
   have ha32:a<32:=by omega
   have hXl:2*a+1<X.length:=by rw [HXL.out];omega
   have hrow:=HROW.out
   rw [←ha] at hrow
   have HR2:Hid (Row .u8 5 ((V.setCell ⟨w.heap.size,a*2,none⟩ (.int .u8 ((y:Int) / 256))).setCell ⟨w.heap.size,a*2+1,none⟩ (.int .u8 ((y:Int) % 256))) w.heap.size (secOf (X.take (2*(k+1 - 32*t))))):=Lib.hid (by
    have h:=(hrow.set (2*a) (y / 256)).set (2*a+1) (y % 256)
    rw [show 2*(k+1 - 32*t)=2*a+1+1 by omega,secOf_grow (by omega) (by omega),secOf_grow (by omega) (by omega),p1,p2,Nat.mod_eq_of_lt (show y / 256<256 by omega)]
    rw [Nat.mul_comm a 2]
    exact h)
   have HB2:=Lib.hid ((HB.out.setCell (p:=⟨w.heap.size,a*2,none⟩) (Nat.le_refl _) (.int .u8 ((y:Int) / 256))).setCell (p:=⟨w.heap.size,a*2+1,none⟩) (Nat.le_refl _) (.int .u8 ((y:Int) % 256)))
   have k0:=hrow.cell (i:=a*2) (by rw [secOf_length];omega)
   have k1:=hrow.cell (i:=a*2+1) (by rw [secOf_length];omega)
   have f0:=hrow.open_ (a*2)
   have f1:=hrow.open_ (a*2+1)
   have hkw:IntKind.i64.wrap ((k:Int)+1)=(k:Int)+1:=IntWalk.i64_in _ (by omega)
   have hi0:(0:Int)≤(a:Int)*2:=by omega
   have hi1:(a:Int)*2<64:=by omega
   have hi2:(0:Int)≤(a:Int)*2+1:=by omega
   have hi3:(a:Int)*2+1<64:=by omega
   clear hrow hc0 p1 p2 ha0 ha1 hy ha hXl
   go_wp2_with fail
   go_roundw
   case rel=>exact ⟨k+1,by omega,by omega,by omega,by go_num,HR2.out,HB2.out⟩
   case measure=>simp [intOf];omega
  case neg =>
   have HX:Hid (secOf (X.take (2*(k - 32*t)))=secOf X):=Lib.hid (by
    by_cases h:k<n
    ·rw [show 2*(k - 32*t)=64 by omega,secOf_take]
    ·rw [List.take_of_length_le (by rw [HXL.out];omega)])
   rw [HX.out] at HROW
   clear HX
   by_cases h:k<n
   ·have hkI:(k:Int)<(n:Int):=by omega
    have hkd:decide ((k:Int)<((32*(t+1):Nat):Int))=false:=decide_eq_false (by omega)
    go_wp2_with fail
    go_ret
    exact ⟨rfl,HROW.out,HB.out⟩
   ·have hkI:¬ ((k:Int)<(n:Int)):=by omega
    go_wp2_with fail
    go_ret
    exact ⟨rfl,HROW.out,HB.out⟩
/-! The log. -/
theorem logD_at {l:List Wr} {j:Nat} (h:j<l.length):(logD (wv l))[j]?=some (((2+sheetsN l.length+j:Nat):Int),(l.getD j default).d):=by
 unfold logD
 rw [List.getElem?_mapIdx,wv_at h,wv_length];rfl
theorem logD_length (L:List (Int×List Nat)):(logD L).length=L.length:=by simp [logD]
theorem logS_length (L:List (Int×List Nat)):(logS L).length=sheetsN L.length:=by simp [logS]
theorem logS_at {L:List (Int×List Nat)} {t:Nat} (h:t<sheetsN L.length):(logS L)[t]?=some (((2+t:Nat):Int),shB L t):=by
 unfold logS
 rw [List.getElem?_map,List.getElem?_range h];rfl
/-- Rounds of writes: a list of writes done up to k. -/
def RelPu (w:World) (F:Nat→Prop) (gd:Nat) (s:Dk) (L:List (Int×List Nat)) (n:Nat) (i:Value) (wr:World):Prop :=
 ∃ k:Nat,k≤n∧i = .int .i64 k∧(s.puts (L.take k)).2=0∧DJ w F gd (s.puts (L.take k)).1 wr
theorem put_go {s:Dk} {L:List (Int×List Nat)} {k:Nat} {p:Int×List Nat} (h:L[k]?=some p) (hp:(s.puts (L.take k)).2=0):s.puts (L.take (k+1))=(s.puts (L.take k)).1.write p.1 p.2:=by rw [take_snocJ h,puts_snoc hp]
theorem put_stop {s:Dk} {L:List (Int×List Nat)} {k:Nat} {p:Int×List Nat} (h:L[k]?=some p) (hp:(s.puts (L.take k)).2=0) (hw:((s.puts (L.take k)).1.write p.1 p.2).2≠0):s.putf L=(s.puts (L.take k)).1.write p.1 p.2:=by
 have h1:s.puts L=(s.puts (L.take k)).1.write p.1 p.2:=(congrArg s.puts (split_at h)).trans (puts_stop hp hw)
 rw [putf_stop (by rw [h1];exact hw),h1]
theorem bound_take {s:Dk} {L:List (Int×List Nat)} {n:Nat} (hn:L.length≤n) (k:Nat):(s.puts (L.take k)).1.waits.length≤s.waits.length+n∧(s.puts (L.take k)).1.ops≤s.ops+n:=by
 have h1:=puts_le s (L.take k)
 have h2:(L.take k).length≤L.length:=by rw [List.length_take];omega
 omega
section
variable {w:World} {F:Nat→Prop} {gd:Nat} {s:Dk}
set_option maxRecDepth 100000 in
set_option maxHeartbeats 8000000 in
theorem note_any (h:Disk w F gd s) (A:Option Addr) (c n:Nat) (l:List Wr) (hl:l.length=n) (hr:OffF F (RdWr A c l) w) (hn:n≤1000) (hat:∀ x∈l,0≤x.at_∧x.at_<65536) (hwl:s.waits.length≤80000) (hops:s.ops≤800000000) :
  Calls Try.prog 33 #[.pointer (some ⟨gd,0,none⟩),.slice A n c] w fun e w'=>e = .returned (.int .i64 ((s.putf (logD (wv l) ++ logS (wv l))).2:Nat))∧DJ w F gd (s.putf (logD (wv l) ++ logS (wv l))).1 w':=by
 obtain ⟨L,hL⟩:∃ L,L=logD (wv l) ++ logS (wv l):=⟨_,rfl⟩
 obtain ⟨m,hm⟩:∃ m,m=sheetsN n:=⟨_,rfl⟩
 have hm40:m≤40:=by rw [hm];unfold sheetsN;omega
 rw [←hL]
 have HST:=Lib.hid (DJ.start h)
 have HLn:Hid (L.length=n+m):=Lib.hid (by rw [hL,List.length_append,logD_length,logS_length,wv_length,hl,hm])
 have HLE:Hid (∀ k,(s.puts (L.take k)).1.waits.length≤90000∧(s.puts (L.take k)).1.ops≤900000000):=Lib.hid fun k=>by
  have:=bound_take (s:=s) (Nat.le_of_eq HLn.out) k
  omega
 have HAD:Hid (∀ k,k<n→L[k]?=some (((2+m+k:Nat):Int),(l.getD k default).d)):=Lib.hid fun k hk=>by
  rw [hL,List.getElem?_append_left (by rw [logD_length,wv_length];omega),logD_at (by omega),hl,hm]
 have HAS:Hid (∀ t,t<m→L[n+t]?=some (((2+t:Nat):Int),shB (wv l) t)):=Lib.hid fun t ht=>by
  rw [hL,List.getElem?_append_right (by rw [logD_length,wv_length];omega),logD_length,wv_length,hl,Nat.add_sub_cancel_left,logS_at (by rw [wv_length,hl,←hm];exact ht)]
 have HSH:=Lib.hid fun (w1:World) (hr:RdWr A c l w1) (t:Nat) (ht:t<m)=>sheet_any w1 A c n l hl hr hn hat t (by rw [←hm];exact ht)
 have HNN:=Lib.hid fun (w1:World)=>sheets_any w1 n (by omega)
 rw [←hm] at HNN
 have HR:=Lib.hid hr
 have HL:=Lib.hid hl
 have hnc:n≤c:=by have:=hr.at_.1;omega
 have hc63:=hr.at_.2.1
 obtain ⟨SB,hSB⟩:∃ f,f=shB (wv l):=⟨_,rfl⟩
 rw [←hSB] at HAS HSH
 have HSB:Hid (∀ t,(SB t).length=64):=Lib.hid fun t=>by rw [hSB];exact secOf_length _
 clear h hr hwl hops hat hl hL hm hSB
 go_enter Try.func33,Try.ntmps33
 go_wp2_with (first | (refine (HNN.out _).mono ?_;rintro e w1 ⟨rfl,rfl⟩) | fail)
 have hw5:IntKind.i64.wrap (2+(m:Int))=2+(m:Int):=IntWalk.i64_in _ (by omega)
 go_loopw [17] (fun i wr=>RelPu w F gd s L n i wr) (fun i _=>n - (intOf i).toNat)
 case atStart=>exact ⟨0,Nat.zero_le _,rfl,rfl,HST.out⟩
 case round =>
  obtain ⟨k,hk,rfl,hp,hd⟩:=hrel
  obtain ⟨V,hV⟩:∃ V,V=wr:=⟨_,rfl⟩
  subst hV
  have HP:=Lib.hid hp
  have HD:=Lib.hid hd
  clear hp hd
  by_cases hlt:k<n
  case pos =>
   have hkI:(k:Int)<(n:Int):=by omega
   have hk0:(0:Int)≤(k:Int):=by omega
   obtain ⟨b,off,rfl,hb,hc0,hc1,hrd⟩:=(HD.out.rd HR.out).at_ (j:=k) (by rw [HL.out];exact hlt)
   have hLk:=HAD.out k hlt
   have HSN:=Lib.hid (put_go hLk HP.out)
   have HSP:=Lib.hid (put_stop hLk HP.out)
   obtain ⟨x,hx⟩:∃ x,x=l.getD k default:=⟨_,rfl⟩
   rw [←hx] at hc0 hc1 hrd HSN HSP
   obtain ⟨xa,da,dc,xd⟩:=x
   dsimp only at *
   obtain ⟨dn,hdn⟩:∃ d,xd.length=d:=⟨_,rfl⟩
   rw [hdn] at hc1
   have hbv:Below V.heap.size V (V.alloc (.cells #[.int .i64 xa,.slice da dn dc] 42)):=(Below.refl _ _).alloc (Nat.le_refl _) _
   have hh:=Holds.fresh V 42 #[.int .i64 xa,.slice da dn dc]
   have z0:=hh.cell 0
   have z1:=hh.cell 1
   have hw:IntKind.i64.wrap (2+(m:Int)+(k:Int))=2+(m:Int)+(k:Int):=IntWalk.i64_in _ (by omega)
   have HW:=Lib.hid ((HD.out.below hbv).write (2+(m:Int)+(k:Int)) da dn dc xd hdn ((hrd.under hbv).more hbv.size) (by have:=HLE.out k;omega) (by have:=HLE.out k;omega))
   have hkw:IntKind.i64.wrap ((k:Int)+1)=(k:Int)+1:=IntWalk.i64_in _ (by omega)
   have hcast:((2+m+k:Nat):Int)=2+(m:Int)+(k:Int):=by omega
   rw [hcast] at HSN HSP
   clear hLk hrd hbv hh hx hcast
   go_wp2_with fail
   refine HW.out.mono ?_
   rintro e w2 ⟨rfl,hd2⟩
   have HD2:=Lib.hid hd2
   generalize (s.puts (L.take k)).1.write (2+(m:Int)+(k:Int)) xd=q at *
   obtain ⟨s1,e1⟩:=q
   dsimp only at *
   clear hd2 HW HD HP z0 z1 hc0 hc1
   by_cases h0:e1=0
   ·subst h0
    clear HSP
    go_wp2_with fail
    go_roundw
    case rel=>exact ⟨k+1,by omega,by go_num,by rw [HSN.out],by rw [HSN.out];exact HD2.out⟩
    case measure=>simp [intOf];omega
   ·have HRE:=Lib.hid (HSP.out h0)
    have d0:((e1:Int) == 0)=false:=by rw [beq_eq_false_iff_ne];omega
    have d1:((e1:Int) != 0)=true:=by rw [bne,d0];rfl
    clear HSN HSP
    go_wp2_with fail
    go_ret
    rw [HRE.out]
    exact ⟨rfl,HD2.out⟩
  case neg =>
   obtain rfl:k=n:=by omega
   have hkI:¬ ((k:Int)<(k:Int)):=by omega
   go_wp2_with (first | (refine (HNN.out _).mono ?_;rintro e w1 ⟨rfl,rfl⟩) | fail)
   go_loopw [36] (fun i wr=>∃ t:Nat,t≤m∧i = .int .i64 t∧(s.puts (L.take (k+t))).2=0∧DJ w F gd (s.puts (L.take (k+t))).1 wr) (fun i _=>m - (intOf i).toNat)
   case atStart=>exact ⟨0,Nat.zero_le _,rfl,HP.out,HD.out⟩
   case round =>
    clear HP HD
    obtain ⟨t,ht,rfl,hp,hd⟩:=hrel
    obtain ⟨V2,hV2⟩:∃ V,V=wr:=⟨_,rfl⟩
    subst hV2
    have HP:=Lib.hid hp
    have HD:=Lib.hid hd
    clear hp hd
    by_cases hlt:t<m
    case pos =>
     have htI:(t:Int)<(m:Int):=by omega
     have hLk:=HAS.out t hlt
     have HSN:=Lib.hid (put_go hLk HP.out)
     have HSP:=Lib.hid (put_stop hLk HP.out)
     have HSV:=Lib.hid (HSH.out V2 (HD.out.rd HR.out) t hlt)
     have HLT:=Lib.hid (HLE.out (k+t))
     have hw:IntKind.i64.wrap (2+(t:Int))=2+(t:Int):=IntWalk.i64_in _ (by omega)
     have htw:IntKind.i64.wrap ((t:Int)+1)=(t:Int)+1:=IntWalk.i64_in _ (by omega)
     have hcast:((2+t:Nat):Int)=2+(t:Int):=by omega
     rw [hcast] at HSN HSP
     dsimp only at HSN HSP
     clear hLk hcast
     go_wp2_with fail
     refine HSV.out.mono ?_
     rintro e w2 ⟨rfl,hr2,hb2⟩
     have HW:=Lib.hid ((HD.out.below hb2).write (2+(t:Int)) (some ⟨V2.heap.size,0,none⟩) 64 64 (SB t) (HSB.out t) (Row.rd64 hr2 (HSB.out t)) (by have:=HLT.out;omega) (by have:=HLT.out;omega))
     clear hr2 hb2 HSV HD HLT
     go_wp2_with fail
     refine HW.out.mono ?_
     rintro e w3 ⟨rfl,hd2⟩
     have HD2:=Lib.hid hd2
     generalize (s.puts (L.take (k+t))).1.write (2+(t:Int)) (SB t)=q at *
     obtain ⟨s1,e1⟩:=q
     dsimp only at *
     clear hd2 HW HP
     by_cases h0:e1=0
     ·subst h0
      clear HSP
      go_wp2_with fail
      go_roundw
      case rel=>exact ⟨t+1,by omega,by go_num,by rw [←Nat.add_assoc,HSN.out],by rw [←Nat.add_assoc,HSN.out];exact HD2.out⟩
      case measure=>simp [intOf];omega
     ·have HRE:=Lib.hid (HSP.out h0)
      have d0:((e1:Int) == 0)=false:=by rw [beq_eq_false_iff_ne];omega
      have d1:((e1:Int) != 0)=true:=by rw [bne,d0];rfl
      clear HSN HSP
      go_wp2_with fail
      go_ret
      rw [HRE.out]
      exact ⟨rfl,HD2.out⟩
    case neg =>
     obtain rfl:t=m:=by omega
     have htI:¬ ((t:Int)<(t:Int)):=by omega
     have hTK:L.take (k+t)=L:=List.take_of_length_le (by rw [HLn.out];exact Nat.le_refl _)
     have h1:=HLE.out (k+t)
     rw [hTK] at HP HD h1
     have HF:=Lib.hid (HD.out.flush (by omega) (by omega))
     have HPF:=Lib.hid (putf_go HP.out)
     clear HP HD hTK h1
     go_wp2_with fail
     refine HF.out.mono ?_
     rintro e w2 ⟨rfl,hd2⟩
     have HD2:=Lib.hid hd2
     clear hd2 HF
     go_wp2_with fail
     go_ret
     rw [HPF.out]
     exact ⟨rfl,HD2.out⟩
end
end Go.Proofs.Ytkmbgbbmhpidkaa
namespace Go.Proofs.Ytkmbgbbmhpidkaa
open Go.RowKit
set_option linter.unusedVariables false
set_option linter.unusedSimpArgs false
attribute [local go_sem ↓] Go.wp_at_zero Go.wp_at_succ

theorem mayJ_good {m:Nat} {L:List (Int×List Nat)} (h:mayJ m L=true):∀ p∈L,GoodJ m p:=(of_decide_eq_true h).1
section
variable {w:World} {F:Nat→Prop} {gd:Nat} {s:Dk}
theorem DJ.then_ {wr w':World} {s1 s2:Dk} (h:DJ w F gd s1 wr) (h2:DJ wr (grow F w wr) gd s2 w'):DJ w F gd s2 w':=h.step h2.1 h2.2
set_option maxRecDepth 100000 in
set_option maxHeartbeats 4000000 in
theorem commit_any (h:Disk w F gd s) (A:Option Addr) (c n:Nat) (l:List Wr) (hl:l.length=n) (hr:OffF F (RdWr A c l) w) (hn:n≤1000) (hwl:s.waits.length≤70000) (hops:s.ops≤700000000) :
  Calls Try.prog 10 #[.pointer (some ⟨gd,0,none⟩),.slice A n c] w fun e w'=>e = .returned (.int .i64 ((s.commit (wv l)).2:Nat))∧DJ w F gd (s.commit (wv l)).1 w':=by
 have HFI:=Lib.hid (fit_any h A c n l hl hr.at_ (by omega))
 have HST:=Lib.hid (DJ.start h)
 have hm2:s.many≤2000:=by have:=h.len.2.2;unfold Dk.many;omega
 obtain ⟨r,hr0⟩:∃ r,r=s.commit (wv l):=⟨_,rfl⟩
 rw [←hr0]
 unfold Dk.commit at hr0
 rw [wv_length,hl] at hr0
 have hnil:wv l=[]↔n=0:=by rw [←List.length_eq_zero_iff,wv_length,hl]
 simp only [hnil] at hr0
 have HRR:=Lib.hid hr0
 rcases hmay:mayJ s.many (wv l) with _ | _
 case false =>
  rw [hmay] at HFI
  have HRE:Hid (r=(s,1)):=Lib.hid (by rw [HRR.out,hmay];rfl)
  clear HRR hr0 hmay hr hl h
  go_enter Try.func10,Try.ntmps10
  go_wp2_with fail
  refine HFI.out.mono ?_
  rintro e w1 ⟨rfl,hb1⟩
  have HD1:=Lib.hid (HST.out.below hb1)
  clear hb1 HFI
  go_wp2_with fail
  go_ret
  rw [HRE.out]
  exact ⟨rfl,HD1.out⟩
 rw [hmay] at HFI
 simp only [hmay,if_true] at hr0
 have HRR:=Lib.hid hr0
 have hg:=mayJ_good hmay
 have hat:∀ x∈l,0≤x.at_∧x.at_<65536:=fun x hx=>by
  have:=hg x.v (List.mem_map_of_mem hx)
  have h1:=this.1
  have h2:=this.2.1
  simp only [Wr.v] at h1 h2
  omega
 have HAT:=Lib.hid hat
 have HL:=Lib.hid hl
 have HR:=Lib.hid hr
 clear hr0 hmay hg hat hl hr hnil
 by_cases h150:150<n
 ·have HRE:Hid (r=(s,5)):=Lib.hid (by rw [HRR.out,if_pos h150])
  have d1:decide ((150:Int)<(n:Int))=true:=decide_eq_true (by omega)
  clear HRR h
  go_enter Try.func10,Try.ntmps10
  go_wp2_with fail
  refine HFI.out.mono ?_
  rintro e w1 ⟨rfl,hb1⟩
  have HD1:=Lib.hid (HST.out.below hb1)
  clear hb1 HFI
  go_wp2_with fail
  go_ret
  rw [HRE.out]
  exact ⟨rfl,HD1.out⟩
 have d1:decide ((150:Int)<(n:Int))=false:=decide_eq_false (by omega)
 by_cases h00:n=0
 ·have HRE:Hid (r=(s,0)):=Lib.hid (by rw [HRR.out,if_neg h150,if_pos h00])
  subst h00
  clear HRR h
  go_enter Try.func10,Try.ntmps10
  go_wp2_with fail
  refine HFI.out.mono ?_
  rintro e w1 ⟨rfl,hb1⟩
  have HD1:=Lib.hid (HST.out.below hb1)
  clear hb1 HFI
  go_wp2_with fail
  go_ret
  rw [HRE.out]
  exact ⟨rfl,HD1.out⟩
 have d2:((n:Int) == 0)=false:=by rw [beq_eq_false_iff_ne];omega
 have HR1:Hid (r=if (s.putf (logD (wv l) ++ logS (wv l))).2=0 then
   if ((s.putf (logD (wv l) ++ logS (wv l))).1.putf [(1,markB n)]).2=0 then ((s.putf (logD (wv l) ++ logS (wv l))).1.putf [(1,markB n)]).1.fin (wv l)
   else (s.putf (logD (wv l) ++ logS (wv l))).1.putf [(1,markB n)]
  else s.putf (logD (wv l) ++ logS (wv l))):=Lib.hid (by rw [HRR.out,if_neg h150,if_neg h00])
 have hle:=putf_le s (logD (wv l) ++ logS (wv l))
 rw [List.length_append,logD_length,logS_length,wv_length,HL.out] at hle
 have hsn:sheetsN n≤40:=by unfold sheetsN;omega
 have HLE:Hid ((s.putf (logD (wv l) ++ logS (wv l))).1.waits.length≤75000∧(s.putf (logD (wv l) ++ logS (wv l))).1.ops≤750000000):=Lib.hid (by omega)
 have HNO:=Lib.hid fun (w1:World) (hb:Below w.heap.size w w1)=>note_any (HST.out.below hb).1 A c n l HL.out ((HR.out.only (HST.out.below hb).2).less fun g hg=>.inl hg) hn HAT.out (by omega) (by omega)
 clear HRR hle hsn h
 generalize s.putf (logD (wv l) ++ logS (wv l))=q at *
 obtain ⟨s1,e1⟩:=q
 dsimp only at *
 go_enter Try.func10,Try.ntmps10
 go_wp2_with fail
 refine HFI.out.mono ?_
 rintro e w1 ⟨rfl,hb1⟩
 have HD1:=Lib.hid (HST.out.below hb1)
 have HN1:=Lib.hid (HNO.out w1 hb1)
 clear hb1 HFI HNO
 go_wp2_with fail
 refine HN1.out.mono ?_
 rintro e w2 ⟨rfl,hd2⟩
 have HD2:=Lib.hid (HD1.out.then_ hd2)
 clear hd2 HN1 HD1
 by_cases h0:e1=0
 case neg =>
  have HRE:Hid (r=(s1,e1)):=Lib.hid (by rw [HR1.out,if_neg h0])
  have x0:((e1:Int) == 0)=false:=by rw [beq_eq_false_iff_ne];omega
  have x1:((e1:Int) != 0)=true:=by rw [bne,x0];rfl
  clear HR1
  go_wp2_with fail
  go_ret
  rw [HRE.out]
  exact ⟨rfl,HD2.out⟩
 subst h0
 have HR2:Hid (r=if (s1.putf [(1,markB n)]).2=0 then (s1.putf [(1,markB n)]).1.fin (wv l) else s1.putf [(1,markB n)]):=Lib.hid (by rw [HR1.out,if_pos rfl])
 have HMK:=Lib.hid (markOf_any w2 n (by omega))
 have hle2:=putf_le s1 [(1,markB n)]
 simp only [List.length_cons,List.length_nil] at hle2
 have HLE2:Hid ((s1.putf [(1,markB n)]).1.waits.length≤80000∧(s1.putf [(1,markB n)]).1.ops≤800000000):=Lib.hid (by have:=HLE.out;omega)
 have HFLU:=Lib.hid fun (w3:World) (hb:Below w2.heap.size w2 w3) (hz:Row .u8 5 w3 w2.heap.size (markB n))=>flushed_any (HD2.out.below hb).1 1 (some ⟨w2.heap.size,0,none⟩) 64 64 (markB n) (secOf_length _) (Row.rd64 hz (secOf_length _)) (by have:=HLE.out;omega) (by have:=HLE.out;omega)
 clear HR1 hle2
 generalize s1.putf [(1,markB n)]=q at *
 obtain ⟨s2,e2⟩:=q
 dsimp only at *
 go_wp2_with fail
 refine HMK.out.mono ?_
 rintro e w3 ⟨rfl,hr3,hb3⟩
 have HF3:=Lib.hid (HFLU.out w3 hb3 hr3)
 have HD3:=Lib.hid (HD2.out.below hb3)
 clear hr3 hb3 HMK HFLU HD2
 go_wp2_with fail
 refine HF3.out.mono ?_
 rintro e w4 ⟨rfl,hd4⟩
 have HD4:=Lib.hid (HD3.out.then_ hd4)
 clear hd4 HF3 HD3
 by_cases h0:e2=0
 case neg =>
  have HRE:Hid (r=(s2,e2)):=Lib.hid (by rw [HR2.out,if_neg h0])
  have x0:((e2:Int) == 0)=false:=by rw [beq_eq_false_iff_ne];omega
  have x1:((e2:Int) != 0)=true:=by rw [bne,x0];rfl
  clear HR2
  go_wp2_with fail
  go_ret
  rw [HRE.out]
  exact ⟨rfl,HD4.out⟩
 subst h0
 have HR3:Hid (r=s2.fin (wv l)):=Lib.hid (by rw [HR2.out,if_pos rfl])
 have HSE:=Lib.hid (settle_any HD4.out.1 A c n l HL.out ((HR.out.only HD4.out.2).less fun g hg=>.inl hg) hn (fun x hx=>by have:=HAT.out x hx;omega) HLE2.out.1 HLE2.out.2)
 clear HR2
 go_wp2_with fail
 refine HSE.out.mono ?_
 rintro e w5 ⟨rfl,hd5⟩
 have HD5:=Lib.hid (HD4.out.then_ hd5)
 clear hd5 HSE
 go_wp2_with fail
 go_ret
 rw [HR3.out]
 exact ⟨rfl,HD5.out⟩
end
end Go.Proofs.Ytkmbgbbmhpidkaa
namespace Go.Proofs.Ytkmbgbbmhpidkaa
open Go.RowKit Go.Shelf
set_option linter.unusedVariables false
set_option linter.unusedSimpArgs false
attribute [local go_sem] Oper.semAt_some

theorem cells_of {w:World} {g o:Nat} {v:Value} (h:w.cell? ⟨g,o,none⟩=some v):∃ x:Obj,w.heap[g]?=some x∧x.isCells=true:=Go.cells_of_cell h
theorem holds_cells {w:World} {g:Nat} {t:TypeId} {cs:Array Value} (h:Holds w g t cs):∃ x:Obj,w.heap[g]?=some x∧x.isCells=true:=⟨_,h,rfl⟩
theorem DiskAt.cells {w:World} {gd gn gl:Nat} {A:Option Addr} {cw:Nat} {K:Option Addr} {ck:Nat} {s:Dk} (h:DiskAt w gd gn gl A cw K ck s):∀ g,(g=gd∨g=gn∨g=gl∨blockOf A=some g)→∃ x:Obj,w.heap[g]?=some x∧x.isCells=true:=by
 rintro g (rfl | rfl | rfl | hg)
 ·exact holds_cells h.hd
 ·obtain ⟨cur,e,hc,_⟩:=h.hn
  exact ⟨_,hc,rfl⟩
 ·obtain ⟨cur,e,hc,_⟩:=h.hl
  exact ⟨_,hc,rfl⟩
 ·rcases h.hw.own with ⟨_,⟨e,_⟩ | ⟨g',cap,cur,e,_,hc,_⟩⟩
  ·injection e with e
   rw [e] at hg
   simp [blockOf] at hg
  ·injection e with e
   rw [e] at hg
   obtain rfl:g'=g:=by simpa [blockOf] using hg
   exact ⟨_,hc,rfl⟩
theorem Only.others {F:Nat→Prop} {w w':World} (h:Only F w w') (hc:∀ g,F g→∃ x:Obj,w.heap[g]?=some x∧x.isCells=true):KeepsOthers w w' :=
 ⟨h.size,fun k o hk ho=>(h.block k (Array.getElem?_eq_some_iff.1 hk).1 fun hF=>by
  obtain ⟨x,hx,hxc⟩:=hc k hF
  rw [hk] at hx
  injection hx with hx
  rw [hx,hxc] at ho
  cases ho).trans hk⟩
theorem Truths.keepCells {w w':World} {K:Option Addr} {c:Nat} {l:List Bool} (h:Truths w K c l) (hs:w.heap.size≤w'.heap.size) (hk:∀ (g:Nat) (o:Obj),w.heap[g]?=some o→o.isCells=true→w'.heap[g]?=w.heap[g]?):Truths w' K c l :=
 ⟨h.1,h.2.1,fun hn=>by
  obtain ⟨b,off,e,hlt,hc⟩:=h.2.2 hn
  obtain ⟨x,hx,hxc⟩:=cells_of (hc 0 hn)
  have hb:=hk b x hx hxc
  exact ⟨b,off,e,Nat.lt_of_lt_of_le hlt hs,fun j hj=>by rw [←hc j hj];simp only [World.cell?];rw [hb]⟩⟩
/-- The disk stays while no block of cells turns. -/
theorem Disk.keepCells {w w':World} {F:Nat→Prop} {gd:Nat} {s:Dk} (h:Disk w F gd s) (hs:w.heap.size≤w'.heap.size) (hk:∀ (g:Nat) (o:Obj),w.heap[g]?=some o→o.isCells=true→w'.heap[g]?=w.heap[g]?):Disk w' F gd s:=by
 obtain ⟨gn,gl,A,cw,K,ck,h,f⟩:=h
 have k:∀ g,(g=gd∨g=gn∨g=gl∨blockOf A=some g)→w'.heap[g]?=w.heap[g]?:=fun g hg=>by
  obtain ⟨x,hx,hxc⟩:=h.cells g hg
  exact hk g x hx hxc
 exact ⟨gn,gl,A,cw,K,ck,{
  hd:=(k gd (.inl rfl)).trans h.hd
  hn:=h.hn.keep (k gn (.inr (.inl rfl)))
  hl:=h.hl.keep (k gl (.inr (.inr (.inl rfl))))
  len:=h.len
  hw:=h.hw.keep fun g hg=>k g (.inr (.inr (.inr hg)))
  hk:=h.hk.keepCells hs hk
  dn:=h.dn
  dl:=h.dl
  nl:=h.nl
  ad:=h.ad
  kd:=h.kd
  kw:=fun g hg=>Nat.lt_of_lt_of_le (h.kw g hg) hs
  n1:=h.n1
  n2:=h.n2
  wat:=h.wat },f⟩
theorem Disk.low {w:World} {F:Nat→Prop} {gd:Nat} {s:Dk} (h:Disk w F gd s):Disk w (fun k=>F k∧k<w.heap.size) gd s:=by
 obtain ⟨gn,gl,A,cw,K,ck,h,f1,f2,f3,f4,f5⟩:=h
 exact ⟨gn,gl,A,cw,K,ck,h,⟨f1,Holds.lt h.hd⟩,⟨f2,h.hn.lt⟩,⟨f3,h.hl.lt⟩,fun g hg=>⟨f4 g hg,h.hw.lt hg⟩,fun g hg=>⟨f5 g hg,h.kw g hg⟩⟩
/-- A write, and nothing but cells turns. -/
theorem disk_writeO {w:World} {F:Nat→Prop} {gd:Nat} {s:Dk} (h:Disk w F gd s) (i:Int) (A2:Option Addr) (n2 c2:Nat) (x:List Nat) (hn:x.length=n2) (hr:Rd .u8 w w.heap.size A2 c2 x) (hwl:s.waits.length≤100000) (hops:s.ops≤1000000000) :
  Calls Try.prog 20 #[.pointer (some ⟨gd,0,none⟩),.int .i64 i,.slice A2 n2 c2] w fun e w'=>e = .returned (.int .i64 ((s.write i x).2:Nat))∧Disk w' (grow F w w') gd (s.write i x).1∧Only F w w'∧KeepsOthers w w':=by
 obtain ⟨gn,gl,A,cw,K,ck,h,f1,f2,f3,f4,f5⟩:=h
 have hself:Disk w (grow F w w) gd s:=h.disk (F:=F) ⟨f1,f2,f3,f4,f5⟩ h (fun g e=>.inl e) (fun g e=>.inl e)
 unfold Dk.write
 by_cases hdn:s.down=true
 ·rw [if_pos hdn]
  refine (write_down w gd s gn gl A cw K ck h hdn i _).mono ?_
  rintro e w' ⟨rfl,rfl⟩
  exact ⟨rfl,hself,Only.refl _ _,KeepsOthers.refl _⟩
 ·rw [if_neg hdn]
  have hdn':s.down=false:=by simpa using hdn
  by_cases hf:s.fits i x
  ·rw [if_pos hf]
   obtain ⟨h0,h1,h2⟩:=hf
   obtain ⟨i,rfl⟩:∃ k:Nat,i=(k:Int):=⟨i.toNat,by omega⟩
   obtain rfl:n2=64:=by omega
   by_cases hd:s.due=true
   ·rw [if_pos hd]
    refine (write_due w gd s gn gl A cw K ck h hdn' i (by omega) A2 c2 hd hwl).mono ?_
    rintro e w' ⟨rfl,hd',ho⟩
    exact ⟨rfl,h.disk ⟨f1,f2,f3,f4,f5⟩ hd' (fun g e=>by simp [blockOf] at e) (fun g e=>.inl e),ho.more fun k _ e=>by rcases e with rfl | rfl | rfl;exact f1;exact f2;exact f3,ho.others fun g hg=>h.cells g (by rcases hg with rfl | rfl | rfl;exact .inl rfl;exact .inr (.inl rfl);exact .inr (.inr (.inl rfl)))⟩
   ·rw [if_neg hd]
    refine (write_ok w gd gn gl A cw K ck s h i (by omega) x h2 hdn' (by simpa [Dk.due] using hd) A2 c2 hr hwl hops).mono ?_
    rintro e w' ⟨rfl,g',c',hd',hA,ho⟩
    refine ⟨rfl,h.disk ⟨f1,f2,f3,f4,f5⟩ hd' (fun g e=>?_) (fun g e=>.inl e),ho.more fun k _ e=>by rcases e with rfl | rfl | e;exact f1;exact f2;exact f4 k e,ho.others fun g hg=>h.cells g (by rcases hg with rfl | rfl | hg;exact .inl rfl;exact .inr (.inl rfl);exact .inr (.inr (.inr hg)))⟩
    obtain rfl:g'=g:=by simpa [blockOf] using e
    exact hA
  ·rw [if_neg hf]
   refine (write_arg w gd s gn gl A cw K ck h hdn' i A2 n2 c2 (fun e=>hf ⟨e.1,e.2.1,by omega⟩)).mono ?_
   rintro e w' ⟨rfl,rfl⟩
   exact ⟨rfl,hself,Only.refl _ _,KeepsOthers.refl _⟩
theorem disk_flushO {w:World} {F:Nat→Prop} {gd:Nat} {s:Dk} (h:Disk w F gd s) (hwl:s.waits.length≤100000) (hops:s.ops≤1000000000) :
  Calls Try.prog 23 #[.pointer (some ⟨gd,0,none⟩)] w fun e w'=>e = .returned (.int .i64 (s.flush.2:Nat))∧Disk w' (grow F w w') gd s.flush.1∧Only F w w'∧KeepsOthers w w':=by
 obtain ⟨gn,gl,A,cw,K,ck,h,f1,f2,f3,f4,f5⟩:=h
 have hself:Disk w (grow F w w) gd s:=h.disk (F:=F) ⟨f1,f2,f3,f4,f5⟩ h (fun g e=>.inl e) (fun g e=>.inl e)
 unfold Dk.flush
 by_cases hdn:s.down=true
 ·rw [if_pos hdn]
  refine (flush_down w gd s gn gl A cw K ck h hdn).mono ?_
  rintro e w' ⟨rfl,rfl⟩
  exact ⟨rfl,hself,Only.refl _ _,KeepsOthers.refl _⟩
 ·rw [if_neg hdn]
  have hdn':s.down=false:=by simpa using hdn
  by_cases hd:s.due=true
  ·rw [if_pos hd]
   refine (flush_due w gd s gn gl A cw K ck h hdn' hd hwl).mono ?_
   rintro e w' ⟨rfl,hd',ho⟩
   exact ⟨rfl,h.disk ⟨f1,f2,f3,f4,f5⟩ hd' (fun g e=>by simp [blockOf] at e) (fun g e=>.inl e),ho.more fun k _ e=>by rcases e with rfl | rfl | rfl;exact f1;exact f2;exact f3,ho.others fun g hg=>h.cells g (by rcases hg with rfl | rfl | rfl;exact .inl rfl;exact .inr (.inl rfl);exact .inr (.inr (.inl rfl)))⟩
  ·rw [if_neg hd]
   refine (flush_ok w gd gn gl A cw K ck s h hdn' (by simpa [Dk.due] using hd) hwl hops (fun _=>true) fun _=>rfl).mono ?_
   rintro e w' ⟨rfl,hd',ho⟩
   exact ⟨rfl,h.disk ⟨f1,f2,f3,f4,f5⟩ hd' (fun g e=>by simp [blockOf] at e) (fun g e=>.inl e),ho.more fun k _ e=>by rcases e with rfl | rfl;exact f1;exact f3,ho.others fun g hg=>h.cells g (by rcases hg with rfl | rfl;exact .inl rfl;exact .inr (.inr (.inl rfl)))⟩
/-- The disk since w, while block r is the caller's own. -/
def DJr (w:World) (F:Nat→Prop) (r:Nat) (gd:Nat) (s:Dk) (W:World):Prop:=Disk W (grow F w W) gd s∧Only (fun k=>F k∨k=r) w W
section
variable {w W W':World} {F:Nat→Prop} {r gd:Nat} {s s':Dk}
theorem DJ.toR (h:DJ w F gd s W):DJr w F r gd s W:=⟨h.1,h.2.more fun k _ hk=>.inl hk⟩
theorem DJr.turns {row:Option Nat} (h:DJr w F r gd s W) (hg:W.grownBy W' row) (hr:∀ q,row=some q→w.heap.size≤q∧∃ o:Obj,W.heap[q]?=some o∧o.isCells=false):DJr w F r gd s W' :=
 ⟨(h.1.keepCells hg.size fun g o ho hc=>hg.block g (Array.getElem?_eq_some_iff.1 ho).1 fun e=>by
   obtain ⟨_,o',ho',hc'⟩:=hr g e.symm
   rw [ho] at ho'
   injection ho' with ho'
   rw [←ho',hc] at hc'
   cases hc').more fun k hk=>by
    have:=hg.size
    rcases hk with hk | hk
    ·exact .inl hk
    ·exact .inr ⟨hk.1,by omega⟩,
  h.2.grown hg fun g e=>.inr (hr g e).1⟩
theorem DJ.turns {row:Option Nat} (h:DJ w F gd s W) (hg:W.grownBy W' row) (hr:∀ q,row=some q→w.heap.size≤q∧∃ o:Obj,W.heap[q]?=some o∧o.isCells=false):DJ w F gd s W' :=
 ⟨((DJ.toR (r:=0) h).turns hg hr).1,h.2.grown hg fun g e=>.inr (hr g e).1⟩
theorem DJ.writeO (h:DJ w F gd s W) (i:Int) (A2:Option Addr) (n2 c2:Nat) (x:List Nat) (hn:x.length=n2) (hr:Rd .u8 W W.heap.size A2 c2 x) (hwl:s.waits.length≤100000) (hops:s.ops≤1000000000) :
  Calls Try.prog 20 #[.pointer (some ⟨gd,0,none⟩),.int .i64 i,.slice A2 n2 c2] W fun e w'=>e = .returned (.int .i64 ((s.write i x).2:Nat))∧DJ w F gd (s.write i x).1 w'∧KeepsOthers W w' :=
 (disk_writeO h.1 i A2 n2 c2 x hn hr hwl hops).mono fun e w' q=>⟨q.1,h.step q.2.1 q.2.2.1,q.2.2.2⟩
end
theorem DJ.flushO {w W:World} {F:Nat→Prop} {gd:Nat} {s:Dk} (h:DJ w F gd s W) (hwl:s.waits.length≤100000) (hops:s.ops≤1000000000) :
  Calls Try.prog 23 #[.pointer (some ⟨gd,0,none⟩)] W fun e w'=>e = .returned (.int .i64 (s.flush.2:Nat))∧DJ w F gd s.flush.1 w'∧KeepsOthers W w' :=
 (disk_flushO h.1 hwl hops).mono fun e w' q=>⟨q.1,h.step q.2.1 q.2.2.1,q.2.2.2⟩
/-! All places, one after the other. -/
set_option maxRecDepth 100000 in
theorem places_any (w:World) (gd:Nat):Calls Try.prog 54 #[.pointer (some ⟨gd,0,none⟩)] w fun e w'=>e = .returned (.func (.func 64) #[] #[.pointer (some ⟨w.heap.size,0,none⟩)])∧w'=w.alloc (.cells #[.pointer (some ⟨gd,0,none⟩)] 23):=by
 go_enter Try.func54,Try.ntmps54
 go_wp2_with fail
 go_ret
 exact ⟨rfl,rfl⟩
def RelPl (J:List (Fin 2000)→World→Prop) (m:Nat) (i:Value) (wr:World):Prop :=
 ∃ (k:Nat) (pre:List (Fin 2000)),k≤m∧i = .int .i64 k∧Hid (pre.map Fin.val=List.range k)∧J pre wr
theorem range_pre {k m:Nat} (h:k≤m):List.range k <+: List.range m:=by
 refine ⟨(List.range (m - k)).map (k + ·),?_⟩
 rw [←List.range_add,Nat.add_sub_cancel' h]
def plv (i:Fin 2000):Array Value:=#[.int .i64 ((i.val:Nat):Int)]
set_option maxRecDepth 100000 in
set_option maxHeartbeats 2000000 in
theorem places_stops {w:World} {F:Nat→Prop} {gd:Nat} {s:Dk} (hd:Disk w F gd s) (bx:Nat) (hb:Holds w bx 23 #[.pointer (some ⟨gd,0,none⟩)]) :
  SeqStopsK Fence.wide 2 Try.prog 64 #[.pointer (some ⟨bx,0,none⟩)] plv (fun _ _=>True) (fun xs=>xs.map Fin.val=List.range s.many) (fun pre=>pre.map Fin.val <+: List.range s.many) s.many w:=fun l J Jx W hW hJ hJx hY h0=>by
 have hdW:=(DJ.start hd).below hW
 have HM:=Lib.hid (callsIn_wide (n:=1).2 (jmany hdW.1))
 have hm2:s.many≤2000:=by have:=hd.len.2.2;unfold Dk.many;omega
 have z0:W.cell? ⟨bx,0,none⟩=some (.pointer (some ⟨gd,0,none⟩)):=(hb.under hW hb.lt).cell 0
 clear hd hb hdW hW
 generalize s.many=m at *
 refine callsIn_of_wp Try.func64 rfl trivial ?_ rfl
 simp only [Try.ntmps64,List.size_toArray,List.length_cons,List.length_nil,Nat.reduceAdd,Nat.reduceSub,Array.replicate_succ,Array.replicate_zero,List.push_toArray,List.append_toArray,List.nil_append,List.cons_append]
 gi_wp2_with (refine ⟨trivial,?_⟩;gi_at_call 28;refine HM.out.mono ?_;rintro e w1 ⟨rfl,rfl⟩)
 clear z0 HM
 gi_loopw [6] (fun i wr=>RelPl J m i wr) (fun i _=>m - (intOf i).toNat)
 case atStart=>exact ⟨0,[],Nat.zero_le _,rfl,Lib.hid rfl,h0⟩
 case round =>
  obtain ⟨k,pre,hk,rfl,HPRE,hj⟩:=hrel
  obtain ⟨V,hV⟩:∃ V,V=wr:=⟨_,rfl⟩
  subst hV
  by_cases hlt:k<m
  case pos =>
   have hkI:(k:Int)<(m:Int):=by omega
   have hk0:(0:Int)≤(k:Int):=by omega
   have hpl:pre.length=k:=by have:=congrArg List.length HPRE.out;simpa using this
   have HPN:Hid ((pre ++ [(⟨k,by omega⟩:Fin 2000)]).map Fin.val=List.range (k+1)):=Lib.hid (by rw [List.map_append,HPRE.out,List.range_succ];rfl)
   have hyy:=hY pre ⟨k,by omega⟩ V hj (by omega)
   have hkw:IntKind.i64.wrap ((k:Int)+1)=(k:Int)+1:=IntWalk.i64_in _ (by omega)
   rw [show plv ⟨k,by omega⟩=#[.int .i64 (k:Int)] from rfl] at hyy
   obtain ⟨fn,tmps,assign,bdy,hyr,hR⟩:=hyy
   generalize pre ++ [(⟨k,by omega⟩:Fin 2000)]=pr at *
   clear hpl hj hY h0
   gi_wp2_with (refine hR.mono ?_;clear hR;rintro e W2 (⟨rfl,hJ2,_⟩ | ⟨rfl,hx2⟩))
   ·go_roundw
    case rel=>exact ⟨k+1,pr,by omega,by go_num,HPN,hJ2⟩
    case measure=>simp [intOf];omega
   ·exact bodyPost_ret (v:=.tuple #[]) (by simp [results,Try.results64,go_sem]) rfl ⟨⟨_,rfl⟩,.inr ⟨pr,by rw [HPN.out];exact range_pre (by omega),hx2⟩⟩
  case neg =>
   obtain rfl:k=m:=by omega
   have hkI:¬ ((k:Int)<(k:Int)):=by omega
   gi_wp2
   go_end0
   exact ⟨⟨_,rfl⟩,.inl ⟨pre,HPRE.out,hj⟩⟩
end Go.Proofs.Ytkmbgbbmhpidkaa
namespace Go.Proofs.Ytkmbgbbmhpidkaa
open Go.RowKit Go.Shelf
set_option linter.unusedVariables false
set_option linter.unusedSimpArgs false
attribute [local go_sem] Oper.semAt_some

theorem apst_len:apstB.length=64:=secOf_length _
theorem zsec_len:zsec.length=64:=List.length_replicate
theorem puts_pre {s:Dk} {l r:List (Int×List Nat)} (h:(s.puts l).2≠0):s.puts (l ++ r)=s.puts l:=by rw [puts_append,if_neg h]
theorem putf_pre {s:Dk} {l L:List (Int×List Nat)} (hp:l <+: L) (h:(s.puts l).2≠0):s.putf L=s.puts l:=by
 obtain ⟨r,rfl⟩:=hp
 rw [putf_stop (by rw [puts_pre h];exact h),puts_pre h]
def plL (pre:List (Fin 2000)):List (Int×List Nat):=(0,apstB) :: (1,zsec) :: (pre.map Fin.val).map fun i=>(((157+i:Nat):Int),zsec)
theorem plL_snoc (pre:List (Fin 2000)) (x:Fin 2000):plL (pre ++ [x])=plL pre ++ [(((157+x.val:Nat):Int),zsec)]:=by simp [plL]
/-! Inside a round a region of no defers is as outside. -/
def noDefer (ops:Array Oper):Bool:=ops.all fun o=>match o.op with | .defer _=>false | _=>true
theorem noDefer_at {ops:Array Oper} (h:noDefer ops=true) {i:Nat} {o:Oper} (ho:ops[i]?=some o):∀ c,o.op≠.defer c:=fun c hc=>by
 obtain ⟨hlt,he⟩:=Array.getElem?_eq_some_iff.1 ho
 have h1:=Array.all_eq_true.1 h i hlt
 rw [he,hc] at h1
 cases h1
theorem opIn_round {l n:Nat} {P:Program} {o:Oper} {a:Act} {w:World} {K:Act→World→Prop} {Q:Exit→Act→World→Prop} (hd:∀ c,o.op≠.defer c) (h:Oper.wpIn Fence.wide n P o a w K Q):Oper.wpIn (Fence.wide.inRound l) n P o a w K Q:=by
 refine ⟨h.1,?_⟩
 have h2:=h.2
 rw [Oper.semAt_eq _ _ _ hd] at h2 ⊢
 exact h2
theorem anyIn_round {l n:Nat} {P:Program} {md:Region.Mode} {ops:Array Oper} {Q:Exit→Act→World→Prop} (hd:noDefer ops=true):∀ (fuel:Nat) (listed:Array Bool) (a:Act) (w:World),wpAnyIn Fence.wide n P md ops Q fuel listed a w→wpAnyIn (Fence.wide.inRound l) n P md ops Q fuel listed a w
 | 0,_,_,_,h=>h
 | fuel+1,listed,a,w,h=>⟨h.1,fun i hi=>by
  have h2:=h.2 i hi
  unfold wpOpIn at h2 ⊢
  cases ho:ops[i]? with
  | none=>rw [ho] at h2;exact anyIn_round hd fuel _ _ _ h2
  | some o =>
   rw [ho] at h2
   dsimp only at h2 ⊢
   split
   ·rename_i hw
    rw [if_pos hw] at h2
    exact opIn_round (noDefer_at hd ho) (Oper.wpIn_mono (fun a w h=>anyIn_round hd fuel _ a w h) h2)
   ·rename_i hw
    rw [if_neg hw] at h2
    exact ⟨h2.1,anyIn_round hd fuel _ _ _ h2.2⟩⟩
theorem below_others {w w':World} (h:Below w.heap.size w w'):KeepsOthers w w':=⟨h.size,fun k o hk _=>(h.block k (Array.getElem?_eq_some_iff.1 hk).1).trans hk⟩
theorem plL_length (pre:List (Fin 2000)):(plL pre).length=pre.length+2:=by simp [plL]
def FoI (V:World) (F:Nat→Prop) (gd:Nat) (s:Dk) (pre:List (Fin 2000)) (W:World):Prop:=(s.puts (plL pre)).2=0∧DJ V F gd (s.puts (plL pre)).1 W
def FoX (V:World) (F:Nat→Prop) (res gd:Nat) (s:Dk) (c:Code) (pre:List (Fin 2000)) (W:World):Prop :=
 c = .ret∧(s.puts (plL pre)).2≠0∧DJr V F res gd (s.puts (plL pre)).1 W∧W.cell? ⟨res,0,none⟩=some (.int .i64 ((s.puts (plL pre)).2:Nat))
theorem foI_own {V:World} {F:Nat→Prop} {gd:Nat} {s:Dk} {B:Nat} (hB:V.heap.size≤B):OwnFrom B (FoI V F gd s):=fun pre W W' row h hg hr=>⟨h.1,h.2.turns hg fun q hq=>⟨Nat.le_trans hB (hr q hq).1,(hr q hq).2⟩⟩
theorem foX_own {V:World} {F:Nat→Prop} {res gd:Nat} {s:Dk} {B:Nat} (hB:V.heap.size≤B) (c:Code):OwnFrom B (FoX V F res gd s c):=fun pre W W' row h hg hr=>⟨h.1,h.2.1,h.2.2.1.turns hg fun q hq=>⟨Nat.le_trans hB (hr q hq).1,(hr q hq).2⟩,cell_kept h.2.2.2 hg fun q hq=>(hr q hq).2⟩
section
variable {w:World} {F:Nat→Prop} {gd:Nat} {s:Dk}
set_option maxRecDepth 100000 in
set_option maxHeartbeats 8000000 in
theorem format_any (h:Disk w F gd s) (hwl:s.waits.length≤70000) (hops:s.ops≤700000000) :
  Calls Try.prog 18 #[.pointer (some ⟨gd,0,none⟩)] w fun e w'=>e = .returned (.int .i64 ((s.format).2:Nat))∧DJ w F gd (s.format).1 w':=by
 obtain ⟨F',hF'⟩:∃ F',F'=fun k=>F k∧k<w.heap.size:=⟨_,rfl⟩
 have hl:=h.low
 rw [←hF'] at hl
 have hFF:∀ k,F' k→F k∧k<w.heap.size:=fun k hk=>by rw [hF'] at hk;exact hk
 have hb1:Below w.heap.size w ((w.alloc (.cells #[.pointer (some ⟨gd,0,none⟩)] 23)).alloc (.cells #[.int .i64 0] 33)):=((Below.refl _ _).alloc (Nat.le_refl _) _).alloc (by simp) _
 have hbx:=(Holds.fresh w 23 #[.pointer (some ⟨gd,0,none⟩)]).alloc (.cells #[.int .i64 0] 33)
 have hrs:=Holds.fresh (w.alloc (.cells #[.pointer (some ⟨gd,0,none⟩)] 23)) 33 #[.int .i64 0]
 rw [show (w.alloc (.cells #[.pointer (some ⟨gd,0,none⟩)] 23)).heap.size=w.heap.size+1 by simp] at hrs
 have hsz:((w.alloc (.cells #[.pointer (some ⟨gd,0,none⟩)] 23)).alloc (.cells #[.int .i64 0] 33)).heap.size=w.heap.size+2:=by simp
 have hd1:Disk ((w.alloc (.cells #[.pointer (some ⟨gd,0,none⟩)] 23)).alloc (.cells #[.int .i64 0] 33)) F' gd s:=(hl.keep (Only.of_below (F:=fun _=>False) hb1) (fun _ _ e=>e))
 have z0:=hbx.cell 0
 obtain ⟨V,hV⟩:∃ V,V=((w.alloc (.cells #[.pointer (some ⟨gd,0,none⟩)] 23)).alloc (.cells #[.int .i64 0] 33)):=⟨_,rfl⟩
 rw [←hV] at hb1 hbx hrs hsz hd1
 have HV:=Lib.hid hV
 have HST:=Lib.hid (DJ.start hd1)
 have HBX:Hid (∀ (s':Dk) (W:World),DJ V F' gd s' W→W.cell? ⟨w.heap.size,0,none⟩=some (.pointer (some ⟨gd,0,none⟩))∧W.cell? ⟨w.heap.size+1,0,none⟩=some (.int .i64 0)∧W.frozen? ⟨w.heap.size+1,0,none⟩=false):=Lib.hid fun s' W hW=>by
  have k:∀ g,g=w.heap.size∨g=w.heap.size+1→W.heap[g]?=V.heap[g]?:=fun g hg=>hW.2.block g (by omega) fun hF=>by have:=(hFF g hF).2;omega
  have b1:Holds W w.heap.size 23 #[.pointer (some ⟨gd,0,none⟩)]:=(k _ (.inl rfl)).trans hbx
  have b2:Holds W (w.heap.size+1) 33 #[.int .i64 0]:=(k _ (.inr rfl)).trans hrs
  exact ⟨b1.cell 0,b2.cell 0,b2.open_ 0⟩
 have HSET:Hid (∀ (s':Dk) (W:World) (v:Value),DJ V F' gd s' W→DJr V F' (w.heap.size+1) gd s' (W.setCell ⟨w.heap.size+1,0,none⟩ v)):=Lib.hid fun s' W v hW=>by
  have hn:∀ k,grow F' V W k→k≠w.heap.size+1:=fun k hk e=>by
   subst e
   rcases hk with hk | hk
   ·have:=(hFF _ hk).2;omega
   ·omega
  have ho:Only (fun k=>k=w.heap.size+1) W (W.setCell ⟨w.heap.size+1,0,none⟩ v):=(Only.refl (fun k=>k=w.heap.size+1) W).setCell (p:=⟨w.heap.size+1,0,none⟩) (.inl rfl) v
  refine ⟨(hW.1.keep ho fun k a b=>hn k a b).more fun k hk=>?_,(hW.2.more fun k _ hk=>.inl hk).setCell (.inl (.inr rfl)) v⟩
  have h2:=ho.size
  rcases hk with hk | hk
  ·exact .inl hk
  ·exact .inr ⟨hk.1,by omega⟩
 have HOUT:Hid (∀ (s':Dk) (W:World),DJr V F' (w.heap.size+1) gd s' W→DJ w F gd s' W):=Lib.hid fun s' W hW=>by
  refine ⟨hW.1.more fun k hk=>?_,(Only.of_below (F:=F) hb1).trans hW.2 fun k hk hF=>by rcases hF with hF | hF;exact (hFF k hF).1;omega⟩
  rcases hk with hk | hk
  ·exact .inl (hFF k hk).1
  ·exact .inr ⟨by omega,hk.2⟩
 have HFIN:Hid (∀ (s':Dk) (W:World) (v:Value),DJ V F' gd s' W→DJ w F gd s' (W.setCell ⟨w.heap.size+1,0,none⟩ v)):=Lib.hid fun s' W v hW=>HOUT.out _ _ (HSET.out s' W v hW)
 have HM:=Lib.hid (jmany hd1)
 have HMN:Hid (s.many≤2000∧s.many=s.now.length - 157):=Lib.hid ⟨by have:=h.len.2.2;unfold Dk.many;omega,rfl⟩
 obtain ⟨r,hr0⟩:∃ r,r=s.format:=⟨_,rfl⟩
 rw [←hr0]
 unfold Dk.format at hr0
 have HRR:=Lib.hid hr0
 have HWL:Hid (s.waits.length≤70000∧s.ops≤700000000):=Lib.hid ⟨hwl,hops⟩
 clear h hl hF' hb1 hbx hrs hd1 hV hr0 hwl hops hFF hsz
 generalize s.many=m at *
 by_cases h0:m=0
 ·have HRE:Hid (r=(s,5)):=Lib.hid (by rw [HRR.out,if_pos h0])
  subst h0
  obtain ⟨_,k1,k2⟩:=HBX.out _ _ HST.out
  go_enter Try.func18,Try.ntmps18
  go_wp2_with fail
  rw [←HV.out]
  refine HM.out.mono ?_
  rintro e w1 ⟨rfl,rfl⟩
  have hc:=World.cell?_setCell_same' V ⟨w.heap.size+1,0,none⟩ (.int .i64 5) (by rw [k1];rfl)
  go_wp2_with fail
  rw [HRE.out]
  exact bodyPost_ret (v:=.int .i64 5) (by simp [results,Try.results18,go_sem,hc]) rfl ⟨rfl,HFIN.out _ _ _ HST.out⟩
 have d0:((m:Int) == 0)=false:=by rw [beq_eq_false_iff_ne];omega
 have HR1:Hid (r=s.putf (formW s.now.length)):=Lib.hid (by rw [HRR.out,if_neg h0])
 clear HRR
 refine (callsIn_wide (n:=3)).1 ?_
 refine callsIn_of_wp_marks Try.func18 rfl trivial ?_ rfl
 simp only [Try.ntmps18,List.size_toArray,List.length_cons,List.length_nil,Nat.reduceAdd,Nat.reduceSub,Array.replicate_succ,Array.replicate_zero,List.push_toArray,List.append_toArray,List.nil_append,List.cons_append]
 refine wpIn_wide.2 ?_
 go_wp2_with fail
 rw [←HV.out]
 refine HM.out.mono ?_
 rintro e w1 ⟨rfl,rfl⟩
 clear z0 HV
 go_wp2_with fail
 have HDs:=Lib.hid (HST.out.below (Below.refl _ _).drew)
 refine wp_region_noPanic ?_
 refine wp_region_held_drew (S:=(fun W=>W.cell? ⟨w.heap.size,0,none⟩=some (.pointer (some ⟨gd,0,none⟩)))) (by kernel_rfl) (HBX.out _ _ HDs.out |>.1) (fun hHeld=>?_)
 refine wpAnyH_take (i:=0) (oi:={ dst:=some 12,op:=Op.load 23 (Operand.tmp 1),type:=23,pos:=_,after:=_,guard:=none }) (v:=?_) rfl (by kernel_rfl) (by kernel_rfl) (by kernel_rfl) (fun _ _ _ h=>h) (Or.inl ⟨by rfl,?_⟩) hHeld ?_
 rotate_left 1
 ·(intro W hW;have k0:=hW;(try dsimp only at hW);go_simp;try with_reducible rfl)
 try simp only [Act.put,List.setIfInBounds_toArray,List.set_cons_zero,List.set_cons_succ]
 refine wpAnyH_ready (rs:=[1]) (by kernel_rfl) (by simp) ?_
 refine AllReadyH.cons (o:={ dst:=some 13,op:=Op.call { callee:=Callee.value (Operand.func 47),args:=#[Operand.const (Value.string { data:=#[97,112,115,116] })],argTypes:=#[9] },type:=40,pos:=_,after:=_,guard:=none }) rfl (fun K hK=>?_) AllReadyH.nil
 go_simp
 refine (headed_apst _).mono ?_
 rintro e wa ⟨rfl,hra,hba⟩
 have HDa:=Lib.hid (HDs.out.below hba)
 have HRa:=Lib.hid (Row.rd64 hra apst_len)
 have SB:Hid ((fun W=>W.cell? ⟨w.heap.size,0,none⟩=some (.pointer (some ⟨gd,0,none⟩))) wa):=Lib.hid (HBX.out _ _ HDa.out).1
 clear hra hba
 go_simp
 refine hK.out _ _ (SB.out) (fun _=>?_)
 clear hK K hHeld
 try simp only [Act.put,List.setIfInBounds_toArray,List.set_cons_zero,List.set_cons_succ]
 have hHeld:((fun W=>W.cell? ⟨w.heap.size,0,none⟩=some (.pointer (some ⟨gd,0,none⟩)))) wa:=SB.out
 refine wpAnyH_ready (rs:=[2]) (by kernel_rfl) (by simp) ?_
 refine AllReadyH.cons (o:={ dst:=some 14,op:=Op.call { callee:=Callee.value (Operand.func 20),args:=#[Operand.tmp 12,Operand.const (Value.int IntKind.i64 0),Operand.tmp 13],argTypes:=#[23,3,40] },type:=33,pos:=_,after:=_,guard:=none }) rfl (fun K hK=>?_) AllReadyH.nil
 go_simp
 have HWb:=Lib.hid (HDa.out.write 0 (some ⟨V.drew.heap.size,0,none⟩) 64 64 apstB apst_len HRa.out (by have:=HWL.out;omega) (by have:=HWL.out;omega))
 refine HWb.out.mono ?_
 rintro e wb ⟨rfl,hdb⟩
 have HDb:=Lib.hid hdb
 have SC:Hid ((fun W=>W.cell? ⟨w.heap.size,0,none⟩=some (.pointer (some ⟨gd,0,none⟩))) wb):=Lib.hid (HBX.out _ _ HDb.out).1
 clear hdb HDa HRa HWb
 go_simp
 refine hK.out _ _ (SC.out) (fun _=>?_)
 clear hK K hHeld
 try simp only [Act.put,List.setIfInBounds_toArray,List.set_cons_zero,List.set_cons_succ]
 have hHeld:((fun W=>W.cell? ⟨w.heap.size,0,none⟩=some (.pointer (some ⟨gd,0,none⟩)))) wb:=SC.out
 refine wpAnyH_take (i:=3) (oi:={ dst:=some 3,op:=Op.assign (Operand.tmp 14),type:=33,pos:=_,after:=_,guard:=none }) (v:=?_) rfl (by kernel_rfl) (by kernel_rfl) (by kernel_rfl) (fun _ _ _ h=>h) (Or.inl ⟨by rfl,?_⟩) hHeld ?_
 rotate_left 1
 ·(intro W hW;(try dsimp only at hW);go_simp;try with_reducible rfl)
 try simp only [Act.put,List.setIfInBounds_toArray,List.set_cons_zero,List.set_cons_succ]
 refine wpAnyH_done (by kernel_rfl) ?_ _
 refine NoPanic.normal ?_
 clear HDs
 have HR2:Hid ((s.write 0 apstB).2≠0→r=s.write 0 apstB):=Lib.hid fun hn=>by
  have h1:=puts_one s (0,apstB)
  have hp:[(0,apstB)] <+: formW s.now.length:=⟨_,rfl⟩
  rw [HR1.out,putf_pre hp (by rw [h1];exact hn),h1]
 have HP1:Hid ((s.write 0 apstB).2=0→s.puts (plL [])=(s.write 0 apstB).1.write 1 zsec):=Lib.hid fun hn=>by
  have h1:=puts_one s (0,apstB)
  have h2:(s.puts [(0,apstB)]).2=0:=by rw [h1];exact hn
  have h3:=puts_snoc (p:=(1,zsec)) h2
  rw [h1] at h3
  exact h3
 have HW1:Hid ((s.write 0 apstB).1.waits.length≤70001∧(s.write 0 apstB).1.ops≤700000001):=Lib.hid (by have:=jwrite_le s 0 apstB;have:=HWL.out;omega)
 generalize s.write 0 apstB=q at *
 obtain ⟨s1,e1⟩:=q
 dsimp only at *
 clear SB SC hHeld
 by_cases h1:e1=0
 case neg =>
  have x0:((e1:Int) == 0)=false:=by rw [beq_eq_false_iff_ne];omega
  have x1:((e1:Int) != 0)=true:=by rw [bne,x0];rfl
  obtain ⟨_,k1,k2⟩:=HBX.out _ _ HDb.out
  have hc:=World.cell?_setCell_same' wb ⟨w.heap.size+1,0,none⟩ (.int .i64 (e1:Int)) (by rw [k1];rfl)
  have HRE:=Lib.hid (HR2.out h1)
  clear HR1 HR2 HP1
  go_wp2_with fail
  rw [HRE.out]
  exact ⟨.int .i64 (e1:Int),by simp [results,Try.results18,go_sem,hc],rfl,HFIN.out _ _ _ HDb.out⟩
 subst h1
 have HP2:=Lib.hid (HP1.out rfl)
 clear HP1 HR2
 go_wp2_with fail
 have HDs:=Lib.hid (HDb.out.below (Below.refl _ _).drew)
 refine wp_region_noPanic ?_
 refine wp_region_held_drew (S:=(fun W=>W.cell? ⟨w.heap.size,0,none⟩=some (.pointer (some ⟨gd,0,none⟩)))) (by kernel_rfl) (HBX.out _ _ HDs.out |>.1) (fun hHeld=>?_)
 refine wpAnyH_take (i:=0) (oi:={ dst:=some 18,op:=Op.load 23 (Operand.tmp 1),type:=23,pos:=_,after:=_,guard:=none }) (v:=?_) rfl (by kernel_rfl) (by kernel_rfl) (by kernel_rfl) (fun _ _ _ h=>h) (Or.inl ⟨by rfl,?_⟩) hHeld ?_
 rotate_left 1
 ·(intro W hW;have k0:=hW;(try dsimp only at hW);go_simp;try with_reducible rfl)
 try simp only [Act.put,List.setIfInBounds_toArray,List.set_cons_zero,List.set_cons_succ]
 refine wpAnyH_ready (rs:=[1]) (by kernel_rfl) (by simp) ?_
 refine AllReadyH.cons (o:={ dst:=some 19,op:=Op.call { callee:=Callee.value (Operand.func 47),args:=#[Operand.const (Value.string { data:=#[] })],argTypes:=#[9] },type:=40,pos:=_,after:=_,guard:=none }) rfl (fun K hK=>?_) AllReadyH.nil
 go_simp
 refine (headed_nil _).mono ?_
 rintro e wa ⟨rfl,hra,hba⟩
 have HDa:=Lib.hid (HDs.out.below hba)
 have HRa:=Lib.hid (Row.rd64 hra zsec_len)
 have SB:Hid ((fun W=>W.cell? ⟨w.heap.size,0,none⟩=some (.pointer (some ⟨gd,0,none⟩))) wa):=Lib.hid (HBX.out _ _ HDa.out).1
 clear hra hba
 go_simp
 refine hK.out _ _ (SB.out) (fun _=>?_)
 clear hK K hHeld
 try simp only [Act.put,List.setIfInBounds_toArray,List.set_cons_zero,List.set_cons_succ]
 have hHeld:((fun W=>W.cell? ⟨w.heap.size,0,none⟩=some (.pointer (some ⟨gd,0,none⟩)))) wa:=SB.out
 refine wpAnyH_ready (rs:=[2]) (by kernel_rfl) (by simp) ?_
 refine AllReadyH.cons (o:={ dst:=some 20,op:=Op.call { callee:=Callee.value (Operand.func 20),args:=#[Operand.tmp 18,Operand.const (Value.int IntKind.i64 1),Operand.tmp 19],argTypes:=#[23,3,40] },type:=33,pos:=_,after:=_,guard:=none }) rfl (fun K hK=>?_) AllReadyH.nil
 go_simp
 have HWb:=Lib.hid (HDa.out.write 1 (some ⟨wb.drew.heap.size,0,none⟩) 64 64 zsec zsec_len HRa.out (by have:=HW1.out;omega) (by have:=HW1.out;omega))
 refine HWb.out.mono ?_
 rintro e wb2 ⟨rfl,hdb⟩
 have HDb2:=Lib.hid hdb
 have SC:Hid ((fun W=>W.cell? ⟨w.heap.size,0,none⟩=some (.pointer (some ⟨gd,0,none⟩))) wb2):=Lib.hid (HBX.out _ _ HDb2.out).1
 clear hdb HDa HRa HWb
 go_simp
 refine hK.out _ _ (SC.out) (fun _=>?_)
 clear hK K hHeld
 try simp only [Act.put,List.setIfInBounds_toArray,List.set_cons_zero,List.set_cons_succ]
 have hHeld:((fun W=>W.cell? ⟨w.heap.size,0,none⟩=some (.pointer (some ⟨gd,0,none⟩)))) wb2:=SC.out
 refine wpAnyH_take (i:=3) (oi:={ dst:=some 4,op:=Op.assign (Operand.tmp 20),type:=33,pos:=_,after:=_,guard:=none }) (v:=?_) rfl (by kernel_rfl) (by kernel_rfl) (by kernel_rfl) (fun _ _ _ h=>h) (Or.inl ⟨by rfl,?_⟩) hHeld ?_
 rotate_left 1
 ·(intro W hW;(try dsimp only at hW);go_simp;try with_reducible rfl)
 try simp only [Act.put,List.setIfInBounds_toArray,List.set_cons_zero,List.set_cons_succ]
 refine wpAnyH_done (by kernel_rfl) ?_ _
 refine NoPanic.normal ?_
 clear HDs
 have HW2:Hid ((s1.write 1 zsec).1.waits.length≤70002∧(s1.write 1 zsec).1.ops≤700000002):=Lib.hid (by have:=jwrite_le s1 1 zsec;have:=HW1.out;omega)
 have HR2:Hid ((s1.write 1 zsec).2≠0→r=s1.write 1 zsec):=Lib.hid fun hn=>by
  have hp:plL [] <+: formW s.now.length:=⟨_,rfl⟩
  rw [HR1.out,putf_pre hp (by rw [HP2.out];exact hn),HP2.out]
 generalize s1.write 1 zsec=q at *
 obtain ⟨s2,e2⟩:=q
 dsimp only at *
 clear SC hHeld HDb
 by_cases h1:e2=0
 case neg =>
  have x0:((e2:Int) == 0)=false:=by rw [beq_eq_false_iff_ne];omega
  have x1:((e2:Int) != 0)=true:=by rw [bne,x0];rfl
  obtain ⟨_,k1,k2⟩:=HBX.out _ _ HDb2.out
  have hc:=World.cell?_setCell_same' wb2 ⟨w.heap.size+1,0,none⟩ (.int .i64 (e2:Int)) (by rw [k1];rfl)
  have HRE:=Lib.hid (HR2.out h1)
  clear HR1 HR2 HP2
  go_wp2_with fail
  rw [HRE.out]
  exact ⟨.int .i64 (e2:Int),by simp [results,Try.results18,go_sem,hc],rfl,HFIN.out _ _ _ HDb2.out⟩
 subst h1
 clear HR2
 obtain ⟨k0,_,_⟩:=HBX.out _ _ HDb2.out
 have HPL:=Lib.hid (places_any wb2 gd)
 go_wp2_with fail
 refine HPL.out.mono ?_
 rintro e w3 ⟨rfl,hw3⟩
 have hb3:Below wb2.heap.size wb2 w3:=by rw [hw3];exact (Below.refl _ _).alloc (Nat.le_refl _) _
 have HD3:=Lib.hid (HDb2.out.below hb3)
 have hh3:Holds w3 wb2.heap.size 23 #[.pointer (some ⟨gd,0,none⟩)]:=by rw [hw3];exact Holds.fresh _ _ _
 have hmn:s2.now.length=s.now.length:=by
  have h:=puts_now s (plL [])
  rw [HP2.out] at h
  exact h
 have HST:=Lib.hid (places_stops HD3.out.1 wb2.heap.size hh3)
 have HM2:Hid (s2.many=m):=Lib.hid (by rw [HMN.out.2,←hmn];rfl)
 rw [HM2.out] at HST
 clear hw3 hb3 hh3 HPL k0 HDb2
 go_wp2_with fail
 have hVB:V.heap.size≤w3.heap.size:=HD3.out.2.size
 refine (wpIn_wide (n:=3)).1 ?_
 refine wpIn_rangeFunc_ownF rfl (by omega) (gf:=64) (lb:=#[.pointer (some ⟨wb2.heap.size,0,none⟩)]) rfl trivial (enters_of Try.func64 (by kernel_rfl) rfl) HST.out (fun _ _=>trivial) (fun _ _ _ _ _ _ _ _=>trivial) (Below.refl _ _) (fun _=>rfl)
  (FoI V F' gd s) (FoX V F' (w.heap.size+1) gd s) (foI_own hVB) (foX_own hVB) ⟨by rw [HP2.out],by rw [HP2.out];exact HD3.out⟩
  (fun x=>{ tmps:=#[.pointer (some ⟨gd,0,none⟩),.pointer (some ⟨w.heap.size,0,none⟩),.pointer (some ⟨w.heap.size+1,0,none⟩),.int .i64 0,.int .i64 0,.int .i64 ((x.val:Nat):Int),undef,.pointer (some ⟨gd,0,none⟩),.bool false,.pointer (some ⟨gd,0,none⟩),.int .i64 (m:Int),.bool false,.pointer (some ⟨gd,0,none⟩),.slice (some ⟨V.heap.size,0,none⟩) 64 64,.int .i64 0,.int .i64 0,.bool false,undef,.pointer (some ⟨gd,0,none⟩),.slice (some ⟨wb.heap.size,0,none⟩) 64 64,.int .i64 0,.int .i64 0,.bool false,undef,.pointer (some ⟨gd,0,none⟩),.func (.func 64) #[] #[.pointer (some ⟨wb2.heap.size,0,none⟩)],.int .i64 ((x.val:Nat):Int),undef,undef,undef,undef,undef,undef,undef,undef,undef,undef],defers:=[] }) ?assign ?body ?done ?stop
 case assign =>
  intro l x W K hK
  simp [plv]
  gi_wp2
  exact hK
 case body =>
  rintro l pre ⟨xv,hxv⟩ W ⟨hp,hd⟩ hlt
  dsimp only
  have hxw:IntKind.i64.wrap (157+(xv:Int))=157+(xv:Int):=IntWalk.i64_in _ (by omega)
  obtain ⟨k0,k1,k2⟩:=HBX.out _ _ hd
  gi_wp2
  have HDs:=Lib.hid (hd.below (Below.refl _ W).drew)
  have HI:=Lib.hid hp
  have HPB:Hid ((s.puts (plL pre)).1.waits.length≤73000∧(s.puts (plL pre)).1.ops≤700003000):=Lib.hid (by have h:=puts_le s (plL pre);rw [plL_length] at h;have:=HWL.out;have:=HMN.out.1;omega)
  clear hd hp
  refine wpIn_region_any (by kernel_rfl) (anyIn_round (by kernel_rfl) _ _ _ _ ?_)
  refine wpAnyIn_take (i:=1) (oi:={ dst:=some 28,op:=Op.move (Operand.tmp 5),type:=3,pos:=_,after:=_,guard:=none }) (v:=?_) rfl rfl (by kernel_rfl) (by kernel_rfl) (by kernel_rfl) (fun _ _ _ h=>h) ⟨Or.inl ⟨by rfl,?_⟩,fun _=>rfl⟩ ?_
  rotate_left 1
  ·(intro W;go_simp;try with_reducible rfl)
  try simp only [Act.put,List.setIfInBounds_toArray,List.set_cons_zero,List.set_cons_succ]
  refine wpAnyIn_take (i:=2) (oi:={ dst:=some 29,op:=Op.binOp BinOp.add 3 (Operand.const (Value.int IntKind.i64 157)) (Operand.tmp 28) 3,type:=3,pos:=_,after:=_,guard:=none }) (v:=?_) rfl rfl (by kernel_rfl) (by kernel_rfl) (by kernel_rfl) (fun _ _ _ h=>h) ⟨Or.inl ⟨by rfl,?_⟩,fun _=>rfl⟩ ?_
  rotate_left 1
  ·(intro W;go_simp;try with_reducible rfl)
  try simp only [Act.put,List.setIfInBounds_toArray,List.set_cons_zero,List.set_cons_succ]
  refine wpAnyIn_ready (rs:=[0,3]) (by kernel_rfl) (by simp) ?_
  refine AllReadyIn.cons (o:={ dst:=some 27,op:=Op.load 23 (Operand.tmp 1),type:=23,pos:=_,after:=_,guard:=none }) rfl (fun K hK=>?_) ?_
  ·go_simp
   refine hK _ _ ?_
   clear hK K
   try simp only [Act.put,List.setIfInBounds_toArray,List.set_cons_zero,List.set_cons_succ]
   refine wpAnyIn_ready (rs:=[3]) (by kernel_rfl) (by simp) ?_
   refine AllReadyIn.cons (o:={ dst:=some 30,op:=Op.call { callee:=Callee.value (Operand.func 47),args:=#[Operand.const (Value.string { data:=#[] })],argTypes:=#[9] },type:=40,pos:=_,after:=_,guard:=none }) rfl (fun K hK=>?_) AllReadyIn.nil
   go_simp
   refine ⟨trivial,(callsIn_wide.2 (headed_nil _)).mono ?_⟩
   rintro e wa ⟨rfl,hra,hba⟩
   have HDa:=Lib.hid (HDs.out.below hba)
   have HRa:=Lib.hid (Row.rd64 hra zsec_len)
   have HKa:=Lib.hid (below_others hba)
   clear hra hba
   go_simp
   refine hK _ _ ?_
   clear hK K
   try simp only [Act.put,List.setIfInBounds_toArray,List.set_cons_zero,List.set_cons_succ]
   refine wpAnyIn_ready (rs:=[4]) (by kernel_rfl) (by simp) ?_
   refine AllReadyIn.cons (o:={ dst:=some 31,op:=Op.call { callee:=Callee.value (Operand.func 20),args:=#[Operand.tmp 27,Operand.tmp 29,Operand.tmp 30],argTypes:=#[23,3,40] },type:=33,pos:=_,after:=_,guard:=none }) rfl (fun K hK=>?_) AllReadyIn.nil
   go_simp
   have HWb:=Lib.hid (callsIn_wide (n:=0).2 (HDa.out.writeO (157+(xv:Int)) (some ⟨W.drew.heap.size,0,none⟩) 64 64 zsec zsec_len HRa.out (by have:=HPB.out;omega) (by have:=HPB.out;omega)))
   refine ⟨trivial,HWb.out.mono ?_⟩
   rintro e wc ⟨rfl,hdc,hkc⟩
   have HDc:=Lib.hid hdc
   have HKc:Hid (KeepsOthers W wc):=Lib.hid ((KeepsOthers.mk (Nat.le_refl _) (fun _ _ h _=>h):KeepsOthers W W.drew).trans (HKa.out.trans hkc))
   clear hdc hkc HWb HDa HRa HKa
   go_simp
   refine hK _ _ ?_
   clear hK K
   try simp only [Act.put,List.setIfInBounds_toArray,List.set_cons_zero,List.set_cons_succ]
   refine wpAnyIn_take (i:=5) (oi:={ dst:=some 6,op:=Op.assign (Operand.tmp 31),type:=33,pos:=_,after:=_,guard:=none }) (v:=?_) rfl rfl (by kernel_rfl) (by kernel_rfl) (by kernel_rfl) (fun _ _ _ h=>h) ⟨Or.inl ⟨by rfl,?_⟩,fun _=>rfl⟩ ?_
   rotate_left 1
   ·(intro W;go_simp;try with_reducible rfl)
   try simp only [Act.put,List.setIfInBounds_toArray,List.set_cons_zero,List.set_cons_succ]
   refine wpAnyIn_done (by kernel_rfl) ?_ _
   have HSN:Hid (s.puts (plL (pre ++ [⟨xv,hxv⟩]))=(s.puts (plL pre)).1.write (157+(xv:Int)) zsec):=Lib.hid (by
    rw [plL_snoc,puts_snoc HI.out]
    show _=_
    rw [show (((157+xv:Nat)):Int)=157+(xv:Int) by omega])
   generalize (s.puts (plL pre)).1.write (157+(xv:Int)) zsec=q at *
   obtain ⟨s4,e4⟩:=q
   dsimp only at *
   clear k0 k1 k2
   by_cases h4:e4=0
   ·subst h4
    gi_wp2
    exact ⟨HKc.out,trivial,by rw [HSN.out],by rw [HSN.out];exact HDc.out⟩
   ·have x0:((e4:Int) == 0)=false:=by rw [beq_eq_false_iff_ne];omega
    have x1:((e4:Int) != 0)=true:=by rw [bne,x0];rfl
    obtain ⟨_,k1,k2⟩:=HBX.out _ _ HDc.out
    have hc:=World.cell?_setCell_same' wc ⟨w.heap.size+1,0,none⟩ (.int .i64 (e4:Int)) (by rw [k1];rfl)
    gi_wp2
    exact ⟨HKc.out.trans (KeepsOthers.setCell _ _ _),rfl,by rw [HSN.out];exact h4,by rw [HSN.out];exact HSET.out _ _ _ HDc.out,by rw [HSN.out];exact hc⟩
  refine AllReadyIn.cons (o:={ dst:=some 30,op:=Op.call { callee:=Callee.value (Operand.func 47),args:=#[Operand.const (Value.string { data:=#[] })],argTypes:=#[9] },type:=40,pos:=_,after:=_,guard:=none }) rfl (fun K hK=>?_) AllReadyIn.nil
  go_simp
  refine ⟨trivial,(callsIn_wide.2 (headed_nil _)).mono ?_⟩
  rintro e wa ⟨rfl,hra,hba⟩
  have HDa:=Lib.hid (HDs.out.below hba)
  have HRa:=Lib.hid (Row.rd64 hra zsec_len)
  have HKa:=Lib.hid (below_others hba)
  clear hra hba
  go_simp
  refine hK _ _ ?_
  clear hK K
  try simp only [Act.put,List.setIfInBounds_toArray,List.set_cons_zero,List.set_cons_succ]
  refine wpAnyIn_ready (rs:=[0]) (by kernel_rfl) (by simp) ?_
  refine AllReadyIn.cons (o:={ dst:=some 27,op:=Op.load 23 (Operand.tmp 1),type:=23,pos:=_,after:=_,guard:=none }) rfl (fun K hK=>?_) AllReadyIn.nil
  have kk:=(HBX.out _ _ HDa.out).1
  go_simp
  refine hK _ _ ?_
  clear hK K
  try simp only [Act.put,List.setIfInBounds_toArray,List.set_cons_zero,List.set_cons_succ]
  refine wpAnyIn_ready (rs:=[4]) (by kernel_rfl) (by simp) ?_
  refine AllReadyIn.cons (o:={ dst:=some 31,op:=Op.call { callee:=Callee.value (Operand.func 20),args:=#[Operand.tmp 27,Operand.tmp 29,Operand.tmp 30],argTypes:=#[23,3,40] },type:=33,pos:=_,after:=_,guard:=none }) rfl (fun K hK=>?_) AllReadyIn.nil
  go_simp
  have HWb:=Lib.hid (callsIn_wide (n:=0).2 (HDa.out.writeO (157+(xv:Int)) (some ⟨W.drew.heap.size,0,none⟩) 64 64 zsec zsec_len HRa.out (by have:=HPB.out;omega) (by have:=HPB.out;omega)))
  refine ⟨trivial,HWb.out.mono ?_⟩
  rintro e wc ⟨rfl,hdc,hkc⟩
  have HDc:=Lib.hid hdc
  have HKc:Hid (KeepsOthers W wc):=Lib.hid ((KeepsOthers.mk (Nat.le_refl _) (fun _ _ h _=>h):KeepsOthers W W.drew).trans (HKa.out.trans hkc))
  clear hdc hkc HWb HDa HRa HKa
  go_simp
  refine hK _ _ ?_
  clear hK K
  try simp only [Act.put,List.setIfInBounds_toArray,List.set_cons_zero,List.set_cons_succ]
  refine wpAnyIn_take (i:=5) (oi:={ dst:=some 6,op:=Op.assign (Operand.tmp 31),type:=33,pos:=_,after:=_,guard:=none }) (v:=?_) rfl rfl (by kernel_rfl) (by kernel_rfl) (by kernel_rfl) (fun _ _ _ h=>h) ⟨Or.inl ⟨by rfl,?_⟩,fun _=>rfl⟩ ?_
  rotate_left 1
  ·(intro W;go_simp;try with_reducible rfl)
  try simp only [Act.put,List.setIfInBounds_toArray,List.set_cons_zero,List.set_cons_succ]
  refine wpAnyIn_done (by kernel_rfl) ?_ _
  have HSN:Hid (s.puts (plL (pre ++ [⟨xv,hxv⟩]))=(s.puts (plL pre)).1.write (157+(xv:Int)) zsec):=Lib.hid (by
   rw [plL_snoc,puts_snoc HI.out]
   show _=_
   rw [show (((157+xv:Nat)):Int)=157+(xv:Int) by omega])
  generalize (s.puts (plL pre)).1.write (157+(xv:Int)) zsec=q at *
  obtain ⟨s4,e4⟩:=q
  dsimp only at *
  clear k0 k1 k2
  by_cases h4:e4=0
  ·subst h4
   gi_wp2
   exact ⟨HKc.out,trivial,by rw [HSN.out],by rw [HSN.out];exact HDc.out⟩
  ·have x0:((e4:Int) == 0)=false:=by rw [beq_eq_false_iff_ne];omega
   have x1:((e4:Int) != 0)=true:=by rw [bne,x0];rfl
   obtain ⟨_,k1,k2⟩:=HBX.out _ _ HDc.out
   have hc:=World.cell?_setCell_same' wc ⟨w.heap.size+1,0,none⟩ (.int .i64 (e4:Int)) (by rw [k1];rfl)
   gi_wp2
   exact ⟨HKc.out.trans (KeepsOthers.setCell _ _ _),rfl,by rw [HSN.out];exact h4,by rw [HSN.out];exact HSET.out _ _ _ HDc.out,by rw [HSN.out];exact hc⟩
 case done =>
  rintro D ys W hD hS ⟨hp,hd⟩ hK
  have hform:formW s.now.length=plL ys:=by
   unfold formW plL
   rw [hS,HMN.out.2]
  have HRE:Hid (r=(s.puts (plL ys)).1.flush):=Lib.hid (by rw [HR1.out,hform,putf_go hp])
  have hyl:ys.length=m:=by have:=congrArg List.length hS;simpa using this
  have hpb:=puts_le s (plL ys)
  rw [plL_length,hyl] at hpb
  have HFL:=Lib.hid (hd.flushO (by have:=HWL.out;have:=HMN.out.1;omega) (by have:=HWL.out;have:=HMN.out.1;omega))
  obtain ⟨k0,k1,k2⟩:=HBX.out _ _ hd
  have HK:=Lib.hid hK
  clear hp hpb hK hform hS hyl hd
  generalize (s.puts (plL ys)).1.flush=q at *
  obtain ⟨s5,e5⟩:=q
  dsimp only at *
  go_wp2_with fail
  refine HFL.out.mono ?_
  rintro e w5 ⟨rfl,hd5,hk5⟩
  obtain ⟨_,k1,k2⟩:=HBX.out _ _ hd5
  have hc:=World.cell?_setCell_same' w5 ⟨w.heap.size+1,0,none⟩ (.int .i64 (e5:Int)) (by rw [k1];rfl)
  have HDf:=Lib.hid (HSET.out _ _ (.int .i64 (e5:Int)) hd5)
  have HKf:=Lib.hid (((hk5.trans (KeepsOthers.setCell w5 ⟨w.heap.size+1,0,none⟩ (.int .i64 (e5:Int)))).same D _ HK.out rfl))
  clear hd5 hk5 HFL k0
  go_wp2_with fail
  have hc2:=cell_kept hc (grownBy_putObj' _ D (.deferred none)) (fun r e=>by cases e;exact ⟨_,HKf.out,rfl⟩)
  refine ⟨by simp,.inl ⟨_,_,rfl,run_takeDeferred HKf.out,?_⟩⟩
  rw [HRE.out]
  exact ⟨.int .i64 (e5:Int),by simp [results,Try.results18,go_sem,hc2],rfl,HOUT.out _ _ (HDf.out.turns (grownBy_putObj' _ D (.deferred none)) fun q e=>by cases e;exact ⟨by omega,_,HKf.out,rfl⟩)⟩
 case stop =>
  rintro D c pre W hD hS ⟨rfl,hn,hd,hc⟩ hK
  have HRE:Hid (r=s.puts (plL pre)):=Lib.hid (by
   have hp:plL pre <+: formW s.now.length:=by
    unfold formW plL
    rw [←HMN.out.2]
    exact List.cons_prefix_cons.2 ⟨rfl,List.cons_prefix_cons.2 ⟨rfl,hS.map _⟩⟩
   rw [HR1.out,putf_pre hp hn])
  generalize s.puts (plL pre)=q at *
  obtain ⟨s5,e5⟩:=q
  dsimp only at *
  gi_wp2
  have hc2:=cell_kept hc (grownBy_putObj' _ D (.deferred none)) (fun r e=>by cases e;exact ⟨_,hK,rfl⟩)
  refine ⟨by simp,.inl ⟨_,_,rfl,run_takeDeferred hK,?_⟩⟩
  rw [HRE.out]
  exact ⟨.int .i64 (e5:Int),by simp [results,Try.results18,go_sem,hc2],rfl,HOUT.out _ _ (hd.turns (grownBy_putObj' _ D (.deferred none)) fun q e=>by cases e;exact ⟨by omega,_,hK,rfl⟩)⟩
end
end Go.Proofs.Ytkmbgbbmhpidkaa
namespace Go.Proofs.Ytkmbgbbmhpidkaa
open Go.RowKit Go.Shelf
set_option linter.unusedVariables false
set_option linter.unusedSimpArgs false

theorem Disk.sect_read {w:World} {F:Nat→Prop} {gd:Nat} {s:Dk} (h:Disk w F gd s) {i:Nat} (hi:i<s.now.length):(s.read (i:Int)).length=64:=by
 unfold Dk.read
 rw [if_pos (by omega),Int.toNat_natCast]
 have:s.now[i]?=some (s.now.getD i []):=by simp [List.getD,hi]
 exact h.sect this
theorem apst_oct:Oct1 apstB:=secOf_oct fun x hx=>by simp at hx;rcases hx with rfl | rfl | rfl | rfl <;> omega
section
variable {w:World} {F:Nat→Prop} {gd:Nat} {s:Dk}
set_option maxRecDepth 100000 in
set_option maxHeartbeats 4000000 in
theorem open_none (h:Disk w F gd s) (hdn:s.down=false) (hm:0<s.many) (h0:s.read 0=apstB) (h1:s.read 1=zsec) :
  Calls Try.prog 16 #[.pointer (some ⟨gd,0,none⟩)] w fun e w'=>e = .returned (.int .i64 0)∧DJ w F gd s w':=by
 obtain ⟨F',hF'⟩:∃ F',F'=fun k=>F k∧k<w.heap.size:=⟨_,rfl⟩
 have hl:=h.low
 rw [←hF'] at hl
 have hFF:∀ k,F' k→F k∧k<w.heap.size:=fun k hk=>by rw [hF'] at hk;exact hk
 have hb1:Below w.heap.size w ((w.alloc (.cells #[.pointer (some ⟨gd,0,none⟩)] 23)).alloc (.cells #[.int .i64 0] 33)):=((Below.refl _ _).alloc (Nat.le_refl _) _).alloc (by simp) _
 have hbx:=(Holds.fresh w 23 #[.pointer (some ⟨gd,0,none⟩)]).alloc (.cells #[.int .i64 0] 33)
 have hrs:=Holds.fresh (w.alloc (.cells #[.pointer (some ⟨gd,0,none⟩)] 23)) 33 #[.int .i64 0]
 rw [show (w.alloc (.cells #[.pointer (some ⟨gd,0,none⟩)] 23)).heap.size=w.heap.size+1 by simp] at hrs
 have hsz:((w.alloc (.cells #[.pointer (some ⟨gd,0,none⟩)] 23)).alloc (.cells #[.int .i64 0] 33)).heap.size=w.heap.size+2:=by simp
 have hd1:Disk ((w.alloc (.cells #[.pointer (some ⟨gd,0,none⟩)] 23)).alloc (.cells #[.int .i64 0] 33)) F' gd s:=(hl.keep (Only.of_below (F:=fun _=>False) hb1) (fun _ _ e=>e))
 have z0:=hbx.cell 0
 obtain ⟨V,hV⟩:∃ V,V=((w.alloc (.cells #[.pointer (some ⟨gd,0,none⟩)] 23)).alloc (.cells #[.int .i64 0] 33)):=⟨_,rfl⟩
 rw [←hV] at hb1 hbx hrs hsz hd1
 have HV:=Lib.hid hV
 have HST:=Lib.hid (DJ.start hd1)
 have HBX:Hid (∀ (s':Dk) (W:World),DJ V F' gd s' W→W.cell? ⟨w.heap.size,0,none⟩=some (.pointer (some ⟨gd,0,none⟩))∧W.cell? ⟨w.heap.size+1,0,none⟩=some (.int .i64 0)∧W.frozen? ⟨w.heap.size+1,0,none⟩=false):=Lib.hid fun s' W hW=>by
  have k:∀ g,g=w.heap.size∨g=w.heap.size+1→W.heap[g]?=V.heap[g]?:=fun g hg=>hW.2.block g (by omega) fun hF=>by have:=(hFF g hF).2;omega
  have b1:Holds W w.heap.size 23 #[.pointer (some ⟨gd,0,none⟩)]:=(k _ (.inl rfl)).trans hbx
  have b2:Holds W (w.heap.size+1) 33 #[.int .i64 0]:=(k _ (.inr rfl)).trans hrs
  exact ⟨b1.cell 0,b2.cell 0,b2.open_ 0⟩
 have HSET:Hid (∀ (s':Dk) (W:World) (v:Value),DJ V F' gd s' W→DJr V F' (w.heap.size+1) gd s' (W.setCell ⟨w.heap.size+1,0,none⟩ v)):=Lib.hid fun s' W v hW=>by
  have hn:∀ k,grow F' V W k→k≠w.heap.size+1:=fun k hk e=>by
   subst e
   rcases hk with hk | hk
   ·have:=(hFF _ hk).2;omega
   ·omega
  have ho:Only (fun k=>k=w.heap.size+1) W (W.setCell ⟨w.heap.size+1,0,none⟩ v):=(Only.refl (fun k=>k=w.heap.size+1) W).setCell (p:=⟨w.heap.size+1,0,none⟩) (.inl rfl) v
  refine ⟨(hW.1.keep ho fun k a b=>hn k a b).more fun k hk=>?_,(hW.2.more fun k _ hk=>.inl hk).setCell (.inl (.inr rfl)) v⟩
  have h2:=ho.size
  rcases hk with hk | hk
  ·exact .inl hk
  ·exact .inr ⟨hk.1,by omega⟩
 have HOUT:Hid (∀ (s':Dk) (W:World),DJr V F' (w.heap.size+1) gd s' W→DJ w F gd s' W):=Lib.hid fun s' W hW=>by
  refine ⟨hW.1.more fun k hk=>?_,(Only.of_below (F:=F) hb1).trans hW.2 fun k hk hF=>by rcases hF with hF | hF;exact (hFF k hF).1;omega⟩
  rcases hk with hk | hk
  ·exact .inl (hFF k hk).1
  ·exact .inr ⟨by omega,hk.2⟩
 have HFIN:Hid (∀ (s':Dk) (W:World) (v:Value),DJ V F' gd s' W→DJ w F gd s' (W.setCell ⟨w.heap.size+1,0,none⟩ v)):=Lib.hid fun s' W v hW=>HOUT.out _ _ (HSET.out s' W v hW)
 have HDN:=Lib.hid (disk_down hd1)
 rw [hdn] at HDN
 have HM:=Lib.hid (jmany hd1)
 have hmm:s.many≤2000:=by have:=h.len.2.2;unfold Dk.many;omega
 have HRD:=Lib.hid fun (W:World) (hW:DJ V F' gd s W) (i:Int)=>disk_read hW.1 i
 have HR0:=Lib.hid h0
 have HR1:=Lib.hid h1
 clear h hl hF' hb1 hbx hrs hd1 hV hFF hsz hdn h0 h1
 have d0:((s.many:Int) == 0)=false:=by rw [beq_eq_false_iff_ne];omega
 generalize s.many=m at *
 obtain ⟨_,k1,k2⟩:=HBX.out _ _ HST.out
 go_enter Try.func16,Try.ntmps16
 go_wp2_with fail
 rw [←HV.out]
 refine HDN.out.mono ?_
 rintro e w1 ⟨rfl,rfl⟩
 obtain ⟨k0,_,_⟩:=HBX.out _ _ HST.out
 go_wp2_with (first | (refine HM.out.mono ?_;rintro e w1 ⟨rfl,rfl⟩) | fail)
 refine (HRD.out V HST.out 0).mono ?_
 rintro e w3 ⟨A3,n3,c3,rfl,hn3,hr3,hx3,hb3⟩
 clear hx3
 have HD3:=Lib.hid (HST.out.below hb3)
 rw [HR0.out] at hn3 hr3
 obtain rfl:64=n3:=by rw [←hn3];exact (apst_len).symm
 have HR3:=Lib.hid hr3
 clear hn3 hr3 hb3 HV z0 k0
 go_wp2_with fail
 refine (headed_apst _).mono ?_
 rintro e w4 ⟨rfl,hr4,hb4⟩
 have HD4:=Lib.hid (HD3.out.below hb4)
 have HEQ:=Lib.hid (equalB w4 A3 (some ⟨w3.heap.size,0,none⟩) c3 64 64 64 apstB apstB apst_len apst_len ((HR3.out.under hb4).more hb4.size) (Row.rd64 hr4 apst_len) apst_oct apst_oct)
 rw [decide_eq_true rfl] at HEQ
 clear hr4 hb4 HR3
 go_wp2_with fail
 refine HEQ.out.mono ?_
 rintro e w5 ⟨rfl,rfl⟩
 obtain ⟨k0,_,_⟩:=HBX.out _ _ HD4.out
 go_wp2_with fail
 refine (HRD.out w4 HD4.out 1).mono ?_
 rintro e w6 ⟨A6,n6,c6,rfl,hn6,hr6,hx6,hb6⟩
 clear hx6
 have HD6:=Lib.hid (HD4.out.below hb6)
 rw [HR1.out] at hn6 hr6
 obtain rfl:64=n6:=by rw [←hn6];exact zsec_len.symm
 have HBG:=Lib.hid (begun_any w6 A6 c6 zsec zsec_len hr6 zsec_oct)
 have hbz:begunN zsec=some 0:=by unfold begunN;rw [if_pos rfl]
 rw [hbz] at HBG
 clear hn6 hr6 hb6 hbz k0
 go_wp2_with fail
 refine HBG.out.mono ?_
 rintro e w7 ⟨rfl,hb7⟩
 have HD7:=Lib.hid (HD6.out.below hb7)
 obtain ⟨k0,k1,k2⟩:=HBX.out _ _ HD7.out
 have hc:=World.cell?_setCell_same' w7 ⟨w.heap.size+1,0,none⟩ (.int .i64 0) (by rw [k1];rfl)
 clear hb7 HBG
 go_wp2_with fail
 exact bodyPost_ret (v:=.int .i64 0) (by simp [results,Try.results16,go_sem,hc]) rfl ⟨rfl,HFIN.out _ _ _ HD7.out⟩
end
end Go.Proofs.Ytkmbgbbmhpidkaa
namespace Go.Proofs.Ytkmbgbbmhpidkaa
open Go.RowKit
set_option linter.unusedVariables false
set_option linter.unusedSimpArgs false

/-- It is up, and does not crash. -/
structure Well (s:Dk):Prop where
 dn:s.down=false
 ar:s.armed=false
def setAll (a:List (List Nat)) (l:List (Int×List Nat)):List (List Nat):=l.foldl (fun a p=>a.set p.1.toNat p.2) a
theorem setAll_append (a:List (List Nat)) (l m:List (Int×List Nat)):setAll a (l ++ m)=setAll (setAll a l) m:=List.foldl_append
theorem setAll_length (a:List (List Nat)) (l:List (Int×List Nat)):(setAll a l).length=a.length:=by
 induction l generalizing a with
 | nil=>rfl
 | cons p l ih=>rw [setAll,List.foldl_cons];exact (ih _).trans (List.length_set)
theorem setAll_off {a:List (List Nat)} {l:List (Int×List Nat)} {i:Nat} (h:∀ p∈l,p.1.toNat≠i):(setAll a l).getD i []=a.getD i []:=by
 induction l generalizing a with
 | nil=>rfl
 | cons p l ih =>
  rw [setAll,List.foldl_cons]
  refine (ih (a:=a.set p.1.toNat p.2) fun q hq=>h q (List.mem_cons_of_mem _ hq)).trans ?_
  simp only [List.getD]
  rw [List.getElem?_set_ne (h p (List.mem_cons_self ..))]
theorem setAll_on {a:List (List Nat)} {l r:List (Int×List Nat)} {p:Int×List Nat} (hp:p.1.toNat<a.length) (hr:∀ q∈r,q.1.toNat≠p.1.toNat):(setAll a (l ++ p :: r)).getD p.1.toNat []=p.2:=by
 rw [setAll_append]
 show (setAll ((setAll a l).set p.1.toNat p.2) r).getD _ _=_
 rw [setAll_off hr]
 simp [List.getD,setAll_length,hp]
theorem Dk.read_now (s:Dk) (i:Nat):s.read (i:Int)=s.now.getD i []:=by unfold Dk.read;rw [if_pos (by omega),Int.toNat_natCast]
def FitW (n:Nat) (l:List (Int×List Nat)):Prop:=∀ p∈l,0≤p.1∧p.1<(n:Int)∧p.2.length=64
theorem Well.write {s:Dk} (h:Well s) {i:Int} {x:List Nat} (hf:0≤i∧i<(s.now.length:Int)∧x.length=64):s.write i x=(s.wrote i.toNat x,0):=by
 unfold Dk.write
 rw [if_neg (by rw [h.dn];simp),if_pos (show s.fits i x from hf),if_neg (by unfold Dk.due;rw [h.ar];simp)]
theorem Well.puts {s:Dk} (h:Well s) {l:List (Int×List Nat)} (hf:FitW s.now.length l):(s.puts l).2=0∧Well (s.puts l).1∧(s.puts l).1.now=setAll s.now l∧(s.puts l).1.ops=s.ops+l.length:=by
 induction l generalizing s with
 | nil=>exact ⟨rfl,h,rfl,rfl⟩
 | cons p l ih =>
  have hw:=h.write (hf p (List.mem_cons_self ..))
  rw [Dk.puts,hw,if_pos rfl]
  have h2:Well (s.wrote p.1.toNat p.2):=⟨h.dn,h.ar⟩
  have hn:(s.wrote p.1.toNat p.2).now=s.now.set p.1.toNat p.2:=rfl
  have ho:(s.wrote p.1.toNat p.2).ops=s.ops+1:=rfl
  obtain ⟨a1,a2,a3,a4⟩:=ih h2 (fun q hq=>by rw [hn,List.length_set];exact hf q (List.mem_cons_of_mem _ hq))
  exact ⟨a1,a2,by rw [a3,hn];rfl,by rw [a4,ho,List.length_cons];omega⟩
theorem Well.putf {s:Dk} (h:Well s) {l:List (Int×List Nat)} (hf:FitW s.now.length l):(s.putf l).2=0∧Well (s.putf l).1∧(s.putf l).1.now=setAll s.now l∧(s.putf l).1.ops=s.ops+l.length+1:=by
 obtain ⟨a1,a2,a3,a4⟩:=h.puts hf
 rw [putf_go a1]
 have e:(s.puts l).1.flush=((s.puts l).1.flushed,0):=by
  unfold Dk.flush
  rw [if_neg (by rw [a2.dn];simp),if_neg (by unfold Dk.due;rw [a2.ar];simp)]
 rw [e]
 exact ⟨rfl,⟨a2.dn,a2.ar⟩,a3,by show (s.puts l).1.ops+1=_;rw [a4]⟩
theorem logs_fit {s:Dk} {l:List (Int×List Nat)} (hm:0<s.many) (hg:∀ p∈l,GoodJ s.many p) (hn:l.length≤150):FitW s.now.length (logD l ++ logS l):=fun p hp=>by
 have h158:158≤s.now.length:=by unfold Dk.many at hm;omega
 have hs:sheetsN l.length≤5:=by unfold sheetsN;omega
 rcases List.mem_append.1 hp with hp | hp
 ·obtain ⟨i,hi,rfl⟩:=List.mem_mapIdx.1 hp
  refine ⟨by dsimp only;omega,by dsimp only;omega,(hg _ (List.getElem_mem hi)).2.2⟩
 ·obtain ⟨t,ht,rfl⟩:=List.mem_map.1 hp
  have:=List.mem_range.1 ht
  exact ⟨by dsimp only;omega,by dsimp only;omega,secOf_length _⟩
/-- All that a commit writes. -/
def commitW (l:List (Int×List Nat)):List (Int×List Nat):=(logD l ++ logS l) ++ ([(1,markB l.length)] ++ ((l.map fun p=>(157+p.1,p.2)) ++ [(1,zsec)]))
theorem Well.commit {s:Dk} (h:Well s) {l:List (Int×List Nat)} (hm:0<s.many) (hmay:mayJ s.many l=true) (h0:l≠[]) (hn:l.length≤150) :
  (s.commit l).2=0∧Well (s.commit l).1∧(s.commit l).1.now=setAll s.now (commitW l):=by
 have hg:=mayJ_good hmay
 have hml:s.now.length=s.many+157:=by unfold Dk.many at hm ⊢;omega
 obtain ⟨a1,a2,a3,_⟩:=h.putf (logs_fit hm hg hn)
 have e:s.commit l=((s.putf (logD l ++ logS l)).1.putf [(1,markB l.length)]).1.fin l∧((s.putf (logD l ++ logS l)).1.putf [(1,markB l.length)]).2=0:=by
  have hb:=a2.putf (l:=[(1,markB l.length)]) (fun p hp=>by
   rw [List.mem_singleton.1 hp,a3,setAll_length]
   exact ⟨by omega,by dsimp only;omega,secOf_length _⟩)
  refine ⟨?_,hb.1⟩
  unfold Dk.commit
  rw [if_pos hmay,if_neg (by omega),if_neg h0,if_pos a1,if_pos hb.1]
 obtain ⟨b1,b2,b3,_⟩:=a2.putf (l:=[(1,markB l.length)]) (fun p hp=>by
  rw [List.mem_singleton.1 hp,a3,setAll_length]
  exact ⟨by omega,by dsimp only;omega,secOf_length _⟩)
 rw [e.1]
 generalize (s.putf (logD l ++ logS l)).1.putf [(1,markB l.length)]=q at *
 obtain ⟨s2,e2⟩:=q
 dsimp only at *
 have hl2:s2.now.length=s.now.length:=by rw [b3,setAll_length,a3,setAll_length]
 obtain ⟨c1,c2,c3,_⟩:=b2.putf (l:=l.map fun p=>(157+p.1,p.2)) (fun p hp=>by
  obtain ⟨q,hq,rfl⟩:=List.mem_map.1 hp
  have:=hg q hq
  have g1:=this.1
  have g2:=this.2.1
  rw [hl2]
  exact ⟨by dsimp only;omega,by dsimp only;omega,this.2.2⟩)
 obtain ⟨d1,d2,d3,_⟩:=c2.putf (l:=[(1,zsec)]) (fun p hp=>by
  rw [List.mem_singleton.1 hp,c3,setAll_length,hl2]
  exact ⟨by omega,by dsimp only;omega,zsec_len⟩)
 unfold Dk.fin
 rw [if_pos c1]
 refine ⟨d1,d2,?_⟩
 simp only [d3,c3,b3,a3,commitW,setAll_append]
/-! A new disk, made one of ours. -/
theorem format_fit {n:Nat} (hn:158≤n):FitW n (formW n):=fun p hp=>by
 unfold formW at hp
 rcases List.mem_cons.1 hp with rfl | hp
 ·exact ⟨by omega,by dsimp only;omega,apst_len⟩
 rcases List.mem_cons.1 hp with rfl | hp
 ·exact ⟨by omega,by dsimp only;omega,zsec_len⟩
 obtain ⟨i,hi,rfl⟩:=List.mem_map.1 hp
 have:=List.mem_range.1 hi
 exact ⟨by dsimp only;omega,by dsimp only;omega,zsec_len⟩
theorem Well.format {s:Dk} (h:Well s) (hn:158≤s.now.length):s.format.2=0∧Well s.format.1∧s.format.1.now=setAll s.now (formW s.now.length):=by
 unfold Dk.format
 rw [if_neg (by unfold Dk.many;omega)]
 obtain ⟨a1,a2,a3,_⟩:=h.putf (format_fit hn)
 exact ⟨a1,a2,a3⟩
theorem well_fresh (n:Nat):Well (fresh n):=⟨rfl,rfl⟩
theorem formW_zero {a:List (List Nat)} {n:Nat} (ha:0<a.length):(setAll a (formW n)).getD 0 []=apstB:=by
 unfold formW
 exact setAll_on (l:=[]) (p:=(0,apstB)) ha fun q hq=>by
  rcases List.mem_cons.1 hq with rfl | hq
  ·decide
  ·obtain ⟨i,_,rfl⟩:=List.mem_map.1 hq
   dsimp only;omega
theorem formW_mark {a:List (List Nat)} {n:Nat} (ha:1<a.length):(setAll a (formW n)).getD 1 []=zsec:=by
 unfold formW
 exact setAll_on (l:=[(0,apstB)]) (p:=(1,zsec)) ha fun q hq=>by
  obtain ⟨i,_,rfl⟩:=List.mem_map.1 hq
  dsimp only;omega
theorem formW_place {a:List (List Nat)} {n i:Nat} (ha:a.length=n) (hi:157+i<n):(setAll a (formW n)).getD (157+i) []=zsec:=by
 have e:formW n=((0,apstB) :: (1,zsec) :: (List.range i).map fun i:Nat=>(((157+i:Nat):Int),zsec)) ++ (((157+i:Nat):Int),zsec) :: ((List.range (n - 157 - i - 1)).map fun j:Nat=>(((157+(i+1+j):Nat):Int),zsec)):=by
  unfold formW
  rw [show n - 157=i+(1+(n - 157 - i - 1)) by omega,List.range_add,List.map_append,List.range_add,List.map_append]
  simp [List.map_map,Function.comp_def]
  intro j hj
  omega
 rw [e]
 have h:=setAll_on (a:=a) (l:=(0,apstB) :: (1,zsec) :: (List.range i).map fun i:Nat=>(((157+i:Nat):Int),zsec)) (p:=(((157+i:Nat):Int),zsec)) (r:=(List.range (n - 157 - i - 1)).map fun j:Nat=>(((157+(i+1+j):Nat):Int),zsec)) (by dsimp only;omega) (fun q hq=>by
  obtain ⟨j,_,rfl⟩:=List.mem_map.1 hq
  dsimp only;omega)
 dsimp only at h
 rw [Int.toNat_natCast] at h
 exact h
end Go.Proofs.Ytkmbgbbmhpidkaa
namespace Go.Proofs.Ytkmbgbbmhpidkaa
open Go.RowKit Go.Shelf
set_option linter.unusedVariables false
set_option linter.unusedSimpArgs false

/-- A row of writes with all blocks from B on. -/
structure RdWrG (B:Nat) (A:Option Addr) (c:Nat) (l:List Wr) (w:World):Prop where
 rd:RdWr A c l w
 row:0<l.length→∀ b o,A=some ⟨b,o,none⟩→B≤b
 dat:∀ j,j<l.length→0<(l.getD j default).d.length→∀ b o,(l.getD j default).da=some ⟨b,o,none⟩→B≤b
theorem cell_same {w w':World} {b:Nat} (h:w'.heap[b]?=w.heap[b]?) (o:Nat):w'.cell? ⟨b,o,none⟩=w.cell? ⟨b,o,none⟩:=by simp only [World.cell?];rw [h]
theorem RdWrG.off {B:Nat} {A:Option Addr} {c:Nat} {l:List Wr} {w:World} {F:Nat→Prop} (h:RdWrG B A c l w) (hF:∀ k,F k→k<B):OffF F (RdWr A c l) w:=fun w' hs hk=>by
 have hb:∀ g,B≤g→g<w.heap.size→w'.heap[g]?=w.heap[g]?:=fun g h1 h2=>hk g (fun h3=>by have:=hF g h3;omega) h2
 refine ⟨h.rd.1,h.rd.2.1,fun j hj=>?_,fun hn=>?_⟩
 ·have hr:=h.rd.2.2.1 j hj
  refine ⟨hr.1,hr.2.1,fun hn=>?_⟩
  obtain ⟨b,off,e,hlt,hc⟩:=hr.2.2 hn
  exact ⟨b,off,e,by omega,fun i hi=>(cell_same (hb b (h.dat j hj hn b off e) hlt) _).trans (hc i hi)⟩
 ·obtain ⟨b,off,e,hlt,hc⟩:=h.rd.2.2.2 hn
  have hbb:=hb b (h.row hn b off e) hlt
  exact ⟨b,off,e,by omega,fun j hj=>⟨(cell_same hbb _).trans (hc j hj).1,(cell_same hbb _).trans (hc j hj).2⟩⟩
def wrCells (x:Wr):List Value:=[.int .i64 x.at_,.slice x.da x.d.length x.dc]
theorem RdWrG.made {V:World} {B:Nat} (hB:B≤V.heap.size) (l:List Wr) (hl:∀ x∈l,Rd .u8 V V.heap.size x.da x.dc x.d∧∀ b o,x.da=some ⟨b,o,none⟩→B≤b) (hn:l.length≤1000) (cs:Array Value) (hcs:cs=(l.flatMap wrCells).toArray) (T:TypeId) (fr:Nat×Nat) :
  RdWrG B (some ⟨V.heap.size,0,none⟩) l.length l (V.alloc (.cells cs T fr)):=by
 have hm:∀ j,j<l.length→l.getD j default∈l:=fun j hj=>by
  rw [show l.getD j default=l[j] by simp [List.getD,hj]]
  exact List.getElem_mem hj
 refine ⟨⟨Nat.le_refl _,by omega,fun j hj=>((hl _ (hm j hj)).1.alloc (Nat.le_refl _) _).more (by simp),fun hn=>⟨V.heap.size,0,rfl,by simp,fun j hj=>?_⟩⟩,fun _ b o e=>by cases e;exact hB,fun j hj _ b o e=>(hl _ (hm j hj)).2 b o e⟩
 have hx:l[j]?=some (l.getD j default):=by simp [List.getD,hj]
 have hc:∀ i,(V.alloc (.cells cs T fr)).cell? ⟨V.heap.size,i,none⟩=(l.flatMap wrCells)[i]?:=fun i=>by
  rw [cell_of_row _ _ _ _ T fr (heap_alloc_new V _),hcs,List.getElem?_toArray]
 have hf:=fun i (hi:i<2)=>flat_at (f:=wrCells) (m:=2) (L:=l) (fun _ _=>rfl) (i:=j) (j:=i) hx hi
 refine ⟨?_,?_⟩
 ·rw [hc,show 0+j*2=2*j+0 by omega,hf 0 (by omega)];rfl
 ·rw [hc,show 0+j*2+1=2*j+1 by omega,hf 1 (by omega)];rfl
def secX:List Nat:=secOf [120]
def kS1:Dk:=(fresh 165).format.1
def kS2:Dk:=(kS1.commit [(3,secX)]).1
theorem kS_facts:(fresh 165).format.2=0∧(kS1.commit [(3,secX)]).2=0∧kS2.down=false∧kS2.many=8∧kS2.read 0=apstB∧kS2.read 1=zsec∧kS2.read (157+3)=secX∧kS1.waits.length≤70000∧kS1.ops≤700000000:=by decide +kernel
end Go.Proofs.Ytkmbgbbmhpidkaa
