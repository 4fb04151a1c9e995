/-
  The document's own division: a digit's product taken away, and given back where it was one too many.
-/
import Derived.Test.YtflfdglpljodbaaDoorRefA
import Derived.Test.YtflfdglpljodbaaDoorPure2
namespace Go.Proofs.YtflfdglpljodbaaDoor
open Go.RowKit
set_option linter.unusedVariables false

theorem and_low (p:Nat) (h:p<18446744073709551616):bits .and .u64 (p:Int) 4294967295=((p % 4294967296:Nat):Int):=by
 have h1:=bits_mask .u64 64 (by decide) (fun n h0 h1=>by exact u64_in n h0 (by omega)) 32 (by decide) (p:Int) (by omega) (by omega)
 have e:((2:Int) ^ 32 - 1)=4294967295:=by decide
 rw [e] at h1
 rw [h1]
 omega

/-- One digit of a product taken away. -/
theorem take_round {L L2 V:List Nat} {o i q lent x y d lent':Nat} (hL:o+i<L2.length) (hval:val (seg L2 o i)+q*val (V.take i)=val (seg L o i)+pw i*lent) (hfar:∀ j,j<o∨o+i≤j→L2.getD j 0=L.getD j 0)
  (hx:x=L2.getD (o+i) 0) (hy:y=V.getD i 0) (hd:d+q*y+lent=x+4294967296*lent') :
  val (seg (L2.set (o+i) d) o (i+1))+q*val (V.take (i+1))=val (seg L o (i+1))+pw (i+1)*lent'∧∀ j,j<o∨o+(i+1)≤j→(L2.set (o+i) d).getD j 0=L.getD j 0:=by
 constructor
 ·rw [seg_succ,seg_succ,val_take_succ,pw_succ,←hy]
  have e1:val (seg (L2.set (o+i) d) o i)=val (seg L2 o i):=seg_same i fun j hj=>by rw [getD_set,if_neg (by omega)]
  have e2:(L2.set (o+i) d).getD (o+i) 0=d:=by rw [getD_set,if_pos ⟨rfl,hL⟩]
  have e3:L.getD (o+i) 0=x:=by rw [hx,hfar _ (.inr (Nat.le_refl _))]
  rw [e1,e2,e3,Nat.mul_add,Nat.mul_left_comm q (pw i) y,Nat.mul_comm 4294967296 (pw i),Nat.mul_assoc]
  have h2:=congrArg (fun t=>pw i*t) hd
  simp only [Nat.mul_add] at h2
  omega
 ·intro j hj
  rw [getD_set,if_neg (by omega)]
  exact hfar j (by omega)

/-- One digit's numbers. -/
theorem take_digit {x y q cr bo:Nat} (hx:x<4294967296) (hy:y<4294967296) (hq:q<4294967296) (hc:cr<4294967296) (hb:bo≤1) :
  ∃ p pl s:Nat,p=q*y+cr∧p<18446744073709551616∧pl=p % 4294967296∧s+pl+bo=x+4294967296∧s<8589934592 ∧
   s % 4294967296+q*y+(cr+bo)=x+4294967296*(p / 4294967296+(1 - s / 4294967296))∧p / 4294967296<4294967296∧q*y≤18446744065119617025:=by
 have h1:q*y≤4294967295*4294967295:=Nat.mul_le_mul (by omega) (by omega)
 refine ⟨q*y+cr,(q*y+cr) % 4294967296,x+4294967296 - (q*y+cr) % 4294967296 - bo,rfl,by omega,rfl,by omega,by omega,?_,by omega,by omega⟩
 generalize q*y=m at *
 omega

def RelL (w:World) (g o k q:Nat) (L V:List Nat) (sb sc si:Value) (wr:World):Prop :=
 ∃ (i bo cr:Nat) (L2:List Nat),i≤k+3∧si = .int .i64 i∧sb = .int .u64 bo∧sc = .int .u64 cr∧bo≤1∧cr<4294967296∧Hid (i=k+3→cr=0)∧L2.length=L.length∧Dg L2∧Row .u32 22 wr g L2∧w.grownBy wr (some g) ∧
  Hid (val (seg L2 o i)+q*val (V.take i)=val (seg L o i)+pw i*(cr+bo))∧Hid (∀ j,j<o∨o+i≤j→L2.getD j 0=L.getD j 0)
def RelG (w:World) (g o k:Nat) (L1 V:List Nat) (ss si:Value) (wr:World):Prop :=
 ∃ (i v:Nat) (L2:List Nat),i≤k+3∧si = .int .i64 i∧ss = .int .u64 v∧v≤1∧L2.length=L1.length∧Dg L2∧Row .u32 22 wr g L2∧w.grownBy wr (some g) ∧
  Hid (val (seg L2 o i)+pw i*v=val (seg L1 o i)+val (V.take i))∧Hid (∀ j,j<o∨o+i≤j→L2.getD j 0=L1.getD j 0)

def LessPost (w:World) (g o k n q U:Nat) (L V:List Nat) (e:Ending) (w':World):Prop :=
 ∃ (L':List Nat) (r:Bool),e = .returned (.bool r)∧U / val V+(if r then 0 else 1)=q∧L'.length=n∧Dg L'∧Row .u32 22 w' g L'∧w.grownBy w' (some g) ∧
   val (seg L' o (k+3))=U % val V∧∀ j,j<o∨o+(k+3)≤j→L'.getD j 0=L.getD j 0

set_option maxRecDepth 100000 in
set_option maxHeartbeats 4000000 in
theorem less_any (w:World) (g o c k n:Nat) (L:List Nat) (hn:L.length=n) (hR:Row .u32 22 w g L) (hdL:Dg L) (hon:o+(k+3)≤n) (hnc:n≤c) (hc63:c≤9223372036854775807) (hk5:k≤4900) (hn5:n≤10000)
  (A':Option Addr) (c' B':Nat) (V:List Nat) (hV:∀ w',w.grownBy w' (some g)→Rd .u32 w' B' A' c' V) (hdV:Dg V) (hkV:V.length=k+2) (q:Nat) (hq:q<4294967296) (U:Nat) (hU:U=val (seg L o (k+3))) (hvp:0<val V)
  (hge:U / val V≤q) (hnear:q*val V<U+val V) :
  Calls Tryd.prog 106 #[.slice (some ⟨g,0,none⟩) n c,.slice A' (k+2) c',.int .i64 o,.int .u64 q] w (LessPost w g o k n q U L V):=by
 have HvM:=Lib.hid (show val V≤pw (k+3) by
  have h1:=val_lt hdV
  have h2:=pw_mono (show V.length≤k+3 by omega)
  omega)
 have HU:=Lib.hid hU
 have Hge:=Lib.hid hge
 have Hnear:=Lib.hid hnear
 have HN:=Lib.hid hn
 have HkV:=Lib.hid hkV
 have Hvp:=Lib.hid hvp
 have Hdig:∀ W,w.grownBy W (some g)→∀ i:Nat,i≤k+2→∀ y,V.getD i 0=y→Calls Tryd.prog 64 #[.slice A' (k+2) c',.int .i64 i] W fun e w'=>e = .returned (.int .u64 (y:Int))∧W=w':=fun W hW i hi y hy=>by
  have h:=digit_any W B' A' c' V (hV W hW) hdV i (by omega) y hy
  rwa [hkV] at h
 have HDIG:=Lib.hid Hdig
 have hVc:=(hV w (World.grownBy.refl w _)).1
 have hVc63:=(hV w (World.grownBy.refl w _)).2.1
 clear Hdig hU hge hnear hn hkV hV hvp
 go_enter Tryd.func106,Tryd.ntmps106
 go_wp2_with fail
 go_loopw [9,10,11] (fun sb sc si wr=>RelL w g o k q L V sb sc si wr) (fun _ _ si _=>k+3 - (intOf si).toNat)
 case atStart=>exact ⟨0,0,0,L,by omega,rfl,rfl,rfl,by omega,by omega,Lib.hid (fun h=>by omega),rfl,hdL,hR,World.grownBy.refl w _,Lib.hid (by simp [seg_zero,val]),Lib.hid (fun _ _=>rfl)⟩
 case round =>
  obtain ⟨i,bo,cr,L2,hi,rfl,rfl,rfl,hbo,hcr,Hcr0,hL2,hdL2,hR2,hg2,Hval,Hfar⟩:=hrel
  have HL2:=Lib.hid (show L2.length=n by rw [hL2];exact HN.out)
  clear hL2
  by_cases hik:i<k+3
  case pos =>
   have b1:decide ((i:Int)≤(k:Int)+2)=true:=decide_eq_true (by omega)
   obtain ⟨y,Hy⟩:∃ y,Hid (V.getD i 0=y):=⟨_,rfl⟩
   obtain ⟨x,Hx⟩:∃ x,Hid (x=L2.getD (o+i) 0):=⟨_,rfl⟩
   have hy32:y<4294967296:=by rw [←Hy.out];exact hdV.at_ i
   have hx32:x<4294967296:=by rw [Hx.out];exact hdL2.at_ _
   obtain ⟨p,pl,s,hp,hp64,hpl,hs,hs33,Hd,hph,hqy⟩:=take_digit (q:=q) hx32 hy32 hq hcr hbo
   have hpl32:pl<4294967296:=by omega
   obtain ⟨m,hm⟩:∃ m,m=q*y:=⟨_,rfl⟩
   have hqyI:(q:Int)*(y:Int)=(m:Int):=by rw [hm,Int.natCast_mul]
   rw [←hm] at hp hqy Hd
   have hpI:(m:Int)+(cr:Int)=(p:Int):=by omega
   have hand:=and_low p hp64
   rw [←hpl] at hand
   have hsI:(x:Int)+4294967296 - (pl:Int) - (bo:Int)=(s:Int):=by omega
   have HD:=Lib.hid Hd
   have HM:=Lib.hid hm
   have HP:=Lib.hid hp
   have hc:=hR2.cell (i:=o+i) (by rw [HL2.out];omega)
   rw [←Hx.out] at hc
   have hfr:=hR2.open_ (o+i)
   have ho0:(0:Int)≤(o:Int)+(i:Int):=by omega
   have hoi:(o:Int)+(i:Int)<(n:Int):=by omega
   have hto:((o:Int)+(i:Int)).toNat=o+i:=by omega
   clear Hd hm hp
   go_wp2_with fail
   refine (HDIG.out _ hg2 i (by omega) y Hy.out).mono ?_
   rintro e w3 ⟨rfl,rfl⟩
   go_wp2_with fail
   have hsP:(x:Int)+4294967296 - (p:Int) % 4294967296 - (bo:Int)=(s:Int):=by omega
   rw [hsP]
   have hst:=hR2.set (o+i) (s % 4294967296)
   have hgr:=one_setCell hg2 (o+i) (.int .u32 ((s % 4294967296:Nat):Int))
   have Hrnd:=Lib.hid (take_round (d:=s % 4294967296) (lent':=p / 4294967296+(1 - s / 4294967296)) (by rw [HL2.out];omega) Hval.out Hfar.out Hx.out Hy.out.symm (by rw [←HM.out];exact HD.out))
   have Hcr1:Hid (i+1=k+3→p / 4294967296=0):=Lib.hid (fun e=>by
    have hy0:y=0:=by
     rw [←Hy.out,List.getD,List.getElem?_eq_none (by rw [HkV.out];omega)]
     rfl
    have hm0:=HM.out
    rw [hy0,Nat.mul_zero] at hm0
    have:=HP.out
    omega)
   go_roundw
   case rel=>exact ⟨i+1,1 - s / 4294967296,p / 4294967296,_,by omega,by go_num,by go_num,by go_num,by omega,hph,Hcr1,by rw [List.length_set,HL2.out,HN.out],hdL2.set _ _ (by omega),hst,hgr,Lib.hid Hrnd.out.1,Lib.hid Hrnd.out.2⟩
   case measure=>simp [intOf];omega
  case neg =>
  obtain rfl:i=k+3:=by omega
  have hcr0:=Hcr0.out rfl
  subst hcr0
  have b1:decide ((k:Int)+3≤(k:Int)+2)=false:=decide_eq_false (by omega)
  have Hval1:=Lib.hid (show val (seg L2 o (k+3))+q*val V=U+pw (k+3)*bo by
   have h:=Hval.out
   rw [val_take_all V _ (by rw [HkV.out];omega),←HU.out,Nat.zero_add] at h
   exact h)
  by_cases hb0:bo=0
  case pos =>
   subst hb0
   have Hr:=Lib.hid (took Hvp.out Hge.out Hval1.out rfl)
   go_wp2_with fail
   go_ret
   exact ⟨L2,true,rfl,by simpa using Hr.out.1.symm,HL2.out,hdL2,hR2,hg2,Hr.out.2,Hfar.out⟩
  case neg =>
  have hb0':((bo:Int) == 0)=false:=by simp;omega
  have Hr:=Lib.hid (lent_one Hvp.out HvM.out Hge.out Hnear.out (seg_lt hdL2 o (k+3)) Hval1.out hb0)
  go_wp2_with fail
  go_loopw [14,15] (fun ss si wr=>RelG w g o k L2 V ss si wr) (fun _ si _=>k+3 - (intOf si).toNat)
  case atStart=>exact ⟨0,0,L2,by omega,rfl,rfl,by omega,rfl,hdL2,hR2,hg2,Lib.hid (by simp [seg_zero,val]),Lib.hid (fun _ _=>rfl)⟩
  case round =>
   obtain ⟨i,v,L3,hi,rfl,rfl,hv,hL3,hdL3,hR3,hg3,Hval3,Hfar3⟩:=hrel
   have HL3:=Lib.hid (show L3.length=n by rw [hL3];exact HL2.out)
   clear hL3
   by_cases hik3:i<k+3
   case pos =>
    have b2:decide ((i:Int)≤(k:Int)+2)=true:=decide_eq_true (by omega)
    obtain ⟨y,Hy⟩:∃ y,Hid (V.getD i 0=y):=⟨_,rfl⟩
    obtain ⟨x,Hx⟩:∃ x,Hid (x=L3.getD (o+i) 0):=⟨_,rfl⟩
    have hy32:y<4294967296:=by rw [←Hy.out];exact hdV.at_ i
    have hx32:x<4294967296:=by rw [Hx.out];exact hdL3.at_ _
    have hc:=hR3.cell (i:=o+i) (by rw [HL3.out];omega)
    rw [←Hx.out] at hc
    have hfr:=hR3.open_ (o+i)
    have ho0:(0:Int)≤(o:Int)+(i:Int):=by omega
    have hoi:(o:Int)+(i:Int)<(n:Int):=by omega
    have hto:((o:Int)+(i:Int)).toNat=o+i:=by omega
    obtain ⟨W5,hW5⟩:∃ W,W=wr:=⟨_,rfl⟩
    subst hW5
    have HG3:=Lib.hid hg3
    obtain ⟨s,hs⟩:∃ s,s=v+(x+y):=⟨_,rfl⟩
    have hsI:(x:Int)+(y:Int)+(v:Int)=(s:Int):=by omega
    have hs33:s<8589934592:=by omega
    go_wp2_with fail
    go_quiet ((go_at_call 64;exact (HDIG.out _ (one_drewN HG3.out _) i (by omega) y Hy.out).mono (fun e w' h=>⟨h.1,_,h.2.symm⟩)))
    have hR4:Row .u32 22 (W5.drewN nq) g L3:=hR3.drewN nq
    have hg4:=one_drewN hg3 nq
    generalize W5.drewN nq=W6 at *
    have hc6:=hR4.cell (i:=o+i) (by rw [HL3.out];omega)
    rw [←Hx.out] at hc6
    have hfr6:=hR4.open_ (o+i)
    clear hc hfr
    go_wp2_with fail
    have hst:=hR4.set (o+i) (s % 4294967296)
    have hgr:=one_setCell hg4 (o+i) (.int .u32 ((s % 4294967296:Nat):Int))
    have Hrnd:=Lib.hid (give_round (t:=s) (by rw [HL3.out];omega) Hval3.out Hfar3.out Hx.out Hy.out.symm hs)
    rw [show (v:Int)+((x:Int)+(y:Int))=(s:Int) by omega]
    go_roundw
    case rel=>exact ⟨i+1,s / 4294967296,_,by omega,by go_num,by go_num,by omega,by rw [List.length_set,HL3.out,HL2.out],hdL3.set _ _ (by omega),hst,hgr,Lib.hid Hrnd.out.1,Lib.hid Hrnd.out.2⟩
    case measure=>simp [intOf];omega
   case neg =>
    obtain rfl:i=k+3:=by omega
    have b1:decide ((k:Int)+3≤(k:Int)+2)=false:=decide_eq_false (by omega)
    have HE:=Lib.hid (show val (seg L3 o (k+3))=U % val V from by
     have h:=Hval3.out
     rw [val_take_all V _ (by rw [HkV.out];omega)] at h
     exact back_in (c:=v) h Hr.out.2.2 (seg_lt hdL3 o (k+3)) (Nat.lt_of_lt_of_le (Nat.mod_lt _ Hvp.out) HvM.out))
    have HF:=Lib.hid (show ∀ j,j<o∨o+(k+3)≤j→L3.getD j 0=L.getD j 0 from fun j hj=>(Hfar3.out j hj).trans (Hfar.out j hj))
    go_wp2_with fail
    go_ret
    exact ⟨L3,false,rfl,by simpa using Hr.out.2.1.symm,HL3.out,hdL3,hR3,hg3,HE.out,HF.out⟩
end Go.Proofs.YtflfdglpljodbaaDoor

