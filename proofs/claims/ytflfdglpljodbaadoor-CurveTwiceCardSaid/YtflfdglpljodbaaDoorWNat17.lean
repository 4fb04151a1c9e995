/-
  Division: quotient and rest.
-/
import Derived.Test.YtflfdglpljodbaaDoorWNat16
import Derived.Test.YtflfdglpljodbaaDoorWPure3
set_option maxRecDepth 100000
set_option maxHeartbeats 1000000
namespace Go.Proofs.YtflfdglpljodbaaDoor
open Go.RowKit
set_option linter.unusedVariables false
theorem shifted_at (w:World) (B:Nat) (A:Option Addr) (c n:Nat) (l:List Nat) (hn:l.length=n) (hr:Rd .u32 w B A c l) (hB:B≤w.heap.size) (hd:Dg l) (hls:n≤5000) (s:Nat) (hs:s<32) :
  Calls Tryd.prog 88 #[.slice A n c,.int .i64 s] w fun e w'=>∃ L,e = .returned (.slice (some ⟨w.heap.size,0,none⟩) (n+1) (n+1))∧L.length=n+1∧Dg L∧val L=val l*2 ^ s∧Row .u32 22 w' w.heap.size L∧Below w.heap.size w w':=by
 subst hn
 exact shifted_any w B A c l hr hB hd hls s hs
def Divided (w:World) (a b:Nat) (e:Ending) (w':World):Prop :=
 ∃ A2 c2 q A3 c3 r,e = .returned (.tuple #[.slice A2 q.length c2,.slice A3 r.length c3,.bool true])∧NumIs q (a / b)∧NumIs r (a % b)∧Fresh .u32 22 w' w.heap.size A2 c2 q∧Fresh .u32 22 w' w.heap.size A3 c3 r∧Below w.heap.size w w'
theorem div_one (w:World) (B B':Nat) (A A':Option Addr) (c c':Nat) (l l':List Nat) (hr:Rd .u32 w B A c l) (hr':Rd .u32 w B' A' c' l') (hB:B≤w.heap.size) (hB':B'≤w.heap.size) (hd:Dg l) (hd':Dg l') (hs:l.length≤4000) (h1:(trl l').length=1) :
  Calls Tryd.prog 61 #[.slice A l.length c,.slice A' l'.length c'] w fun e w'=>Divided w (val l) (val l') e w':=by
 have hrt:=hr.cut (tlen l l.length)
 have hrt':=hr'.cut (tlen l' l'.length)
 change Rd .u32 w B A c (trl l) at hrt
 change Rd .u32 w B' A' c' (trl l') at hrt'
 have hl1:(trl l).length≤4000:=by rw [trl_length];exact Nat.le_trans (tlen_le _ _) hs
 have hdt:=trl_dg hd
 have hdt':=trl_dg hd'
 have hnt:=trl_nrm l
 have hnt':=trl_nrm l'
 have Hvt:=lH (trl_val l)
 have Hvt':=lH (trl_val l')
 go_enter Tryd.func61,Tryd.ntmps61
 go_wp2_with fail
 refine (trim_at w B A c _ l hr rfl).mono ?_
 rintro e w1 ⟨rfl,rfl⟩
 go_wp2_with fail
 refine (trim_at w B' A' c' _ l' hr' rfl).mono ?_
 rintro e w1 ⟨rfl,rfl⟩
 clear hr hr' hd hd'
 generalize trl l=t at *
 generalize trl l'=t' at *
 obtain ⟨x,rfl⟩:∃ x,t'=[x]:=by
  match t',h1 with
  | [x],_=>exact ⟨x,rfl⟩
 obtain ⟨b',off',x',rfl,hb',hx,Hx⟩:=hrt'.at_ (i:=0) (by simp)
 obtain rfl:x'=x:=Hx.out
 rw [Nat.add_zero] at hx
 have hx4:x' < 4294967296:=hdt' x' (by simp)
 have hx0:0<x':=by
  rcases hnt' with h | h
  ·simp at h
  ·have:x'≠0:=by simpa using h
   omega
 have Hval1:=lH (show val [x']=x' by simp [val])
 rw [h1]
 clear h1 Hx hnt' hdt'
 have hc1:1≤c':=hrt'.1
 have hc63:c'≤9223372036854775807:=hrt'.2.1
 go_wp2_with fail
 refine (short_any w B A c t hrt hB hdt (by omega) x' hx0 hx4).mono ?_
 rintro e w1 ⟨A2,c2,q,A3,c3,r,rfl,hq,hrr,hf2,hf3,hbel⟩
 go_wp2_with fail
 go_ret3
 exact ⟨_,_,q,_,_,r,rfl,by rw [←Hvt.out,←Hvt'.out,Hval1.out];exact hq,by rw [←Hvt.out,←Hvt'.out,Hval1.out];exact hrr,hf2,hf3,hbel⟩
theorem div_more (w:World) (B B':Nat) (A A':Option Addr) (c c':Nat) (l l':List Nat) (hr:Rd .u32 w B A c l) (hr':Rd .u32 w B' A' c' l') (hB:B≤w.heap.size) (hB':B'≤w.heap.size) (hd:Dg l) (hd':Dg l') (hs:l.length≤4000) (hs':l'.length≤4000) (k:Nat) (h1:(trl l').length=k+2) :
  Calls Tryd.prog 61 #[.slice A l.length c,.slice A' l'.length c'] w fun e w'=>Divided w (val l) (val l') e w':=by
 have hrt:=hr.cut (tlen l l.length)
 have hrt':=hr'.cut (tlen l' l'.length)
 change Rd .u32 w B A c (trl l) at hrt
 change Rd .u32 w B' A' c' (trl l') at hrt'
 have hl1:(trl l).length≤4000:=by rw [trl_length];exact Nat.le_trans (tlen_le _ _) hs
 have hdt:=trl_dg hd
 have hdt':=trl_dg hd'
 have hnt:=trl_nrm l
 have hnt':=trl_nrm l'
 have Hvt:=lH (trl_val l)
 have Hvt':=lH (trl_val l')
 have hl1':(trl l').length≤4000:=by rw [trl_length];exact Nat.le_trans (tlen_le _ _) hs'
 go_enter Tryd.func61,Tryd.ntmps61
 go_wp2_with fail
 refine (trim_at w B A c _ l hr rfl).mono ?_
 rintro e w1 ⟨rfl,rfl⟩
 go_wp2_with fail
 refine (trim_at w B' A' c' _ l' hr' rfl).mono ?_
 rintro e w1 ⟨rfl,rfl⟩
 clear hr hr' hd hd'
 generalize trl l=t at *
 generalize trl l'=t' at *
 obtain ⟨top,Htop⟩:∃ x,Hid (x=t'.getD (k+1) 0):=⟨_,rfl⟩
 obtain ⟨b',off',x',rfl,hb',hx,Hx⟩:=hrt'.at_ (i:=k+1) (by omega)
 obtain rfl:x'=top:=by rw [Hx.out,Htop.out]
 have hx4:x' < 4294967296:=by rw [Hx.out];exact hdt'.at_ _
 have hx0:0<x':=by
  rcases hnt' with h | h
  ·omega
  ·rw [h1] at h
   have h2:=Hx.out
   rw [show k+2 - 1=k+1 by omega] at h
   omega
 have hbl:=Lib.bitLen_le x' 32 (by omega) (by omega)
 obtain ⟨s,Hs⟩:∃ s,Hid (s=32 - Lib.bitLen x'):=⟨_,rfl⟩
 obtain ⟨hv1,hv2,hs32⟩:=top_shift hdt' (by omega) Htop.out hx0 Hs.out hbl
 have Hv1:=lH hv1
 have Hv2:=lH hv2
 have Hl':=lH h1
 rw [h1]
 have hlt':Rd .u32 w B' (some ⟨b',off',none⟩) c' t':=hrt'
 clear h1 hv1 hv2 Hx
 have hc1:k+2≤c':=by have:=hrt'.1;rw [Hl'.out] at this;exact this
 have hc63:c'≤9223372036854775807:=hrt'.2.1
 have hk4:k+2≤4000:=by rw [←Hl'.out];exact hl1'
 go_wp2_with fail
 refine (lead_any x' w hx4).mono ?_
 rintro e w1 ⟨rfl,rfl⟩
 rw [←Hs.out]
 clear hx hbl
 go_wp2_with fail
 refine (shifted_any w B A c t hrt hB hdt (by omega) s hs32).mono ?_
 rintro e w1 ⟨L,rfl,hL,hdL,hvL,hRL,hbL⟩
 go_wp2_with fail
 refine (shifted_at w1 B' (some ⟨b',off',none⟩) c' (k+2) t' Hl'.out (hlt'.under (hbL.mono hB')) (Nat.le_trans hB' hbL.size) hdt' (by omega) s hs32).mono ?_
 rintro e w2 ⟨L2,rfl,hL2,hdL2,hvL2,hRL2,hbL2⟩
 have hz1:=Holds.lt hRL
 have hz2:=Holds.lt hRL2
 go_wp2_with fail
 refine (trim_at w2 _ _ (k+2+1) (k+2+1) L2 (rd_whole hRL2 (Nat.le_of_eq hL2) (by omega)) hL2).mono ?_
 rintro e w3 ⟨rfl,rfl⟩
 have hdV:=trl_dg hdL2
 obtain ⟨hVl,hVt⟩:=norm_len (n:=k+1) hdV (trl_nrm L2) (by rw [trl_val,hvL2];exact Hv1.out) (by rw [trl_val,hvL2];exact Hv2.out)
 have HvV:=lH (show val (trl L2)=val t' * 2 ^ s by rw [trl_val,hvL2])
 obtain ⟨V,HV⟩:∃ V,Hid (V=trl L2):=⟨_,rfl⟩
 have HL2:=lH hL2
 rw [←HV.out] at hdV hVl hVt HvV ⊢
 change V.length=k+2 at hVl
 rw [hVl]
 obtain ⟨m,Hm⟩:∃ m,Hid (m=t.length+1 - (k+2)):=⟨_,rfl⟩
 have hmx:max ((t.length:Int)+1 - ((k:Int)+2)) 0=(m:Int):=by have:=Hm.out;omega
 have hm4:m≤4001:=by have:=Hm.out;omega
 have hmk:=make_nat (m:Int) m rfl (by omega)
 have HVl:=lH hVl
 have HVt:=lH hVt
 have HL:=lH hL
 have HvL:=lH hvL
 clear hVl hVt hL hvL hL2 hvL2 hdL2
 go_wp2_with fail
 have hRL2':Row .u32 22 w2 w.heap.size L:=Holds.under hRL hbL2 hz1
 have hQ0:Row .u32 22 (w2.alloc (.cells (nums .u32 (List.replicate m 0)) 22)) w2.heap.size (List.replicate m 0):=Holds.fresh _ _ _
 clear hmk
 obtain ⟨g,hg⟩:∃ g,g=w.heap.size:=⟨_,rfl⟩
 obtain ⟨g1,hg1⟩:∃ g,g=w1.heap.size:=⟨_,rfl⟩
 obtain ⟨h,hh⟩:∃ g,g=w2.heap.size:=⟨_,rfl⟩
 have hb02:Below w.heap.size w (w2.alloc (.cells (nums .u32 (List.replicate m 0)) 22)):=(hbL.trans (hbL2.mono (Nat.le_of_lt hz1))).alloc (Nat.le_trans (Nat.le_of_lt hz1) hbL2.size) _
 rw [←hg] at hRL hRL2' hz1 hbL hb02 ⊢
 rw [←hg1] at hRL2 hbL2 hz1 hz2 ⊢
 rw [←hh] at hQ0 hz2 ⊢
 have Hg:=lH (⟨hg,hg1,hh⟩:g=w.heap.size∧g1=w1.heap.size∧h=w2.heap.size)
 clear hg hg1 hh
 have hRVa:=Holds.alloc hRL2 (.cells (nums .u32 (List.replicate m 0)) 22)
 have hRLa:=Holds.alloc hRL2' (.cells (nums .u32 (List.replicate m 0)) 22)
 generalize (w2.alloc (.cells (nums .u32 (List.replicate m 0)) 22))=w3 at *
 clear hRL hRL2 hRL2' hbL hbL2
 obtain ⟨N,HN⟩:∃ N,Hid (N=t.length+1):=⟨_,rfl⟩
 rw [←HN.out] at Hm HL ⊢
 have hN63:N≤4001:=by have:=HN.out;omega
 have Hst:=lH (show 0<m→val (L.drop m)<val V from fun h0=>div_start (n:=k+1) HvL.out (val_lt hdt) (by have:=Hm.out;have:=HN.out;omega) hs32 (by rw [HvV.out];exact Hv2.out))
 have Hne:g≠g1∧g≠h∧g1≠h∧w.heap.size≤h:=by
  have h1:=Hg.out
  omega
 have hgw:g=w.heap.size:=Hg.out.1
 subst hgw
 have HNe:=lH Hne
 clear Hne
 go_loopw [10] (fun si wr=>∃ (i:Nat) (L' Q:List Nat),i≤m∧si = .int .i64 ((i:Int) - 1)∧Q.length=m∧Dg Q∧L'.length=N∧Dg L'∧Row .u32 22 wr w.heap.size L'∧Row .u32 22 wr h Q∧Row .u32 22 wr g1 L2∧Below w.heap.size w wr ∧
   Hid (val L' + pw i*val (Q.drop i)*val V=val t*2 ^ s)∧Hid (0<m→val (L'.drop i)<val V))
  (fun si _=>(intOf si+1).toNat)
 case atStart=>exact ⟨m,L,_,Nat.le_refl _,rfl,by simp,Dg.noughts _,HL.out,hdL,hRLa,hQ0,hRVa,hb02,by show _=_;rw [val_drop_all _ (by simp),Nat.mul_zero,Nat.zero_mul,Nat.add_zero];exact HvL.out,Hst.out⟩
 case round =>
  obtain ⟨i,L',Q,hi,rfl,hQl,hdQ,hLl,hdL',hRL',hRQ,hRV,hbel,Hinv,Hlow⟩:=hrel
  have HQl:=lH hQl
  have HLl:=lH hLl
  clear hQl hLl
  have hzg:=Holds.lt hRL'
  have hzh:=Holds.lt hRQ
  rcases i with _ | i
  ·have Hend:=lH (div_end (r:=val L') (D:=val Q) (a:=val t) (b:=val t') (S:=2 ^ s) (Nat.pow_pos (by omega)) (by have:=Hinv.out;rw [List.drop_zero,pw_zero,Nat.one_mul,HvV.out] at this;exact this)
    (by
     rcases Nat.eq_zero_or_pos m with h0 | h0
     ·have h1:=Hinv.out
      have hq0:Q=[]:=List.eq_nil_of_length_eq_zero (by rw [HQl.out];exact h0)
      rw [hq0] at h1
      have h2:val L'=val t*2 ^ s:=by simpa [val] using h1
      have h3:val t<val t':=len_less hdt hnt' (by rw [Hl'.out];have:=Hm.out;have:=HN.out;omega)
      rw [h2]
      exact Nat.mul_lt_mul_of_pos_right h3 (Nat.pow_pos (by omega))
     ·have:=Hlow.out h0
      rw [List.drop_zero,HvV.out] at this
      exact this))
   go_wp2_with fail
   refine (trim_at wr _ _ m m Q (rd_whole hRQ (Nat.le_of_eq HQl.out) (by omega)) HQl.out).mono ?_
   rintro e w4 ⟨rfl,rfl⟩
   go_wp2_with fail
   refine (back_any wr w.heap.size N N L' hRL' HLl.out (Nat.le_refl _) (by omega) hdL' (by omega) s hs32).mono ?_
   rintro e w4 ⟨L3,rfl,hL3,hdL3,hvL3,hR3,hgr⟩
   have hRQ4:=Holds.grown hRQ hgr (by intro he;injection he with he;exact HNe.out.2.1 he.symm)
   go_wp2_with fail
   go_ret3
   exact ⟨_,_,trl Q,_,_,trl L3,rfl,num_trl hdQ (by rw [←Hvt.out,←Hvt'.out];exact Hend.out.1),num_trl hdL3 (by rw [hvL3,←Hvt.out,←Hvt'.out];exact Hend.out.2),fresh_trl hRQ4 HNe.out.2.2.2 (Nat.le_of_eq HQl.out) (by omega),fresh_trl hR3 (Nat.le_refl _) (Nat.le_of_eq hL3) (by omega),hbel.trans (one_below hgr (Nat.le_refl _) hbel.size)⟩
  ·rw [show (((i+1:Nat):Int) - 1)=(i:Int) from by omega]
   have hiN:i+(k+3)≤N:=by have:=Hm.out;omega
   have hVlt:val V<pw (k+2):=by
    have:=val_lt hdV
    rwa [HVl.out] at this
   have hV0:0<val V:=by
    have h1:2147483648*pw (k+1)≤val V:=by rw [HvV.out];exact Hv2.out
    have:=pw_pos (k+1)
    omega
   have hlow:=Hlow.out (by omega)
   have htp:=(div_top hdL' hlow hVlt (by rw [HLl.out];omega)).2
   have Hps:=lH (show ∀ (L4:List Nat) (d:Nat),L4.length=L'.length→d=val (seg L' i (k+3)) / val V→val (seg L4 i (k+3))=val (seg L' i (k+3)) % val V→(∀ j,j<i∨i+(k+3)≤j→L4.getD j 0=L'.getD j 0) →
     val L4+pw i*val ((Q.set i d).drop i)*val V=val t*2 ^ s∧val (L4.drop i)<val V from fun _ _ h1 h2 h3 h4 =>
    div_step hV0 hdL' (by rw [HLl.out];omega) (by rw [HLl.out];exact hiN) (by rw [HQl.out];omega) hVlt Hinv.out hlow h1 h2 h3 h4)
   have HV0:=lH (⟨hVlt,hV0,htp⟩:_∧_∧_)
   clear hVlt hV0 htp hlow
   go_wp2_with fail
   rw [show i+(k+2)+1 - i=k+3 by omega]
   refine (step_any wr w.heap.size i (N - i) k L' hRL' hdL' (by rw [HLl.out];exact hiN) (by omega) (by omega) (by omega) (some ⟨g1,0,none⟩) (k+2+1) (g1+1) V
    (fun w' hg=>by
     have h1:Row .u32 22 w' g1 L2:=Holds.grown hRV hg (by intro he;injection he with he;exact HNe.out.1 he.symm)
     have h2:=(rd_whole h1 (Nat.le_of_eq HL2.out) (by omega)).cut (tlen L2 L2.length)
     rw [HV.out]
     exact h2) hdV HVl.out HVt.out HV0.out.2.2).mono ?_
   rintro e w4 ⟨L4,d,rfl,hdd,hL4,hdL4,hR4,hgr,hseg,hfar⟩
   have hRQ4:=Holds.grown hRQ hgr (by intro he;injection he with he;exact HNe.out.2.1 he.symm)
   have hRV4:=Holds.grown hRV hgr (by intro he;injection he with he;exact HNe.out.1 he.symm)
   have hd4:d<4294967296:=by
    rw [hdd,Nat.div_lt_iff_lt_mul HV0.out.2.1]
    exact HV0.out.2.2
   have Hfin:=lH (Hps.out _ _ hL4 hdd hseg hfar)
   have HL4:=lH hL4
   clear hdd hseg hfar hL4
   have hfrQ:=Row.open_ hRQ4
   have hzQ:=Holds.lt hRQ4
   have hcQ:=Row.cell hRQ4 (i:=i) (by rw [HQl.out];omega)
   go_wp2_with fail
   have hst:=Row.set hRQ4 i d
   exact ⟨⟨i,L4,_,by omega,rfl,by rw [List.length_set];exact HQl.out,hdQ.set _ _ hd4,by rw [HL4.out];exact HLl.out,hdL4,Holds.aside hR4 HNe.out.2.1 _,hst,Holds.aside hRV4 HNe.out.2.2.1 _,(hbel.trans (one_below hgr (Nat.le_refl _) hbel.size)).setCell HNe.out.2.2.2 _,Hfin.out.1,fun _=>Hfin.out.2⟩,by simp [intOf]⟩
theorem div_any (w:World) (B B':Nat) (A A':Option Addr) (c c':Nat) (l l':List Nat) (hr:Rd .u32 w B A c l) (hr':Rd .u32 w B' A' c' l') (hB:B≤w.heap.size) (hB':B'≤w.heap.size) (hd:Dg l) (hd':Dg l') (hs:l.length≤4000) (hs':l'.length≤4000) (h0:val l'≠0) :
  Calls Tryd.prog 61 #[.slice A l.length c,.slice A' l'.length c'] w fun e w'=>Divided w (val l) (val l') e w':=by
 rcases hk:(trl l').length with _ | _ | k
 ·exfalso
  apply h0
  rw [←trl_val l',List.eq_nil_of_length_eq_zero hk]
  rfl
 ·exact div_one w B B' A A' c c' l l' hr hr' hB hB' hd hd' hs hk
 ·exact div_more w B B' A A' c c' l l' hr hr' hB hB' hd hd' hs hs' k hk
end Go.Proofs.YtflfdglpljodbaaDoor
