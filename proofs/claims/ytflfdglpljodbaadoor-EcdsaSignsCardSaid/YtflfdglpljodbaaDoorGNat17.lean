/-
  Division: quotient and rest.
-/
import Derived.Test.YtflfdglpljodbaaDoorGNat16
import Derived.Test.YtflfdglpljodbaaDoorGPure3
set_option maxRecDepth 100000
set_option maxHeartbeats 1000000
namespace Go.Proofs.YtflfdglpljodbaaDoor
open Go.RowKit
set_option linter.unusedVariables false
theorem shifted_at (w:World) (B:Nat) (A:Option Addr) (c n:Nat) (l:List Nat) (hn:l.length=n) (hr:Rd .u32 w B A c l) (hB:B≤w.heap.size) (hd:Dg l) (hls:n≤5000) (s:Nat) (hs:s<32) :
  Calls Tryd.prog 88 #[.slice A n c,.int .i64 s] w fun e w'=>∃ L,e = .returned (.slice (some ⟨w.heap.size,0,none⟩) (n+1) (n+1))∧L.length=n+1∧Dg L∧val L=val l*2 ^ s∧Row .u32 22 w' w.heap.size L∧Below w.heap.size w w':=by
 subst hn
 exact shifted_any w B A c l hr hB hd hls s hs
def Divided (w:World) (a b:Nat) (e:Ending) (w':World):Prop :=
 ∃ A2 c2 q A3 c3 r,e = .returned (.tuple #[.slice A2 q.length c2,.slice A3 r.length c3,.bool true])∧NumIs q (a / b)∧NumIs r (a % b)∧Fresh .u32 22 w' w.heap.size A2 c2 q∧Fresh .u32 22 w' w.heap.size A3 c3 r∧Below w.heap.size w w'
theorem div_one (w:World) (B B':Nat) (A A':Option Addr) (c c':Nat) (l l':List Nat) (hr:Rd .u32 w B A c l) (hr':Rd .u32 w B' A' c' l') (hB:B≤w.heap.size) (hB':B'≤w.heap.size) (hd:Dg l) (hd':Dg l') (hs:l.length≤4000) (h1:(trl l').length=1) :
  Calls Tryd.prog 61 #[.slice A l.length c,.slice A' l'.length c'] w fun e w'=>Divided w (val l) (val l') e w':=by
 have hrt:=hr.cut (tlen l l.length)
 have hrt':=hr'.cut (tlen l' l'.length)
 change Rd .u32 w B A c (trl l) at hrt
 change Rd .u32 w B' A' c' (trl l') at hrt'
 have hl1:(trl l).length≤4000:=by rw [trl_length];exact Nat.le_trans (tlen_le _ _) hs
 have hdt:=trl_dg hd
 have hdt':=trl_dg hd'
 have hnt:=trl_nrm l
 have hnt':=trl_nrm l'
 have Hvt:=lH (trl_val l)
 have Hvt':=lH (trl_val l')
 go_enter Tryd.func61,Tryd.ntmps61
 go_wp2_with fail
 refine (trim_at w B A c _ l hr rfl).mono ?_
 rintro e w1 ⟨rfl,rfl⟩
 go_wp2_with fail
 refine (trim_at w B' A' c' _ l' hr' rfl).mono ?_
 rintro e w1 ⟨rfl,rfl⟩
 clear hr hr' hd hd'
 generalize trl l=t at *
 generalize trl l'=t' at *
 obtain ⟨x,rfl⟩:∃ x,t'=[x]:=by
  match t',h1 with
  | [x],_=>exact ⟨x,rfl⟩
 obtain ⟨b',off',x',rfl,hb',hx,Hx⟩:=hrt'.at_ (i:=0) (by simp)
 obtain rfl:x'=x:=Hx.out
 rw [Nat.add_zero] at hx
 have hx4:x' < 4294967296:=hdt' x' (by simp)
 have hx0:0<x':=by
  rcases hnt' with h | h
  ·simp at h
  ·have:x'≠0:=by simpa using h
   omega
 have Hval1:=lH (show val [x']=x' by simp [val])
 rw [h1]
 clear h1 Hx hnt' hdt'
 have hc1:1≤c':=hrt'.1
 have hc63:c'≤9223372036854775807:=hrt'.2.1
 go_wp2_with fail
 refine (short_any w B A c t hrt hB hdt (by omega) x' hx0 hx4).mono ?_
 rintro e w1 ⟨A2,c2,q,A3,c3,r,rfl,hq,hrr,hf2,hf3,hbel⟩
 go_wp2_with fail
 go_ret3
 exact ⟨_,_,q,_,_,r,rfl,by rw [←Hvt.out,←Hvt'.out,Hval1.out];exact hq,by rw [←Hvt.out,←Hvt'.out,Hval1.out];exact hrr,hf2,hf3,hbel⟩
theorem div_more (w:World) (B B':Nat) (A A':Option Addr) (c c':Nat) (l l':List Nat) (hr:Rd .u32 w B A c l) (hr':Rd .u32 w B' A' c' l') (hB:B≤w.heap.size) (hB':B'≤w.heap.size) (hd:Dg l) (hd':Dg l') (hs:l.length≤4000) (hs':l'.length≤4000) (k:Nat) (h1:(trl l').length=k+2) :
  Calls Tryd.prog 61 #[.slice A l.length c,.slice A' l'.length c'] w fun e w'=>Divided w (val l) (val l') e w':=by
 have bB:=hr.cut (tlen l l.length)
 have hrt':=hr'.cut (tlen l' l'.length)
 change Rd .u32 w B A c (trl l) at bB
 change Rd .u32 w B' A' c' (trl l') at hrt'
 have hl1:(trl l).length≤4000:=by rw [trl_length];exact Nat.le_trans (tlen_le _ _) hs
 have a9:=trl_dg hd
 have hdt':=trl_dg hd'
 have hnt:=trl_nrm l
 have hnt':=trl_nrm l'
 have bk:=lH (trl_val l)
 have Hvt':=lH (trl_val l')
 have hl1':(trl l').length≤4000:=by rw [trl_length];exact Nat.le_trans (tlen_le _ _) hs'
 go_enter Tryd.func61,Tryd.ntmps61
 go_wp2_with fail
 refine (trim_at w B A c _ l hr rfl).mono ?_
 rintro e w1 ⟨rfl,rfl⟩
 go_wp2_with fail
 refine (trim_at w B' A' c' _ l' hr' rfl).mono ?_
 rintro e w1 ⟨rfl,rfl⟩
 clear hr hr' hd hd'
 generalize trl l=t at *
 generalize trl l'=t' at *
 obtain ⟨bI,aH⟩:∃ x,Hid (x=t'.getD (k+1) 0):=⟨_,rfl⟩
 obtain ⟨b',off',x',rfl,hb',hx,Hx⟩:=hrt'.at_ (i:=k+1) (by omega)
 obtain rfl:x'=bI:=by rw [Hx.out,aH.out]
 have bQ:x' < 4294967296:=by rw [Hx.out];exact hdt'.at_ _
 have bG:0<x':=by
  rcases hnt' with h | h
  ·omega
  ·rw [h1] at h
   have h2:=Hx.out
   rw [show k+2 - 1=k+1 by omega] at h
   omega
 have bE:=Lib.bitLen_le x' 32 (by omega) (by omega)
 obtain ⟨s,Hs⟩:∃ s,Hid (s=32 - Lib.bitLen x'):=⟨_,rfl⟩
 obtain ⟨bt,bD,ak⟩:=top_shift hdt' (by omega) aH bG Hs bE
 have bP:=lH bt
 have a_:=lH bD
 have Hl':=lH h1
 rw [h1]
 have hlt':Rd .u32 w B' (some ⟨b',off',none⟩) c' t':=hrt'
 clear h1 bt bD Hx
 have hc1:k+2≤c':=by have:=hrt'.1;rw [Hl'.out] at this;exact this
 have hc63:c'≤9223372036854775807:=hrt'.2.1
 have hk4:k+2≤4000:=by rw [←Hl'.out];exact hl1'
 go_wp2_with fail
 refine (lead_any x' w bQ).mono ?_
 rintro e w1 ⟨rfl,rfl⟩
 rw [←Hs.out]
 clear hx bE
 go_wp2_with fail
 refine (shifted_any w B A c t bB hB a9 (by omega) s ak).mono ?_
 rintro e w1 ⟨L,rfl,hL,bO,bs,aR,aG⟩
 go_wp2_with fail
 refine (shifted_at w1 B' (some ⟨b',off',none⟩) c' (k+2) t' Hl' (hlt'.under (aG.mono hB')) (Nat.le_trans hB' aG.size) hdt' (by omega) s ak).mono ?_
 rintro e w2 ⟨L2,rfl,aO,aA,am,ae,ac⟩
 have aD:=Holds.lt aR
 have bC:=Holds.lt ae
 go_wp2_with fail
 refine (trim_at w2 _ _ (k+2+1) (k+2+1) L2 (rd_whole ae (Nat.le_of_eq aO) (by omega)) aO).mono ?_
 rintro e w3 ⟨rfl,rfl⟩
 have aN:=trl_dg aA
 obtain ⟨aB,aY⟩:=norm_len (n:=k+1) aN (trl_nrm L2) (by rw [trl_val,am];exact bP.out) (by rw [trl_val,am];exact a_.out)
 have aJ:=lH (show val (trl L2)=val t' * 2 ^ s by rw [trl_val,am])
 obtain ⟨V,HV⟩:∃ V,Hid (V=trl L2):=⟨_,rfl⟩
 have bM:=lH aO
 rw [←HV.out] at aN aB aY aJ ⊢
 change V.length=k+2 at aB
 rw [aB]
 obtain ⟨m,Hm⟩:∃ m,Hid (m=t.length+1 - (k+2)):=⟨_,rfl⟩
 have hmx:max ((t.length:Int)+1 - ((k:Int)+2)) 0=(m:Int):=by have:=Hm.out;omega
 have hm4:m≤4001:=by have:=Hm.out;omega
 have bV:=make_nat (m:Int) m rfl (by omega)
 have bv:=lH aB
 have bJ:=lH aY
 have HL:=lH hL
 have bm:=lH bs
 clear aB aY hL bs aO am aA
 go_wp2_with fail
 have hRL2':Row .u32 22 w2 w.heap.size L:=Holds.under aR ac aD
 have bu:Row .u32 22 (w2.alloc (.cells (nums .u32 (List.replicate m 0)) 22)) w2.heap.size (List.replicate m 0):=Holds.fresh _ _ _
 clear bV
 obtain ⟨g,hg⟩:∃ g,g=w.heap.size:=⟨_,rfl⟩
 obtain ⟨g1,a6⟩:∃ g,g=w1.heap.size:=⟨_,rfl⟩
 obtain ⟨h,hh⟩:∃ g,g=w2.heap.size:=⟨_,rfl⟩
 have aC:Below w.heap.size w (w2.alloc (.cells (nums .u32 (List.replicate m 0)) 22)):=(aG.trans (ac.mono (Nat.le_of_lt aD))).alloc (Nat.le_trans (Nat.le_of_lt aD) ac.size) _
 rw [←hg] at aR hRL2' aD aG aC ⊢
 rw [←a6] at ae ac aD bC ⊢
 rw [←hh] at bu bC ⊢
 have Hg:=lH (⟨hg,a6,hh⟩:g=w.heap.size∧g1=w1.heap.size∧h=w2.heap.size)
 clear hg a6 hh
 have a8:=Holds.alloc ae (.cells (nums .u32 (List.replicate m 0)) 22)
 have aU:=Holds.alloc hRL2' (.cells (nums .u32 (List.replicate m 0)) 22)
 generalize (w2.alloc (.cells (nums .u32 (List.replicate m 0)) 22))=w3 at *
 clear aR ae hRL2' aG ac
 obtain ⟨N,HN⟩:∃ N,Hid (N=t.length+1):=⟨_,rfl⟩
 rw [←HN.out] at Hm HL ⊢
 have hN63:N≤4001:=by have:=HN.out;omega
 have bU:=lH (show 0<m→val (L.drop m)<val V from fun h0=>div_start (n:=k+1) bm (val_lt a9) (by have:=Hm.out;have:=HN.out;omega) ak (by rw [aJ.out];exact a_.out))
 have bn:g≠g1∧g≠h∧g1≠h∧w.heap.size≤h:=by
  have h1:=Hg.out
  omega
 have bL:g=w.heap.size:=Hg.out.1
 subst bL
 have au:=lH bn
 clear bn
 go_loopw [10] (fun si wr=>∃ (i:Nat) (L' Q:List Nat),i≤m∧si = .int .i64 ((i:Int) - 1)∧Q.length=m∧Dg Q∧L'.length=N∧Dg L'∧Row .u32 22 wr w.heap.size L'∧Row .u32 22 wr h Q∧Row .u32 22 wr g1 L2∧Below w.heap.size w wr ∧
   Hid (val L' + pw i*val (Q.drop i)*val V=val t*2 ^ s)∧Hid (0<m→val (L'.drop i)<val V))
  (fun si _=>(intOf si+1).toNat)
 case atStart=>exact ⟨m,L,_,Nat.le_refl _,rfl,by simp,Dg.noughts _,HL,bO,aU,bu,a8,aC,by show _=_;rw [val_drop_all _ (by simp),Nat.mul_zero,Nat.zero_mul,Nat.add_zero];exact bm.out,bU⟩
 case round =>
  obtain ⟨i,L',Q,hi,rfl,bA,br,bl,hdL',hRL',aQ,bz,ao,ax,aF⟩:=hrel
  have aw:=lH bA
  have az:=lH bl
  clear bA bl
  have hzg:=Holds.lt hRL'
  have hzh:=Holds.lt aQ
  rcases i with _ | i
  ·have aL:=lH (div_end (r:=val L') (D:=val Q) (a:=val t) (b:=val t') (S:=2 ^ s) (Nat.pow_pos (by omega)) (by have:=ax.out;rw [List.drop_zero,pw_zero,Nat.one_mul,aJ.out] at this;exact this)
    (by
     rcases Nat.eq_zero_or_pos m with h0 | h0
     ·have h1:=ax.out
      have bR:Q=[]:=List.eq_nil_of_length_eq_zero (by rw [aw.out];exact h0)
      rw [bR] at h1
      have h2:val L'=val t*2 ^ s:=by simpa [val] using h1
      have h3:val t<val t':=len_less a9 hnt' (by rw [Hl'.out];have:=Hm.out;have:=HN.out;omega)
      rw [h2]
      exact Nat.mul_lt_mul_of_pos_right h3 (Nat.pow_pos (by omega))
     ·have:=aF.out h0
      rw [List.drop_zero,aJ.out] at this
      exact this))
   go_wp2_with fail
   refine (trim_at wr _ _ m m Q (rd_whole aQ (Nat.le_of_eq aw) (by omega)) aw).mono ?_
   rintro e w4 ⟨rfl,rfl⟩
   go_wp2_with fail
   refine (back_any wr w.heap.size N N L' hRL' az (Nat.le_refl _) (by omega) hdL' (by omega) s ak).mono ?_
   rintro e w4 ⟨L3,rfl,bH,aV,aX,bK,ay⟩
   have ab:=Holds.grown aQ ay (by intro he;injection he with he;exact au.out.2.1 he.symm)
   go_wp2_with fail
   go_ret3
   exact ⟨_,_,trl Q,_,_,trl L3,rfl,num_trl br (by rw [←bk.out,←Hvt'.out];exact aL.out.1),num_trl aV (by rw [aX,←bk.out,←Hvt'.out];exact aL.out.2),fresh_trl ab au.out.2.2.2 (Nat.le_of_eq aw) (by omega),fresh_trl bK (Nat.le_refl _) (Nat.le_of_eq bH) (by omega),ao.trans (one_below ay (Nat.le_refl _) ao.size)⟩
  ·rw [show (((i+1:Nat):Int) - 1)=(i:Int) from by omega]
   have bw:i+(k+3)≤N:=by have:=Hm.out;omega
   have ai:val V<pw (k+2):=by
    have:=val_lt aN
    rwa [bv.out] at this
   have ba:0<val V:=by
    have h1:2147483648*pw (k+1)≤val V:=by rw [aJ.out];exact a_.out
    have:=pw_pos (k+1)
    omega
   have av:=aF.out (by omega)
   have bx:=(div_top hdL' av ai (by rw [az.out];omega)).2
   have bF:=lH (show ∀ (L4:List Nat) (d:Nat),L4.length=L'.length→d=val (seg L' i (k+3)) / val V→val (seg L4 i (k+3))=val (seg L' i (k+3)) % val V→(∀ j,j<i∨i+(k+3)≤j→L4.getD j 0=L'.getD j 0) →
     val L4+pw i*val ((Q.set i d).drop i)*val V=val t*2 ^ s∧val (L4.drop i)<val V from fun _ _ h1 h2 h3 h4 =>
    div_step ba hdL' (by rw [az.out];omega) (by rw [az.out];exact bw) (by rw [aw.out];omega) ai ax av h1 h2 h3 h4)
   have bf:=lH (⟨ai,ba,bx⟩:_∧_∧_)
   clear ai ba bx av
   go_wp2_with fail
   rw [show i+(k+2)+1 - i=k+3 by omega]
   refine (step_any wr w.heap.size i (N - i) k L' hRL' hdL' (by rw [az.out];exact bw) (by omega) (by omega) (by omega) (some ⟨g1,0,none⟩) (k+2+1) (g1+1) V
    (fun w' hg=>by
     have h1:Row .u32 22 w' g1 L2:=Holds.grown bz hg (by intro he;injection he with he;exact au.out.1 he.symm)
     have h2:=(rd_whole h1 (Nat.le_of_eq bM) (by omega)).cut (tlen L2 L2.length)
     rw [HV.out]
     exact h2) aN bv bJ bf.out.2.2).mono ?_
   rintro e w4 ⟨L4,d,rfl,aT,aW,bd,bT,ay,aK,aE⟩
   have ab:=Holds.grown aQ ay (by intro he;injection he with he;exact au.out.2.1 he.symm)
   have bc:=Holds.grown bz ay (by intro he;injection he with he;exact au.out.1 he.symm)
   have bN:d<4294967296:=by
    rw [aT,Nat.div_lt_iff_lt_mul bf.out.2.1]
    exact bf.out.2.2
   have aM:=lH (bF.out _ _ aW aT aK aE)
   have bW:=lH aW
   clear aT aK aE aW
   have hfrQ:=Row.open_ ab
   have hzQ:=Holds.lt ab
   have hcQ:=Row.cell ab (i:=i) (by rw [aw.out];omega)
   go_wp2_with fail
   have bS:=Row.set ab i d
   exact ⟨⟨i,L4,_,by omega,rfl,by rw [List.length_set];exact aw.out,br.set _ _ bN,by rw [bW.out];exact az.out,bd,Holds.aside bT au.out.2.1 _,bS,Holds.aside bc au.out.2.2.1 _,(ao.trans (one_below ay (Nat.le_refl _) ao.size)).setCell au.out.2.2.2 _,aM.out.1,fun _=>aM.out.2⟩,by simp [intOf]⟩
theorem div_any (w:World) (B B':Nat) (A A':Option Addr) (c c':Nat) (l l':List Nat) (hr:Rd .u32 w B A c l) (hr':Rd .u32 w B' A' c' l') (hB:B≤w.heap.size) (hB':B'≤w.heap.size) (hd:Dg l) (hd':Dg l') (hs:l.length≤4000) (hs':l'.length≤4000) (h0:val l'≠0) :
  Calls Tryd.prog 61 #[.slice A l.length c,.slice A' l'.length c'] w fun e w'=>Divided w (val l) (val l') e w':=by
 rcases hk:(trl l').length with _ | _ | k
 ·exfalso
  apply h0
  rw [←trl_val l',List.eq_nil_of_length_eq_zero hk]
  rfl
 ·exact div_one w B B' A A' c c' l l' hr hr' hB hB' hd hd' hs hk
 ·exact div_more w B B' A A' c c' l l' hr hr' hB hB' hd hd' hs hs' k hk
end Go.Proofs.YtflfdglpljodbaaDoor
