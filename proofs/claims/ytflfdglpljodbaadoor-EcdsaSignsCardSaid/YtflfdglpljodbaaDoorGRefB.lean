/-
  The document's numbers that go round: what is left, sum, difference, product. Numbers that are such, by the law; the law of sums, differences, products. The law of sums, differences, products that go round, walked. The document's powers that go round.
-/
import Derived.Test.YtflfdglpljodbaaDoorGRefD
import Derived.Test.YtflfdglpljodbaaDoorGModM
set_option maxRecDepth 100000
set_option linter.unusedVariables false
set_option linter.unusedSimpArgs false
namespace Go.Proofs.YtflfdglpljodbaaDoor
open Go.RowKit
def LeftR (w:World) (v:Nat) (e:Ending) (w':World):Prop :=
 ∃ A2 c2 r,e = .returned (.tuple #[.slice A2 r.length c2,.bool true])∧NumIs r v∧Rd .u32 w' w'.heap.size A2 c2 r∧Below w.heap.size w w'
theorem Left.r {w w':World} {v:Nat} {e:Ending} (h:Left w v e w'):LeftR w v e w':=by
 obtain ⟨A2,c2,r,h1,h2,h3,h4⟩:=h
 exact ⟨A2,c2,r,h1,h2,h3.1,h4⟩
theorem nrm_nil {l:List Nat} (hd:Dg l) (hn:nrm l) (h:val l=0):l.length=0:=by
 have h1:=trl_none hd h
 rwa [trl_id hn] at h1
theorem rest'_yes (w:World) (B B':Nat) (A A':Option Addr) (c c':Nat) (l l':List Nat) (hr:Rd .u32 w B A c l) (hr':Rd .u32 w B' A' c' l') (hB:B≤w.heap.size) (hB':B'≤w.heap.size) (hd:Dg l) (hd':Dg l') (hs:l.length≤4000) (hs':l'.length≤4000) (h0:val l'≠0) (hn:nrm l) (hn':nrm l') :
  Calls Tryd.prog 65 #[.slice A l.length c,.slice A' l'.length c'] w (LeftR w (val l % val l')):=by
 go_enter Tryd.func65,Tryd.ntmps65
 go_wp2_with fail
 refine (div'_any w B B' A A' c c' _ _ l l' rfl rfl hr hr' hB hB' hd hd' hn hn' hs hs' h0).mono ?_
 rintro e w' ⟨A2,c2,q,A3,c3,r,rfl,hq,hrr,hf2,hf3,hb⟩
 go_wp2_with fail
 go_ret2
 exact ⟨_,_,r,rfl,hrr,hf3,hb⟩
theorem add8_yes (w:World) (A A' A'':Option Addr) (c c' c'':Nat) (l l' l'':List Nat) (hr:Rd .u32 w w.heap.size A c l) (hr':Rd .u32 w w.heap.size A' c' l') (hr'':Rd .u32 w w.heap.size A'' c'' l'') (hd:Dg l) (hd':Dg l') (hd'':Dg l'') (hs:l.length≤1000) (hs':l'.length≤1000) (hs'':l''.length≤1000) (h0:val l''≠0) (hn'':nrm l'') :
  Calls Tryd.prog 27 #[.slice A l.length c,.slice A' l'.length c',.slice A'' l''.length c''] w (LeftR w ((val l+val l') % val l'')):=by
 go_enter Tryd.func27,Tryd.ntmps27
 go_wp2_with fail
 refine (add'_any w _ _ A A' c c' l l' hr hr' (Nat.le_refl _) (Nat.le_refl _) hd hd' (by omega) (by omega)).mono ?_
 rintro e w1 ⟨A1,c1,r1,rfl,hn1,hf1,hb1⟩
 have hl1:r1.length≤2000:=Nat.le_trans (num_len' hn1 (sum_lt hd hd' hs hs')) (by omega)
 go_wp2_with fail
 refine (rest'_yes w1 _ _ A1 A'' c1 c'' r1 l'' hf1.rd (rd_next hr'' (Nat.le_refl _) hb1) (Nat.le_refl _) (Nat.le_refl _) hn1.1 hd'' (by omega) (by omega) h0 hn1.2.1 hn'').mono ?_
 rintro e w2 ⟨A2,c2,r2,rfl,hn2,hf2,hb2⟩
 rw [hn1.2.2] at hn2
 go_wp2_with fail
 go_ret2
 exact ⟨_,_,r2,rfl,hn2,hf2,hb1.trans (hb2.mono hb1.size)⟩
theorem mul8_yes (w:World) (A A' A'':Option Addr) (c c' c'':Nat) (l l' l'':List Nat) (hr:Rd .u32 w w.heap.size A c l) (hr':Rd .u32 w w.heap.size A' c' l') (hr'':Rd .u32 w w.heap.size A'' c'' l'') (hd:Dg l) (hd':Dg l') (hd'':Dg l'') (hs:l.length≤1000) (hs':l'.length≤1000) (hs'':l''.length≤1000) (h0:val l''≠0) (hn'':nrm l'') :
  Calls Tryd.prog 73 #[.slice A l.length c,.slice A' l'.length c',.slice A'' l''.length c''] w (LeftR w ((val l*val l') % val l'')):=by
 go_enter Tryd.func73,Tryd.ntmps73
 go_wp2_with fail
 refine (mul'_any w _ _ A A' c c' l l' hr hr' (Nat.le_refl _) (Nat.le_refl _) hd hd' (by omega) (by omega)).mono ?_
 rintro e w1 ⟨A1,c1,r1,rfl,hn1,hf1,hb1⟩
 have hl1:r1.length≤2000:=Nat.le_trans (num_len' hn1 (prod_lt hd hd' hs hs')) (by omega)
 go_wp2_with fail
 refine (rest'_yes w1 _ _ A1 A'' c1 c'' r1 l'' hf1.rd (rd_next hr'' (Nat.le_refl _) hb1) (Nat.le_refl _) (Nat.le_refl _) hn1.1 hd'' (by omega) (by omega) h0 hn1.2.1 hn'').mono ?_
 rintro e w2 ⟨A2,c2,r2,rfl,hn2,hf2,hb2⟩
 rw [hn1.2.2] at hn2
 go_wp2_with fail
 go_ret2
 exact ⟨_,_,r2,rfl,hn2,hf2,hb1.trans (hb2.mono hb1.size)⟩
theorem sub8_yes (w:World) (A A' A'':Option Addr) (c c' c'':Nat) (l l' l'':List Nat) (hr:Rd .u32 w w.heap.size A c l) (hr':Rd .u32 w w.heap.size A' c' l') (hr'':Rd .u32 w w.heap.size A'' c'' l'') (hd:Dg l) (hd':Dg l') (hd'':Dg l'') (hs:l.length≤1000) (hs':l'.length≤1000) (hs'':l''.length≤1000) (h0:val l''≠0) (hnl:nrm l) (hnl':nrm l') (hn'':nrm l'') :
  Calls Tryd.prog 79 #[.slice A l.length c,.slice A' l'.length c',.slice A'' l''.length c''] w (LeftR w ((val l % val l'' + (val l'' - val l' % val l'')) % val l'')):=by
 go_enter Tryd.func79,Tryd.ntmps79
 go_wp2_with fail
 refine (rest'_yes w _ _ A A'' c c'' l l'' hr hr'' (Nat.le_refl _) (Nat.le_refl _) hd hd'' (by omega) (by omega) h0 hnl hn'').mono ?_
 rintro e w1 ⟨A1,c1,r1,rfl,ac,aC,au⟩
 have aG:r1.length≤1000:=num_len' ac (Nat.lt_of_lt_of_le (Nat.lt_trans (Nat.mod_lt _ (Nat.pos_of_ne_zero h0)) (val_lt hd'')) (pw_mono hs''))
 go_wp2_with fail
 refine (rest'_yes w1 _ _ A' A'' c' c'' l' l'' (rd_next hr' (Nat.le_refl _) au) (rd_next hr'' (Nat.le_refl _) au) (Nat.le_refl _) (Nat.le_refl _) hd' hd'' (by omega) (by omega) h0 hnl' hn'').mono ?_
 rintro e w2 ⟨A2,c2,r2,rfl,ab,aD,ax⟩
 have hl2:r2.length≤1000:=num_len' ab (Nat.lt_of_lt_of_le (Nat.lt_trans (Nat.mod_lt _ (Nat.pos_of_ne_zero h0)) (val_lt hd'')) (pw_mono hs''))
 have aw:=rd_next aC (Nat.le_refl _) ax
 have av:=aD
 have az:=rd_next (rd_next hr'' (Nat.le_refl _) au) (Nat.le_refl _) ax
 have hb:=au.trans (ax.mono au.size)
 clear aC aD au ax
 have h1:=Nat.mod_lt (val l) (Nat.pos_of_ne_zero h0)
 have h2:=Nat.mod_lt (val l') (Nat.pos_of_ne_zero h0)
 obtain ⟨x,Hx⟩:∃ x,Hid (x=val l % val l''):=⟨_,rfl⟩
 obtain ⟨y,Hy⟩:∃ y,Hid (y=val l' % val l''):=⟨_,rfl⟩
 obtain ⟨m,Hm⟩:∃ y,Hid (y=val l''):=⟨_,rfl⟩
 rw [←Hx.out] at ac h1
 rw [←Hy.out] at ab h2
 rw [←Hm.out] at h1 h2
 have ai:=lH (show (val l % val l'' + (val l'' - val l' % val l'')) % val l''=(x+(m - y)) % m by rw [Hx.out,Hy.out,Hm.out])
 by_cases hxy:y≤x
 ·have hv:decide (val r2≤val r1)=true:=by rw [ac.2.2,ab.2.2];exact decide_eq_true hxy
  have ae:(x+(m - y)) % m=x - y:=by
   rw [show x+(m - y)=(x - y)+m by omega,Nat.add_mod_right,Nat.mod_eq_of_lt (by omega)]
  have ak:=lH ae
  clear ae
  go_wp2_with fail
  refine (sub'_all w2 _ _ A1 A2 c1 c2 r1 r2 aw av (Nat.le_refl _) (Nat.le_refl _) ac.1 ab.1 ac.2.1 ab.2.1 (by omega) (by omega) true hv).mono ?_
  rintro e w3 ⟨A3,c3,r3,rfl,aA,aE,ao⟩
  rw [ac.2.2,ab.2.2] at aA
  go_wp2_with fail
  go_ret2
  exact ⟨_,_,r3,rfl,by rw [ai.out,ak.out];exact aA,aE.1,hb.trans (ao.mono hb.size)⟩
 ·have hv:decide (val r2≤val r1)=false:=by rw [ac.2.2,ab.2.2];exact decide_eq_false hxy
  have ae:(x+(m - y)) % m=x+m - y:=by
   rw [show x+(m - y)=x+m - y by omega,Nat.mod_eq_of_lt (by omega)]
  have ak:=lH ae
  clear ae
  go_wp2_with fail
  refine (sub'_all w2 _ _ A1 A2 c1 c2 r1 r2 aw av (Nat.le_refl _) (Nat.le_refl _) ac.1 ab.1 ac.2.1 ab.2.1 (by omega) (by omega) false hv).mono ?_
  rintro e w3 ⟨A3,c3,r3,rfl,aA,aE,ao⟩
  have aw:=rd_next aw (Nat.le_refl _) ao
  have av:=rd_next av (Nat.le_refl _) ao
  have az:=rd_next az (Nat.le_refl _) ao
  have hb:=hb.trans (ao.mono hb.size)
  go_wp2_with fail
  refine (add'_any w3 _ _ A1 A'' c1 c'' r1 l'' aw az (Nat.le_refl _) (Nat.le_refl _) ac.1 hd'' (by omega) (by omega)).mono ?_
  rintro e w4 ⟨A4,c4,r4,rfl,am,aJ,ay⟩
  have hl4:r4.length≤1001:=num_len' am (sum_lt ac.1 hd'' aG hs'')
  rw [ac.2.2,←Hm.out] at am
  go_wp2_with fail
  refine (sub'_all w4 _ _ A4 A2 c4 c2 r4 r2 aJ.rd (rd_next av (Nat.le_refl _) ay) (Nat.le_refl _) (Nat.le_refl _) am.1 ab.1 am.2.1 ab.2.1 (by omega) (by omega) true (by rw [am.2.2,ab.2.2];exact decide_eq_true (by omega))).mono ?_
  rintro e w5 ⟨A5,c5,r5,rfl,aB,aF,aH⟩
  rw [am.2.2,ab.2.2] at aB
  go_wp2_with fail
  go_ret2
  exact ⟨_,_,r5,rfl,by rw [ai.out,ak.out];exact aB,aF.1,(hb.trans (ay.mono hb.size)).trans (aH.mono (Nat.le_trans hb.size ay.size))⟩
structure It where
 A:Option Addr
 c:Nat
 l:List Nat
instance:Inhabited It:=⟨⟨none,0,[]⟩⟩
def Three (w:World) (A A' A'':Option Addr) (c c' c'':Nat) (l l' l'':List Nat) (W:World):Prop :=
 Rd .u32 W W.heap.size A c l∧Rd .u32 W W.heap.size A' c' l'∧Rd .u32 W W.heap.size A'' c'' l''∧Below w.heap.size w W
theorem Three.next {w W W':World} {A A' A'':Option Addr} {c c' c'':Nat} {l l' l'':List Nat} (h:Three w A A' A'' c c' c'' l l' l'' W) (hb:Below W.heap.size W W'):Three w A A' A'' c c' c'' l l' l'' W' :=
 ⟨rd_next h.1 (Nat.le_refl _) hb,rd_next h.2.1 (Nat.le_refl _) hb,rd_next h.2.2.1 (Nat.le_refl _) hb,h.2.2.2.trans (hb.mono h.2.2.2.size)⟩
end Go.Proofs.YtflfdglpljodbaaDoor
