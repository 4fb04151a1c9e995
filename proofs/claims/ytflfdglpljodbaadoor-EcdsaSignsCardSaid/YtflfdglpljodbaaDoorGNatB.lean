/-
  The law's own example, and the law of bytes: any bytes' number, and back. Taking a number, so many times, from digits in place. Differences: by nat. Sums and differences by the document's own reckoning. Products: by nat, and by the document's own reckoning. The law of sums, differences, products, and which is more. The laws of sums and products, in any order, of parts. Division by one digit; shifting, and back.
-/
import Derived.Test.YtflfdglpljodbaaDoorGNatA
import Derived.WalkSmall
import Derived.Laws.CopyOwn
set_option maxRecDepth 100000
set_option maxHeartbeats 400000
set_option linter.unusedVariables false
set_option linter.unusedSimpArgs false
namespace Go.Proofs.YtflfdglpljodbaaDoor
open Go.RowKit
theorem Fresh.rd {k:IntKind} {T:TypeId} {w':World} {B:Nat} {A:Option Addr} {c:Nat} {r:List Nat} (h:Fresh k T w' B A c r):Rd k w' w'.heap.size A c r:=h.1
theorem subtract_any (w:World) (g o n c:Nat) (L:List Nat) (hR:Row .u32 22 w g L) (hdL:Dg L) (hon:o+n≤L.length) (hnc:n≤c) (hc63:c≤9223372036854775807) (hn5:n≤5000)
  (A':Option Addr) (c' B':Nat) (l':List Nat) (hr':∀ w',w.grownBy w' (some g)→Rd .u32 w' B' A' c' l') (hd':Dg l') (hl':l'.length≤n) (q:Nat) (hq:q<4294967296) :
  Calls Tryd.prog 102 #[.slice (some ⟨g,o,none⟩) n c,.slice A' l'.length c',.int .u64 q] w fun e w'=>∃ (L':List Nat) (lent:Nat),e = .returned (.int .u32 lent)∧lent≤q∧L'.length=L.length∧Dg L'∧Row .u32 22 w' g L'∧w.grownBy w' (some g) ∧
   val (seg L' o n)+q*val l'=val (seg L o n)+pw n*lent∧∀ j,j<o∨o+n≤j→L'.getD j 0=L.getD j 0:=by
 have aG:=hr' w (World.grownBy.refl w _)
 have hlc':l'.length≤c':=aG.1
 have hc63':c'≤9223372036854775807:=aG.2.1
 go_enter Tryd.func102,Tryd.ntmps102
 go_wp2_with fail
 go_loopw [7,12] (fun sv si wr=>∃ (i v:Nat) (L2:List Nat),i≤n∧si = .int .i64 i∧sv = .int .u64 v∧v≤q∧L2.length=L.length∧Dg L2∧Row .u32 22 wr g L2∧w.grownBy wr (some g) ∧
   Hid (val (seg L2 o i)+q*val (l'.take i)=val (seg L o i)+pw i*v)∧Hid (∀ j,j<o∨o+i≤j→L2.getD j 0=L.getD j 0))
  (fun _ si _=>n - (intOf si).toNat)
 case atStart=>exact ⟨0,0,L,by omega,rfl,rfl,by omega,rfl,hdL,hR,World.grownBy.refl w _,by show _=_;simp [seg_zero,val],fun _ _=>rfl⟩
 case round =>
  obtain ⟨i,v,L2,hi,rfl,rfl,hv,aE,ax,am,av,ab,ac⟩:=hrel
  have ai:=lH aE
  clear aE
  have hfr:=am.open_
  by_cases h:i<n
  ·have az:=am.cell (i:=o+i) (by rw [ai.out];omega)
   obtain ⟨x,Hx⟩:∃ x,Hid (x=L2.getD (o+i) 0):=⟨_,rfl⟩
   rw [←Hx.out] at az
   have aC:x<4294967296:=by rw [Hx.out];exact ax.at_ _
   by_cases h':i<l'.length
   ·obtain ⟨b',off',y,rfl,hb',hy,Hy⟩:=(hr' _ av).at_ h'
    have aJ:y<4294967296:=by rw [Hy.out];exact hd'.at_ i
    obtain ⟨t,Ht⟩:∃ t,Hid (t=v+q*y):=⟨_,rfl⟩
    have hqy:q*y≤q*4294967295:=Nat.mul_le_mul_left q (by omega)
    have htl:t<18446744073709551616:=by rw [Ht.out];omega
    obtain ⟨p,Hp⟩:∃ p,Hid (p=q*y):=⟨_,rfl⟩
    have hmul:(q:Int)*(y:Int)=(p:Int):=by rw [Hp.out];push_cast;rfl
    have hsum:(v:Int)+(p:Int)=(t:Int):=by rw [Ht.out,Hp.out];push_cast;rfl
    have hpl:p≤18446744065119617025:=by rw [Hp.out];omega
    obtain ⟨d,c2,aA,au,aw,ae⟩:=digit_out x t aC
    have Hd:=lH aw
    have ao:=lH au
    have ay:=lH (lent_le hv aJ Ht ae)
    by_cases hlow:x<t % 4294967296
    ·have Hc:=lH (show c2=1 by rw [ae,if_pos hlow])
     clear ae aw au
     go_wp2_with fail
     have ak:=am.set (o+i) d
     have hp:=sub_round (by rw [ai.out];omega) ab ac Hx Hy Ht Hd.out
     rw [ao.out] at ak
     exact ⟨⟨i+1,t / 4294967296+c2,_,by omega,by go_num,by rw [Hc.out];go_num,ay,by rw [List.length_set];exact ai.out,ax.set _ _ aA,ak,one_setCell av _ _,hp.1,hp.2⟩,by simp [intOf];omega⟩
    ·have Hc:=lH (show c2=0 by rw [ae,if_neg hlow])
     have ao:=lH (show (d:Int)=(x:Int) - (t:Int) % 4294967296 by omega)
     clear ae aw au
     go_wp2_with fail
     have ak:=am.set (o+i) d
     have hp:=sub_round (by rw [ai.out];omega) ab ac Hx Hy Ht Hd.out
     rw [ao.out] at ak
     exact ⟨⟨i+1,t / 4294967296+c2,_,by omega,by go_num,by rw [Hc.out];go_num,ay,by rw [List.length_set];exact ai.out,ax.set _ _ aA,ak,one_setCell av _ _,hp.1,hp.2⟩,by simp [intOf];omega⟩
   ·have aD:l'.getD i 0=0:=by rw [List.getD,List.getElem?_eq_none (by omega)];rfl
    have aF:=lH aD.symm
    clear aD
    by_cases hv0:v=0
    ·subst hv0
     have hp:=sub_rest (n:=n) (Nat.le_of_lt h) (by omega) ab ac.out
     have Hp:=lH hp
     clear hp
     go_wp2_with fail
     go_ret
     exact ⟨L2,0,rfl,by omega,ai,ax,am,av,Hp.out.1,Hp.out.2⟩
    ·obtain ⟨t,Ht⟩:∃ t,Hid (t=v+q*0):=⟨_,rfl⟩
     have aH:t=v:=by rw [Ht.out];omega
     have hv1:((v:Int) == 0)=false:=by simp;omega
     subst aH
     obtain ⟨d,c2,aA,au,aw,ae⟩:=digit_out x t aC
     have Hd:=lH aw
     have ao:=lH au
     have ay:=lH (lent_le hv (by omega) Ht ae)
     by_cases hlow:x<t % 4294967296
     ·have Hc:=lH (show c2=1 by rw [ae,if_pos hlow])
      clear ae aw au
      go_wp2_with fail
      have ak:=am.set (o+i) d
      have hp:=sub_round (by rw [ai.out];omega) ab ac Hx aF Ht Hd.out
      rw [ao.out] at ak
      exact ⟨⟨i+1,t / 4294967296+c2,_,by omega,by go_num,by rw [Hc.out];go_num,ay,by rw [List.length_set];exact ai.out,ax.set _ _ aA,ak,one_setCell av _ _,hp.1,hp.2⟩,by simp [intOf];omega⟩
     ·have Hc:=lH (show c2=0 by rw [ae,if_neg hlow])
      have ao:=lH (show (d:Int)=(x:Int) - (t:Int) by omega)
      clear ae aw au
      go_wp2_with fail
      have ak:=am.set (o+i) d
      have hp:=sub_round (by rw [ai.out];omega) ab ac Hx aF Ht Hd.out
      rw [ao.out] at ak
      exact ⟨⟨i+1,t / 4294967296+c2,_,by omega,by go_num,by rw [Hc.out];go_num,ay,by rw [List.length_set];exact ai.out,ax.set _ _ aA,ak,one_setCell av _ _,hp.1,hp.2⟩,by simp [intOf];omega⟩
  ·have aB:i=n:=by omega
   have Hv:=lH ab.out
   have hp:val (seg L2 o n)+q*val l'=val (seg L o n)+pw n*v:=by
    have:=ab.out
    rwa [aB,val_take_all l' n hl'] at this
   have hf:∀ j,j<o∨o+n≤j→L2.getD j 0=L.getD j 0:=by rw [←aB];exact ac.out
   have Hp:=lH hp
   have Hf:=lH hf
   clear hp hf aB
   go_wp2_with fail
   go_ret
   exact ⟨L2,v,rfl,hv,ai,ax,am,av,Hp,Hf⟩
theorem one_u32:(Tryd.prog.info? 22).map (·.size)=some 1:=by kernel_rfl
def valsNat10 (l:List Nat):List Value:=l.map fun x:Nat=>Value.int .u32 (x:Int)
theorem vals_lengthNat10 (l:List Nat):(valsNat10 l).length=l.length:=by simp [valsNat10]
theorem vals_oneNat10 (l:List Nat):∀ v∈valsNat10 l,v.oneCell'=true:=by
 intro v hv
 obtain ⟨x,_,rfl⟩:=List.mem_map.1 hv
 rfl
theorem vals_from {w:World} {B:Nat} {A:Option Addr} {c:Nat} {l:List Nat} (hr:Rd .u32 w B A c l) (h:0<l.length):∃ ad,A=some ad∧∀ j v,(valsNat10 l)[j]?=some v→w.cell? (ad.add j)=some v:=by
 obtain ⟨b,off,rfl,hb,hc⟩:=hr.2.2 h
 refine ⟨_,rfl,fun j v hv=>?_⟩
 have hj:j<l.length:=by
  have:=(List.getElem?_eq_some_iff.1 hv).1
  simpa [valsNat10] using this
 have ha:(⟨b,off,none⟩:Addr).add j=⟨b,off+j,none⟩:=by unfold Addr.add;split <;> simp_all
 rw [ha,hc j hj,←hv]
 simp [valsNat10,List.getD,hj]
theorem splice_whole {α:Type} (L cs:List α) (h:L.length=cs.length):splice L 0 cs=cs:=by
 simp [splice,List.drop_eq_nil_of_le (Nat.le_of_eq h)]
theorem cmp_vals {l l':List Nat} (hd:Dg l) (hd':Dg l'):cmpL (trl l) (trl l')=if val l<val l' then -1 else if val l' < val l then 1 else 0:=by
 rw [cmpL_val (trl_dg hd) (trl_dg hd') (trl_nrm l) (trl_nrm l'),trl_val,trl_val]
theorem sub_no (w:World) (B B':Nat) (A A':Option Addr) (c c':Nat) (l l':List Nat) (hr:Rd .u32 w B A c l) (hr':Rd .u32 w B' A' c' l') (hd:Dg l) (hd':Dg l') (h:val l<val l') :
  Calls Tryd.prog 108 #[.slice A l.length c,.slice A' l'.length c'] w fun e w'=>e = .returned (.tuple #[.slice none 0 0,.bool false])∧∃ q,w'=w.drewN q:=by
 have hc:=cmp_vals hd hd'
 rw [if_pos h] at hc
 go_enter Tryd.func108,Tryd.ntmps108
 go_wp2_with fail
 refine (cmp_any w B B' A A' c c' l l' hr hr' (-1) hc).mono ?_
 rintro e w1 ⟨rfl,q,rfl⟩
 go_wp2_with fail
 go_ret2
 exact ⟨rfl,q,rfl⟩
theorem sub_yes (w:World) (B B':Nat) (A A':Option Addr) (c c':Nat) (l l':List Nat) (hr:Rd .u32 w B A c l) (hr':Rd .u32 w B' A' c' l') (hB:B≤w.heap.size) (hB':B'≤w.heap.size) (hd:Dg l) (hd':Dg l') (hs:l.length≤5000) (hs':l'.length≤5000) (h:¬ val l<val l') :
  Calls Tryd.prog 108 #[.slice A l.length c,.slice A' l'.length c'] w fun e w'=>∃ A2 c2 r,e = .returned (.tuple #[.slice A2 r.length c2,.bool true])∧NumIs r (val l - val l')∧Fresh .u32 22 w' w.heap.size A2 c2 r∧Below w.heap.size w w':=by
 obtain ⟨v,hc,hv⟩:∃ v:Int,cmpL (trl l) (trl l')=v∧¬ v<0:=⟨_,rfl,by rw [cmp_vals hd hd',if_neg h];split <;> omega⟩
 have hlc:l.length≤c:=hr.1
 have hc63:c≤9223372036854775807:=hr.2.1
 have hmk:=make_nat (l.length:Int) l.length rfl (by omega)
 go_enter Tryd.func108,Tryd.ntmps108
 go_wp2_with fail
 refine (cmp_any w B B' A A' c c' l l' hr hr' v hc).mono ?_
 rintro e w1 ⟨rfl,q,rfl⟩
 have ao:=hr.drewN q
 have hrW':=hr'.drewN q
 have ay:Below w.heap.size w (w.drewN q):=below_drewN (Below.refl _ _) q
 have ak:(w.drewN q).heap.size=w.heap.size:=rfl
 clear hr hr'
 generalize w.drewN q=W at *
 have aw:=lH ak
 rw [←ak] at hB hB'
 clear ak
 go_wp2_with fail
 refine (trim_any W B' A' c' l' hrW').mono ?_
 rintro e w1 ⟨rfl,rfl⟩
 rw [←trl_length]
 have aC:Rd .u32 W B' A' c' (trl l'):=hrW'.cut _
 have aD:=trl_dg hd'
 have av:=trl_val l'
 have aE:(trl l').length≤l.length:=by
  rcases Nat.lt_or_ge l.length (trl l').length with h1 | h1
  ·have:=len_less hd (trl_nrm l') h1
   omega
  ·exact h1
 have Hv':=lH av
 clear av hrW' hc
 generalize trl l'=t at *
 have au:=lH (show (W.alloc (.cells (nums .u32 (List.replicate l.length 0)) 22)).heap[W.heap.size]?=some (.cells (valsNat10 (List.replicate l.length 0)).toArray 22 (0,0)) from Holds.fresh W 22 (nums .u32 (List.replicate l.length 0)))
 have ae:Below W.heap.size W (W.alloc (.cells (nums .u32 (List.replicate l.length 0)) 22)):=(Below.refl _ _).alloc (Nat.le_refl _) _
 go_wp2_with (with_reducible refine wpList_copy_splice rfl (.tmp 16) (.tmp 17) _ _ rfl 22 Tryd.underlying24 one_u32 _ _ _ _ _ _ rfl rfl W.heap.size 0 (valsNat10 (List.replicate l.length 0)) _ au.out (valsNat10 l) ?h1 ?h5 ?h2 (vals_oneNat10 l) W.heap.size W ae (Nat.le_refl _) ?h3)
 case h1=>rw [vals_lengthNat10];exact (Nat.min_self _).symm
 case h2=>rw [vals_lengthNat10,vals_lengthNat10];simp
 case h5=>first | exact fun h0=>⟨rfl,vals_from (ao.under (ae.mono hB)) (by rwa [vals_lengthNat10] at h0)⟩ | exact fun h0=>vals_from (ao.under (ae.mono hB)) (by rwa [vals_lengthNat10] at h0)
 intro w2 HG hb2
 rw [splice_whole _ _ (by rw [vals_lengthNat10,vals_lengthNat10];simp)] at HG
 have aA:Row .u32 22 w2 W.heap.size l:=HG.out
 clear HG au
 have hb2':∀ w',w2.grownBy w' (some W.heap.size)→Below W.heap.size W w':=fun w' hg=>hb2.trans (one_below hg (Nat.le_refl _) hb2.size)
 have Hb2':=lH hb2'
 have ax:=lH (show ∀ w',w2.grownBy w' (some W.heap.size)→Rd .u32 w' B' A' c' t from fun w' hg=>aC.under ((hb2' w' hg).mono hB'))
 clear hb2'
 go_wp2_with fail
 refine (subtract_any w2 W.heap.size 0 l.length l.length l aA hd (by omega) (Nat.le_refl _) (by omega) hs A' c' B' t ax aD aE 1 (by omega)).mono ?_
 rintro e w3 ⟨L',ab,rfl,hlent,hL',hdL',am,az,ai,_⟩
 have ac:ab=0∧val L'=val l - val l':=by
  have e1:seg L' 0 l.length=L':=by rw [←hL'];exact seg_whole L'
  rw [e1,seg_whole,Hv'.out] at ai
  have h1:=val_lt hdL'
  rw [hL'] at h1
  rcases Nat.eq_zero_or_pos ab with h2 | h2
  ·subst h2
   exact ⟨rfl,by omega⟩
  ·obtain rfl:ab=1:=by omega
   omega
 have aB:=Hb2'.out _ az
 go_wp2_with fail
 refine (trim_at w3 _ _ l.length l.length L' (rd_whole am (Nat.le_of_eq hL') (by omega)) hL').mono ?_
 rintro e w4 ⟨rfl,rfl⟩
 go_wp2_with fail
 go_ret2
 exact ⟨_,_,trl L',rfl,num_trl hdL' ac.2,fresh_trl am (Nat.le_of_eq aw.out.symm) (Nat.le_of_eq hL') (by omega),ay.trans (by rw [←aw.out];exact aB)⟩
theorem add'_any (w:World) (B B':Nat) (A A':Option Addr) (c c':Nat) (l l':List Nat) (hr:Rd .u32 w B A c l) (hr':Rd .u32 w B' A' c' l') (hB:B≤w.heap.size) (hB':B'≤w.heap.size) (hd:Dg l) (hd':Dg l') (hs:l.length≤5000) (hs':l'.length≤5000) :
  Calls Tryd.prog 23 #[.slice A l.length c,.slice A' l'.length c'] w fun e w'=>∃ A2 c2 r,e = .returned (.slice A2 r.length c2)∧NumIs r (val l+val l')∧Fresh .u32 22 w' w.heap.size A2 c2 r∧Below w.heap.size w w':=by
 have hlc:l.length≤c:=hr.1
 have hc63:c≤9223372036854775807:=hr.2.1
 have hlc':l'.length≤c':=hr'.1
 have hc63':c'≤9223372036854775807:=hr'.2.1
 obtain ⟨m,hm⟩:∃ m,m=max l.length l'.length:=⟨_,rfl⟩
 have aw:l.length≤m:=by omega
 have ay:l'.length≤m:=by omega
 have hm3:m≤5000:=by omega
 have au:max (l.length:Int) (l'.length:Int)=(m:Int):=by omega
 have Hm:=lH hm
 clear hm
 have av:=make_nat ((m:Int)+1) (m+1) (by omega) (by omega)
 go_enter Tryd.func23,Tryd.ntmps23
 go_wp2_with fail
 have ax:Row .u32 22 (w.alloc (.cells (nums .u32 (List.replicate (m+1) 0)) 22)) w.heap.size (List.replicate (m+1) 0):=Holds.fresh _ _ _
 clear av au
 go_loopw [7,8] (fun ov si wr=>∃ (i o:Nat) (L:List Nat),i≤m+1∧si = .int .i64 i∧ov = .int .u64 o∧o≤1∧Row .u32 22 wr w.heap.size L∧L.length=m+1∧Dg L∧Hid (val (L.take i)+pw i*o=val (l.take i)+val (l'.take i))∧Below w.heap.size w wr)
  (fun _ si _=>m+1 - (intOf si).toNat)
 case atStart=>exact ⟨0,0,_,by omega,rfl,rfl,by omega,ax,by simp,Dg.noughts _,by show _=_;simp [val],(Below.refl _ _).alloc (Nat.le_refl _) _⟩
 case round =>
  obtain ⟨i,o,L,hi,rfl,rfl,ho,hR,hL,ak,ai,ab⟩:=hrel
  have hz:=Holds.lt hR
  have HL:=lH hL
  clear hL
  have hfr:=hR.open_
  have ao:=hr.under (ab.mono hB)
  have hrW':=hr'.under (ab.mono hB')
  by_cases h:i<m+1
  ·have hcell:=hR.cell (i:=i) (by rw [HL.out];omega)
   obtain ⟨x,Hx⟩:∃ x,Hid (x=l.getD i 0):=⟨_,rfl⟩
   obtain ⟨y,Hy⟩:∃ y,Hid (y=l'.getD i 0):=⟨_,rfl⟩
   have hxl:x<4294967296:=by rw [Hx.out];exact hd.at_ i
   have hyl:y<4294967296:=by rw [Hy.out];exact hd'.at_ i
   go_wp2_with fail
   refine (digit_any wr B A c l ao hd i (by omega) x Hx.out.symm).mono ?_
   rintro e w1 ⟨rfl,rfl⟩
   go_wp2_with fail
   refine (digit_any wr B' A' c' l' hrW' hd' i (by omega) y Hy.out.symm).mono ?_
   rintro e w1 ⟨rfl,rfl⟩
   go_wp2_with fail
   have am:=hR.set i ((o+x+y) % 4294967296)
   have hv:=add_step (by rw [HL.out];omega) ai Hx Hy.out
   rw [show o+x+y=x+y+o by omega] at am hv
   refine ⟨⟨i+1,(x+y+o) / 4294967296,_,by omega,by go_num,by go_num,by omega,am,by rw [List.length_set];exact HL.out,ak.set _ _ (by omega),hv,ab.setCell (Nat.le_refl _) _⟩,by simp [intOf];omega⟩
  ·have hv:val L=val l+val l':=by
    have h1:=ai.out
    have h2:=val_take_all L i (by rw [HL.out];omega)
    rw [h2,val_take_all l i (by omega),val_take_all l' i (by omega)] at h1
    rcases Nat.eq_zero_or_pos o with h0 | h0
    ·subst h0;omega
    ·exfalso
     have b1:=val_lt hd
     have b2:=val_lt hd'
     have p1:=pw_mono aw
     have p2:=pw_mono ay
     have p3:pw i=4294967296*pw m:=by rw [show i=m+1 by omega,pw_succ]
     obtain rfl:o=1:=by omega
     have:=pw_pos m
     omega
   have ae:L.length=m+1:=HL.out
   have ac:=lH ae
   have Hv:=lH hv
   clear ae hv
   go_wp2_with fail
   refine (trim'_at wr _ _ _ _ L (rd_whole hR (Nat.le_of_eq ac) (by omega)) ac).mono ?_
   rintro e w1 ⟨rfl,rfl⟩
   go_wp2_with fail
   go_ret
   exact ⟨_,_,trl L,rfl,num_trl ak Hv,fresh_trl hR (Nat.le_refl _) (Nat.le_of_eq ac) (by omega),ab⟩
theorem sub'_no (w:World) (B B':Nat) (A A':Option Addr) (c c':Nat) (l l':List Nat) (hr:Rd .u32 w B A c l) (hr':Rd .u32 w B' A' c' l') (hd:Dg l) (hd':Dg l') (hn:nrm l) (hn':nrm l') (h:val l<val l') :
  Calls Tryd.prog 25 #[.slice A l.length c,.slice A' l'.length c'] w fun e w'=>e = .returned (.tuple #[.slice none 0 0,.bool false])∧∃ q,w'=w.drewN q:=by
 have hc:=cmpL_val hd hd' hn hn'
 rw [if_pos h] at hc
 go_enter Tryd.func25,Tryd.ntmps25
 go_wp2_with fail
 refine (cmp'_any w B B' A A' c c' l l' hr hr' (-1) hc).mono ?_
 rintro e w1 ⟨rfl,q,rfl⟩
 go_wp2_with fail
 go_ret2
 exact ⟨rfl,q,rfl⟩
theorem sub'_yes (w:World) (B B':Nat) (A A':Option Addr) (c c':Nat) (l l':List Nat) (hr:Rd .u32 w B A c l) (hr':Rd .u32 w B' A' c' l') (hB:B≤w.heap.size) (hB':B'≤w.heap.size) (hd:Dg l) (hd':Dg l') (hn:nrm l) (hn':nrm l') (hs:l.length≤5000) (hs':l'.length≤5000) (h:¬ val l<val l') :
  Calls Tryd.prog 25 #[.slice A l.length c,.slice A' l'.length c'] w fun e w'=>∃ A2 c2 r,e = .returned (.tuple #[.slice A2 r.length c2,.bool true])∧NumIs r (val l - val l')∧Fresh .u32 22 w' w.heap.size A2 c2 r∧Below w.heap.size w w':=by
 obtain ⟨v,hc,hv⟩:∃ v:Int,cmpL l l'=v∧¬ v<0:=⟨_,rfl,by rw [cmpL_val hd hd' hn hn',if_neg h];split <;> omega⟩
 have hlt:l'.length≤l.length:=by
  rcases Nat.lt_or_ge l.length l'.length with h1 | h1
  ·have:=len_less hd hn' h1
   omega
  ·exact h1
 have hlc:l.length≤c:=hr.1
 have hc63:c≤9223372036854775807:=hr.2.1
 have aD:=make_nat (l.length:Int) l.length rfl (by omega)
 go_enter Tryd.func25,Tryd.ntmps25
 go_wp2_with fail
 refine (cmp'_any w B B' A A' c c' l l' hr hr' v hc).mono ?_
 rintro e w1 ⟨rfl,q,rfl⟩
 have av:=hr.drewN q
 have hrW':=hr'.drewN q
 have ax:Below w.heap.size w (w.drewN q):=below_drewN (Below.refl _ _) q
 have ak:(w.drewN q).heap.size=w.heap.size:=rfl
 clear hr hr' hc
 generalize w.drewN q=W at *
 have au:=lH ak
 rw [←ak] at hB hB'
 clear ak
 go_wp2_with fail
 have aF:Row .u32 22 (W.alloc (.cells (nums .u32 (List.replicate l.length 0)) 22)) W.heap.size (List.replicate l.length 0):=Holds.fresh _ _ _
 clear aD
 go_loopw [7,8] (fun ov si wr=>∃ (i o:Nat) (L:List Nat),i≤l.length∧si = .int .i64 i∧ov = .int .u64 o∧o≤1∧Row .u32 22 wr W.heap.size L∧L.length=l.length∧Dg L∧Hid (val (L.take i)+val (l'.take i)=val (l.take i)+pw i*o)∧Below W.heap.size W wr)
  (fun _ si _=>l.length - (intOf si).toNat)
 case atStart=>exact ⟨0,0,_,by omega,rfl,rfl,by omega,aF,by simp,Dg.noughts _,by show _=_;simp [val],(Below.refl _ _).alloc (Nat.le_refl _) _⟩
 case round =>
  obtain ⟨i,o,L,hi,rfl,rfl,ho,hR,hL,ai,ae,ab⟩:=hrel
  have hz:=Holds.lt hR
  have HL:=lH hL
  clear hL
  have hfr:=hR.open_
  have aE:=av.under (ab.mono hB)
  have hrV':=hrW'.under (ab.mono hB')
  by_cases h:i<l.length
  ·have hcell:=hR.cell (i:=i) (by rw [HL.out];omega)
   obtain ⟨x,Hx⟩:∃ x,Hid (x=l.getD i 0):=⟨_,rfl⟩
   obtain ⟨y,Hy⟩:∃ y,Hid (y=l'.getD i 0):=⟨_,rfl⟩
   have aA:x<4294967296:=by rw [Hx.out];exact hd.at_ i
   have aC:y<4294967296:=by rw [Hy.out];exact hd'.at_ i
   go_wp2_with fail
   refine (digit_any wr B A c l aE hd i (by omega) x Hx.out.symm).mono ?_
   rintro e w1 ⟨rfl,rfl⟩
   go_wp2_with fail
   refine (digit_any wr B' A' c' l' hrV' hd' i (by omega) y Hy.out.symm).mono ?_
   rintro e w1 ⟨rfl,rfl⟩
   go_wp2_with fail
   obtain ⟨d,o1,aB,az,ay,aw,aG⟩:=less_digit x y o aA aC ho
   have ao:=hR.set i d
   rw [ay] at ao
   have hv:=less_step (by rw [HL.out];omega) ae Hx Hy aG
   refine ⟨⟨i+1,o1,_,by omega,by go_num,by rw [aw],az,ao,by rw [List.length_set];exact HL.out,ai.set _ _ aB,hv,ab.setCell (Nat.le_refl _) _⟩,by simp [intOf];omega⟩
  ·have am:val L=val l - val l':=by
    have h1:=ae.out
    have h2:=val_take_all L i (by rw [HL.out];omega)
    rw [h2,val_take_all l i (by omega),val_take_all l' i (by omega)] at h1
    rcases Nat.eq_zero_or_pos o with h0 | h0
    ·subst h0;omega
    ·exfalso
     have b1:=val_lt ai
     rw [HL.out] at b1
     obtain rfl:o=1:=by omega
     obtain rfl:i=l.length:=by omega
     have:=pw_pos l.length
     omega
   have ac:=lH (show L.length=l.length from HL.out)
   have Hv:=lH am
   clear am
   go_wp2_with fail
   refine (trim'_at wr _ _ _ _ L (rd_whole hR (Nat.le_of_eq ac) (by omega)) ac).mono ?_
   rintro e w1 ⟨rfl,rfl⟩
   go_wp2_with fail
   go_ret2
   exact ⟨_,_,trl L,rfl,num_trl ai Hv,fresh_trl hR (Nat.le_of_eq au.out.symm) (Nat.le_of_eq ac) (by omega),ax.trans (by rw [←au.out];exact ab)⟩
theorem mul_any (w:World) (B B':Nat) (A A':Option Addr) (c c':Nat) (l l':List Nat) (hr:Rd .u32 w B A c l) (hr':Rd .u32 w B' A' c' l') (hB:B≤w.heap.size) (hB':B'≤w.heap.size) (hd:Dg l) (hd':Dg l') (hs:l.length≤5000) (hs':l'.length≤5000) :
  Calls Tryd.prog 95 #[.slice A l.length c,.slice A' l'.length c'] w fun e w'=>∃ A2 c2 r,e = .returned (.slice A2 r.length c2)∧NumIs r (val l*val l')∧Fresh .u32 22 w' w.heap.size A2 c2 r∧Below w.heap.size w w':=by
 have hlc:l.length≤c:=hr.1
 have hc63:c≤9223372036854775807:=hr.2.1
 have hlc':l'.length≤c':=hr'.1
 have hc63':c'≤9223372036854775807:=hr'.2.1
 have aD:=make_nat ((l.length:Int)+(l'.length:Int)) (l.length+l'.length) (by omega) (by omega)
 go_enter Tryd.func95,Tryd.ntmps95
 go_wp2_with fail
 have aG:Row .u32 22 (w.alloc (.cells (nums .u32 (List.replicate (l.length+l'.length) 0)) 22)) w.heap.size (List.replicate (l.length+l'.length) 0):=Holds.fresh _ _ _
 clear aD
 go_loopw [19] (fun si wr=>∃ (i:Nat) (L:List Nat),i≤l.length∧si = .int .i64 i∧Row .u32 22 wr w.heap.size L∧L.length=l.length+l'.length∧Dg L∧Hid (val L=val (l.take i)*val l')∧Hid (∀ k,i+l'.length≤k→L.getD k 0=0)∧Below w.heap.size w wr)
  (fun si _=>l.length - (intOf si).toNat)
 case atStart=>exact ⟨0,_,by omega,rfl,aG,by simp,Dg.noughts _,by show _=_;rw [val_noughts];simp [val],fun k _=>getD_noughts _ k,(Below.refl _ _).alloc (Nat.le_refl _) _⟩
 case round =>
  obtain ⟨i,L,hi,rfl,hR,hL,ay,aw,av,am⟩:=hrel
  obtain ⟨wo,rfl⟩:∃ wo:World,wo=wr:=⟨_,rfl⟩
  have hz:=Holds.lt hR
  have HL:=lH hL
  clear hL
  by_cases h:i<l.length
  ·obtain ⟨b,off,x,rfl,hb,hx,Hx⟩:=(hr.under (am.mono hB)).at_ h
   have aB:x<4294967296:=by rw [Hx.out];exact hd.at_ i
   go_wp2_with fail
   go_loopw [8,26] (fun ov sj wr=>∃ (j o:Nat) (L2:List Nat),j≤l'.length∧sj = .int .i64 j∧ov = .int .u64 o∧o<4294967296∧Row .u32 22 wr w.heap.size L2∧L2.length=l.length+l'.length∧Dg L2∧Hid (val L2+pw (i+j)*o=val L+pw i*x*val (l'.take j))∧Hid (∀ k,i+j≤k→L2.getD k 0=L.getD k 0)∧Below w.heap.size w wr)
    (fun _ sj _=>l'.length - (intOf sj).toNat)
   case atStart=>exact ⟨0,0,L,by omega,rfl,rfl,by omega,hR,HL,ay,by show _=_;simp [val],fun _ _=>rfl,am⟩
   case round =>
    obtain ⟨j,o,L2,hj,rfl,rfl,ho,ao,az,ak,ae,ab,ac⟩:=hrel
    have hz2:=Holds.lt ao
    have au:=lH az
    clear az
    have hfr:=ao.open_
    by_cases h':j<l'.length
    ·obtain ⟨b',off',y,rfl,hb',hy,Hy⟩:=(hr'.under (ac.mono hB')).at_ h'
     have aC:y<4294967296:=by rw [Hy.out];exact hd'.at_ j
     have ai:=ao.cell (i:=i+j) (by rw [au.out];omega)
     obtain ⟨z,Hz⟩:∃ z,Hid (z=L2.getD (i+j) 0):=⟨_,rfl⟩
     rw [←Hz.out] at ai
     have aE:z<4294967296:=by rw [Hz.out];exact ak.at_ _
     obtain ⟨t,Ht⟩:∃ t,Hid (t=o+(x*y+z)):=⟨_,rfl⟩
     obtain ⟨htl,aF⟩:=mul_bound ho aB aC aE Ht.out
     obtain ⟨p,Hp⟩:∃ p,Hid (p=x*y):=⟨_,rfl⟩
     have hmul:(x:Int)*(y:Int)=(p:Int):=by rw [Hp.out];push_cast;rfl
     rw [←Hp.out] at aF
     have hij:(i:Int)+(j:Int)<(l.length:Int)+(l'.length:Int):=by omega
     have hsum1:(o:Int)+((p:Int)+(z:Int))=(t:Int):=by rw [Ht.out,Hp.out];push_cast;rfl
     go_wp2_with fail
     have ax:=ao.set (i+j) (t % 4294967296)
     have hv:=mul_step (by rw [au.out];omega) ae Hy Hz Ht.out
     exact ⟨⟨j+1,t / 4294967296,_,by omega,by go_num,by go_num,by omega,ax,by rw [List.length_set];exact au.out,ak.set _ _ (by omega),hv,fun k hk=>by rw [getD_set,if_neg (by omega)];exact ab.out k (by omega),ac.setCell (Nat.le_refl _) _⟩,by simp [intOf];omega⟩
    ·have aA:j=l'.length:=by omega
     have Hj:=lH aA
     clear aA
     have ai:=ao.cell (i:=i+l'.length) (by rw [au.out];omega)
     have hv:=mul_row (o:=o) (l:=l) (by rw [au.out];omega) (by have:=ae.out;rwa [Hj.out,val_take_all l' _ (Nat.le_refl _)] at this) (by rw [ab.out _ (by omega)];exact av.out _ (Nat.le_refl _)) aw Hx.out
     have Hv:=lH hv
     clear hv
     go_wp2_with fail
     have ax:=ao.set (i+l'.length) o
     exact ⟨⟨i+1,_,by omega,by go_num,ax,by rw [List.length_set];exact au.out,ak.set _ _ ho,Hv,fun k hk=>by rw [getD_set,if_neg (by omega),ab.out k (by omega)];exact av.out k (by omega),ac.setCell (Nat.le_refl _) _⟩,by simp [intOf];omega⟩
  ·have hv:val L=val l*val l':=by rw [aw.out,val_take_all l i (by omega)]
   have Hv:=lH hv
   clear hv
   go_wp2_with fail
   refine (trim_at wo _ _ _ _ L (rd_whole hR (Nat.le_of_eq HL) (by omega)) HL).mono ?_
   rintro e w1 ⟨rfl,rfl⟩
   go_wp2_with fail
   go_ret
   exact ⟨_,_,trl L,rfl,num_trl ay Hv,fresh_trl hR (Nat.le_refl _) (Nat.le_of_eq HL) (by omega),am⟩
theorem mul'_any (w:World) (B B':Nat) (A A':Option Addr) (c c':Nat) (l l':List Nat) (hr:Rd .u32 w B A c l) (hr':Rd .u32 w B' A' c' l') (hB:B≤w.heap.size) (hB':B'≤w.heap.size) (hd:Dg l) (hd':Dg l') (hs:l.length≤5000) (hs':l'.length≤5000) :
  Calls Tryd.prog 98 #[.slice A l.length c,.slice A' l'.length c'] w fun e w'=>∃ A2 c2 r,e = .returned (.slice A2 r.length c2)∧NumIs r (val l*val l')∧Fresh .u32 22 w' w.heap.size A2 c2 r∧Below w.heap.size w w':=by
 have hlc:l.length≤c:=hr.1
 have hc63:c≤9223372036854775807:=hr.2.1
 have hlc':l'.length≤c':=hr'.1
 have hc63':c'≤9223372036854775807:=hr'.2.1
 have aC:=make_nat ((l.length:Int)+(l'.length:Int)) (l.length+l'.length) (by omega) (by omega)
 go_enter Tryd.func98,Tryd.ntmps98
 go_wp2_with fail
 have aF:Row .u32 22 (w.alloc (.cells (nums .u32 (List.replicate (l.length+l'.length) 0)) 22)) w.heap.size (List.replicate (l.length+l'.length) 0):=Holds.fresh _ _ _
 clear aC
 go_loopw [6] (fun si wr=>∃ (i:Nat) (L:List Nat),i≤l.length∧si = .int .i64 i∧Row .u32 22 wr w.heap.size L∧L.length=l.length+l'.length∧Dg L∧Hid (val L=val (l.take i)*val l')∧Hid (∀ k,i+l'.length≤k→L.getD k 0=0)∧Below w.heap.size w wr)
  (fun si _=>l.length - (intOf si).toNat)
 case atStart=>exact ⟨0,_,by omega,rfl,aF,by simp,Dg.noughts _,by show _=_;rw [val_noughts];simp [val],fun k _=>getD_noughts _ k,(Below.refl _ _).alloc (Nat.le_refl _) _⟩
 case round =>
  obtain ⟨i,L,hi,rfl,hR,hL,ax,aw,au,av⟩:=hrel
  obtain ⟨wo,rfl⟩:∃ wo:World,wo=wr:=⟨_,rfl⟩
  have hz:=Holds.lt hR
  have HL:=lH hL
  clear hL
  by_cases h:i<l.length
  ·obtain ⟨x,Hx⟩:∃ x,Hid (x=l.getD i 0):=⟨_,rfl⟩
   have aA:x<4294967296:=by rw [Hx.out];exact hd.at_ i
   go_wp2_with fail
   go_loopw [7,8] (fun ov sj wr=>∃ (j o:Nat) (L2:List Nat),j≤l'.length∧sj = .int .i64 j∧ov = .int .u64 o∧o<4294967296∧Row .u32 22 wr w.heap.size L2∧L2.length=l.length+l'.length∧Dg L2∧Hid (val L2+pw (i+j)*o=val L+pw i*x*val (l'.take j))∧Hid (∀ k,i+j≤k→L2.getD k 0=L.getD k 0)∧Below w.heap.size w wr)
    (fun _ sj _=>l'.length - (intOf sj).toNat)
   case atStart=>exact ⟨0,0,L,by omega,rfl,rfl,by omega,hR,HL,ax,by show _=_;simp [val],fun _ _=>rfl,av⟩
   case round =>
    obtain ⟨j,o,L2,hj,rfl,rfl,ho,am,ay,ak,ae,ac,ab⟩:=hrel
    have hz2:=Holds.lt am
    have ao:=lH ay
    clear ay
    have hfr:=am.open_
    by_cases h':j<l'.length
    ·obtain ⟨b',off',y,rfl,hb',hy,Hy⟩:=(hr'.under (ab.mono hB')).at_ h'
     obtain ⟨b,off,x',rfl,hb,hx,Hx'⟩:=(hr.under (ab.mono hB)).at_ h
     obtain rfl:x=x':=by rw [Hx'.out,Hx.out]
     have hin1:(i:Int)<(l.length:Int):=by omega
     have hin2:(j:Int)<(l'.length:Int):=by omega
     have aB:y<4294967296:=by rw [Hy.out];exact hd'.at_ j
     have ai:=am.cell (i:=i+j) (by rw [ao.out];omega)
     obtain ⟨z,Hz⟩:∃ z,Hid (z=L2.getD (i+j) 0):=⟨_,rfl⟩
     rw [←Hz.out] at ai
     have aD:z<4294967296:=by rw [Hz.out];exact ak.at_ _
     obtain ⟨t,Ht⟩:∃ t,Hid (t=o+(x*y+z)):=⟨_,rfl⟩
     obtain ⟨htl,aE⟩:=mul_bound ho aA aB aD Ht.out
     obtain ⟨p,Hp⟩:∃ p,Hid (p=x*y):=⟨_,rfl⟩
     have hmul:(x:Int)*(y:Int)=(p:Int):=by rw [Hp.out];push_cast;rfl
     rw [←Hp.out] at aE
     have hij:(i:Int)+(j:Int)<(l.length:Int)+(l'.length:Int):=by omega
     have hsum1:(z:Int)+(p:Int)+(o:Int)=(t:Int):=by rw [Ht.out,Hp.out];push_cast;omega
     have hpz:p+z≤18446744069414584320:=by omega
     go_wp2_with fail
     go_quiet (fail)
     go_wp2_with fail
     have hv:=mul_step (by rw [ao.out];omega) ae Hy Hz Ht.out
     exact ⟨⟨j+1,t / 4294967296,_,by omega,by go_num,by go_num,by omega,Row.set (Holds.drewN am _) (i+j) (t % 4294967296),by rw [List.length_set];exact ao.out,ak.set _ _ (by omega),hv,fun k hk=>by rw [getD_set,if_neg (by omega)];exact ac.out k (by omega),(below_drewN ab _).setCell (Nat.le_refl _) _⟩,by simp [intOf];omega⟩
    ·have az:j=l'.length:=by omega
     have Hj:=lH az
     clear az
     have ai:=am.cell (i:=i+l'.length) (by rw [ao.out];omega)
     have hv:=mul_row (o:=o) (l:=l) (by rw [ao.out];omega) (by have:=ae.out;rwa [Hj.out,val_take_all l' _ (Nat.le_refl _)] at this) (by rw [ac.out _ (by omega)];exact au.out _ (Nat.le_refl _)) aw Hx.out
     have Hv:=lH hv
     clear hv
     go_wp2_with fail
     have aG:=am.set (i+l'.length) o
     exact ⟨⟨i+1,_,by omega,by go_num,aG,by rw [List.length_set];exact ao.out,ak.set _ _ ho,Hv,fun k hk=>by rw [getD_set,if_neg (by omega),ac.out k (by omega)];exact au.out k (by omega),ab.setCell (Nat.le_refl _) _⟩,by simp [intOf];omega⟩
  ·have hv:val L=val l*val l':=by rw [aw.out,val_take_all l i (by omega)]
   have Hv:=lH hv
   clear hv
   go_wp2_with fail
   refine (trim'_at wo _ _ _ _ L (rd_whole hR (Nat.le_of_eq HL) (by omega)) HL).mono ?_
   rintro e w1 ⟨rfl,rfl⟩
   go_wp2_with fail
   go_ret
   exact ⟨_,_,trl L,rfl,num_trl ax Hv,fresh_trl hR (Nat.le_refl _) (Nat.le_of_eq HL) (by omega),av⟩
theorem num_nil:NumIs [] 0:=⟨fun x hx=>(by cases hx),.inl rfl,rfl⟩
theorem sub_all (w:World) (B B':Nat) (A A':Option Addr) (c c':Nat) (l l':List Nat) (hr:Rd .u32 w B A c l) (hr':Rd .u32 w B' A' c' l') (hB:B≤w.heap.size) (hB':B'≤w.heap.size) (hd:Dg l) (hd':Dg l') (hs:l.length≤5000) (hs':l'.length≤5000) (v:Bool) (hv:decide (val l'≤val l)=v) :
  Calls Tryd.prog 108 #[.slice A l.length c,.slice A' l'.length c'] w fun e w'=>∃ A2 c2 r,e = .returned (.tuple #[.slice A2 r.length c2,.bool v])∧NumIs r (val l - val l')∧Fresh .u32 22 w' w.heap.size A2 c2 r∧Below w.heap.size w w':=by
 by_cases h:val l<val l'
 ·obtain rfl:v=false:=by rw [←hv];simp;omega
  refine (sub_no w B B' A A' c c' l l' hr hr' hd hd' h).mono ?_
  rintro e w' ⟨rfl,q,rfl⟩
  exact ⟨none,0,[],rfl,by rw [Nat.sub_eq_zero_of_le (Nat.le_of_lt h)];exact num_nil,fresh_nil _ _ _ _,below_drewN (Below.refl _ _) q⟩
 ·obtain rfl:v=true:=by rw [←hv];simp;omega
  exact sub_yes w B B' A A' c c' l l' hr hr' hB hB' hd hd' hs hs' h
theorem sub'_all (w:World) (B B':Nat) (A A':Option Addr) (c c':Nat) (l l':List Nat) (hr:Rd .u32 w B A c l) (hr':Rd .u32 w B' A' c' l') (hB:B≤w.heap.size) (hB':B'≤w.heap.size) (hd:Dg l) (hd':Dg l') (hn:nrm l) (hn':nrm l') (hs:l.length≤5000) (hs':l'.length≤5000) (v:Bool) (hv:decide (val l'≤val l)=v) :
  Calls Tryd.prog 25 #[.slice A l.length c,.slice A' l'.length c'] w fun e w'=>∃ A2 c2 r,e = .returned (.tuple #[.slice A2 r.length c2,.bool v])∧NumIs r (val l - val l')∧Fresh .u32 22 w' w.heap.size A2 c2 r∧Below w.heap.size w w':=by
 by_cases h:val l<val l'
 ·obtain rfl:v=false:=by rw [←hv];simp;omega
  refine (sub'_no w B B' A A' c c' l l' hr hr' hd hd' hn hn' h).mono ?_
  rintro e w' ⟨rfl,q,rfl⟩
  exact ⟨none,0,[],rfl,by rw [Nat.sub_eq_zero_of_le (Nat.le_of_lt h)];exact num_nil,fresh_nil _ _ _ _,below_drewN (Below.refl _ _) q⟩
 ·obtain rfl:v=true:=by rw [←hv];simp;omega
  exact sub'_yes w B B' A A' c c' l l' hr hr' hB hB' hd hd' hn hn' hs hs' h
theorem rd_drawn {k:IntKind} {w:World} {A:Option Addr} {c:Nat} {l:List Nat} (h:Rd k w w.heap.size A c l) (n:Nat):Rd k (w.drewN n) (w.drewN n).heap.size A c l:=h
theorem rd_next {k:IntKind} {w w':World} {B:Nat} {A:Option Addr} {c:Nat} {l:List Nat} (h:Rd k w B A c l) (hB:B≤w.heap.size) (hb:Below w.heap.size w w'):Rd k w' w'.heap.size A c l:=((h.more hB).under hb).more hb.size
theorem sum_lt {l l':List Nat} (hd:Dg l) (hd':Dg l') {n:Nat} (h:l.length≤n) (h':l'.length≤n):val l+val l' < pw (n+1):=by
 have h1:=val_lt hd
 have h2:=val_lt hd'
 have h3:=pw_mono h
 have h4:=pw_mono h'
 rw [pw_succ]
 omega
theorem prod_lt {l l':List Nat} (hd:Dg l) (hd':Dg l') {n:Nat} (h:l.length≤n) (h':l'.length≤n):val l*val l' < pw (n+n):=by
 have h1:=val_lt hd
 have h2:=val_lt hd'
 have h3:=pw_mono h
 have h4:=pw_mono h'
 rw [pw_add]
 exact Nat.mul_lt_mul'' (by omega) (by omega)
theorem lead_any (n:Nat) (w:World) (hn:n<4294967296):Calls Tryd.prog 87 #[.int .u32 n] w fun e w'=>e = .returned (.int .i64 ((32 - Lib.bitLen n:Nat):Int))∧w=w':=by
 have hb:=Lib.bitLen_le n 32 (by omega) (by omega)
 go_enter Tryd.func87,Tryd.ntmps87
 go_wp2_with fail
 refine (len32_any n _ hn).mono ?_
 rintro e w1 ⟨rfl,rfl⟩
 obtain ⟨y,Hy⟩:∃ y,Hid (y=Lib.bitLen n):=⟨_,rfl⟩
 rw [←Hy.out] at hb ⊢
 go_wp2_with fail
 go_ret
 exact ⟨by rw [←Hy.out];exact congrArg Ending.returned (congrArg (Value.int IntKind.i64) (by omega)),rfl⟩
theorem or_u64 (v x:Nat) (hv:v<4294967296) (hx:x<4294967296):bits .or .u64 ((v:Int)*4294967296) (x:Int)=((v*4294967296+x:Nat):Int):=by
 have:=u64_or_nat (v*4294967296) x (by omega) (by omega)
 rw [or_low v x hx] at this
 rw [←this,Int.natCast_mul]
 rfl
theorem u64_in (n:Int) (h0:0≤n) (h1:n<18446744073709551616):IntKind.u64.wrap n=n:=by
 rw [show IntKind.u64.wrap n=n % 18446744073709551616 by simp [IntKind.wrap,IntKind.bits,IntKind.signed]]
 omega
theorem one_digit (x:Nat) (hx:x<4294967296):NumIs (trl [x]) x:=num_trl (fun y hy=>by simp at hy;omega) (by simp [val])
theorem short_any (w:World) (B:Nat) (A:Option Addr) (c:Nat) (l:List Nat) (hr:Rd .u32 w B A c l) (hB:B≤w.heap.size) (hd:Dg l) (hs:l.length≤5000) (b:Nat) (hb0:0<b) (hb:b<4294967296) :
  Calls Tryd.prog 86 #[.slice A l.length c,.int .u32 b] w fun e w'=>∃ A2 c2 q A3 c3 r,e = .returned (.tuple #[.slice A2 q.length c2,.slice A3 r.length c3])∧NumIs q (val l / b)∧NumIs r (val l % b)∧Fresh .u32 22 w' w.heap.size A2 c2 q∧Fresh .u32 22 w' w.heap.size A3 c3 r∧Below w.heap.size w w':=by
 have hlc:l.length≤c:=hr.1
 have hc63:c≤9223372036854775807:=hr.2.1
 have ax:=make_nat (l.length:Int) l.length rfl (by omega)
 go_enter Tryd.func86,Tryd.ntmps86
 go_wp2_with fail
 have az:Row .u32 22 (w.alloc (.cells (nums .u32 (List.replicate l.length 0)) 22)) w.heap.size (List.replicate l.length 0):=Holds.fresh _ _ _
 clear ax
 go_loopw [6,7] (fun sv si wr=>∃ (i v:Nat) (L:List Nat),i≤l.length∧si = .int .i64 ((i:Int) - 1)∧sv = .int .u64 v∧v<b∧Row .u32 22 wr w.heap.size L∧L.length=l.length∧Dg L∧Hid (val (L.drop i)*b+v=val (l.drop i))∧Below w.heap.size w wr)
  (fun _ si _=>(intOf si+1).toNat)
 case atStart=>exact ⟨l.length,0,_,Nat.le_refl _,rfl,rfl,hb0,az,by simp,Dg.noughts _,by show _=_;simp [val],(Below.refl _ _).alloc (Nat.le_refl _) _⟩
 case round =>
  obtain ⟨i,v,L,hi,rfl,rfl,hv,hR,hL,ao,ai,ab⟩:=hrel
  have hz:=Holds.lt hR
  have HL:=lH hL
  clear hL
  have hfr:=hR.open_
  rcases i with _ | m
  ·have ae:val L*b+v=val l:=ai.out
   have Hq:=lH (show val L=val l / b by
    rw [←ae,Nat.mul_comm,Nat.mul_add_div (by omega),Nat.div_eq_of_lt hv,Nat.add_zero])
   have Hm:=lH (show v=val l % b by
    rw [←ae,Nat.mul_comm,Nat.mul_add_mod,Nat.mod_eq_of_lt hv])
   clear ae
   go_wp2_with fail
   refine (trim_at wr _ _ l.length l.length L (rd_whole hR (Nat.le_of_eq HL) (by omega)) HL).mono ?_
   rintro e w1 ⟨rfl,rfl⟩
   go_wp2_with fail
   have hT:Row .u32 22 (wr.alloc (.cells #[.int .u32 v] 22)) wr.heap.size [v]:=Holds.fresh _ _ _
   refine (trim_at _ _ _ 1 1 [v] (rd_whole hT (by simp) (by omega)) rfl).mono ?_
   rintro e w1 ⟨rfl,rfl⟩
   go_wp2_with fail
   go_ret2
   refine ⟨_,_,trl L,_,_,trl [v],rfl,num_trl ao Hq,by rw [←Hm.out];exact one_digit v (by omega),fresh_trl (Holds.alloc hR _) (Nat.le_refl _) (Nat.le_of_eq HL) (by omega),fresh_trl hT (by omega) (by simp) (by omega),ab.alloc ab.size _⟩
  ·rw [show (((m+1:Nat):Int) - 1)=(m:Int) from by omega]
   obtain ⟨bb,off,x,rfl,hbb,hx,Hx⟩:=(hr.under (ab.mono hB)).at_ (i:=m) (by omega)
   have au:x<4294967296:=by rw [Hx.out];exact hd.at_ m
   have hcell:=hR.cell (i:=m) (by rw [HL.out];omega)
   have av:=or_u64 v x (by omega) au
   have ac:=short_fit hv au
   have ak:=short_step (by rw [HL.out];omega) (by omega) ai Hx (m:=m)
   have am:=lH ak
   clear ak
   obtain ⟨t,Ht⟩:∃ t,Hid (t=v*4294967296+x):=⟨_,rfl⟩
   rw [←Ht.out] at av ac am
   have htl:t<18446744073709551616:=by rw [Ht.out];omega
   have hbi:((b:Int) == 0)=false:=by simp;omega
   obtain ⟨d,Hd⟩:∃ d,Hid (d=t / b):=⟨_,rfl⟩
   obtain ⟨z,Hz⟩:∃ z,Hid (z=t % b):=⟨_,rfl⟩
   have ay:z<b:=by rw [Hz.out];exact Nat.mod_lt _ hb0
   have hw1:IntKind.u64.wrap ((t:Int) / (b:Int))=(d:Int):=by
    have e:((t:Int) / (b:Int))=(d:Int):=by rw [Hd.out];rfl
    rw [e]
    exact u64_in _ (by omega) (by rw [←Hd.out] at ac;omega)
   have aw:=lH (show (t:Int) % (b:Int)=(z:Int) by rw [Hz.out];rfl)
   rw [←Hd.out] at ac am
   rw [←Hz.out] at am
   go_wp2_with fail
   have aA:=hR.set m d
   exact ⟨⟨m,z,_,by omega,rfl,congrArg (Value.int IntKind.u64) aw,ay,aA,by rw [List.length_set];exact HL.out,ao.set _ _ ac,am,ab.setCell (Nat.le_refl _) _⟩,by simp [intOf]⟩
theorem or_u64' (o x s:Nat) (ho:o<2 ^ s) (hx:x<4294967296) (hs:s<32):bits .or .u64 (o:Int) (IntKind.u64.wrap ((x:Int)*2 ^ s))=((x*2 ^ s+o:Nat):Int):=by
 have h2:2 ^ s≤2 ^ 31:=Nat.pow_le_pow_right (by omega) (by omega)
 have h1:x*2 ^ s≤4294967295*2 ^ s:=Nat.mul_le_mul_right _ (by omega)
 have:=u64_or_nat o (x*2 ^ s) (by omega) (by omega)
 rw [or_shift x s o ho] at this
 have e:((x:Int)*2 ^ s)=((x*2 ^ s:Nat):Int):=by rw [Int.natCast_mul,Int.natCast_pow];rfl
 rw [e,u64_in _ (by omega) (by omega)]
 exact this
theorem shifted_any (w:World) (B:Nat) (A:Option Addr) (c:Nat) (l:List Nat) (hr:Rd .u32 w B A c l) (hB:B≤w.heap.size) (hd:Dg l) (hls:l.length≤5000) (s:Nat) (hs:s<32) :
  Calls Tryd.prog 88 #[.slice A l.length c,.int .i64 s] w fun e w'=>∃ L,e = .returned (.slice (some ⟨w.heap.size,0,none⟩) (l.length+1) (l.length+1))∧L.length=l.length+1∧Dg L∧val L=val l*2 ^ s∧Row .u32 22 w' w.heap.size L∧Below w.heap.size w w':=by
 have hlc:l.length≤c:=hr.1
 have hc63:c≤9223372036854775807:=hr.2.1
 have hmk:=make_nat ((l.length:Int)+1) (l.length+1) (by omega) (by omega)
 go_enter Tryd.func88,Tryd.ntmps88
 go_wp2_with fail
 have hR0:Row .u32 22 (w.alloc (.cells (nums .u32 (List.replicate (l.length+1) 0)) 22)) w.heap.size (List.replicate (l.length+1) 0):=Holds.fresh _ _ _
 clear hmk
 go_loopw [6,15] (fun ov si wr=>∃ (i o:Nat) (L:List Nat),i≤l.length∧si = .int .i64 i∧ov = .int .u64 o∧o<4294967296∧Hid (o<2 ^ s)∧Row .u32 22 wr w.heap.size L∧L.length=l.length+1∧Dg L∧Hid (val (L.take i)+pw i*o=val (l.take i)*2 ^ s)∧Below w.heap.size w wr)
  (fun _ si _=>l.length - (intOf si).toNat)
 case atStart=>exact ⟨0,0,_,by omega,rfl,rfl,by omega,Nat.pow_pos (by omega),hR0,by simp,Dg.noughts _,by show _=_;simp [val],(Below.refl _ _).alloc (Nat.le_refl _) _⟩
 case round =>
  obtain ⟨i,o,L,hi,rfl,rfl,ho,Ho,hR,hL,hdL,Hval,hbel⟩:=hrel
  have hz:=Holds.lt hR
  have HL:=lH hL
  clear hL
  have hfr:=hR.open_
  by_cases h:i<l.length
  ·obtain ⟨b,off,x,rfl,hb,hx,Hx⟩:=(hr.under (hbel.mono hB)).at_ h
   have hxl:x<4294967296:=by rw [Hx.out];exact hd.at_ i
   have hcell:=hR.cell (i:=i) (by rw [HL.out];omega)
   have hor:=or_u64' o x s Ho hxl hs
   obtain ⟨t,Ht⟩:∃ t,Hid (t=x*2 ^ s+o):=⟨_,rfl⟩
   obtain ⟨hf1,hf2⟩:=shl_fit hxl hs Ho.out
   rw [←Ht.out] at hor hf1 hf2
   have Hf2:=lH hf2
   clear hf2
   have hsi:(s:Int)<64:=by omega
   go_wp2_with fail
   have hst:=hR.set i (t % 4294967296)
   have hv:=shl_step (by rw [HL.out];omega) Hval Hx Ht.out
   exact ⟨⟨i+1,t / 4294967296,_,by omega,by go_num,by go_num,by omega,Hf2,hst,by rw [List.length_set];exact HL.out,hdL.set _ _ (by omega),hv,hbel.setCell (Nat.le_refl _) _⟩,by simp [intOf];omega⟩
  ·have Hi:=lH (show i=l.length by omega)
   have hcell:=hR.cell (i:=l.length) (by rw [HL.out];omega)
   have Hlen:=lH (show (L.set l.length o).length=l.length+1 by rw [List.length_set];exact HL.out)
   have Hdg:=lH (hdL.set l.length o ho)
   have Hv:=lH (show val (L.set l.length o)=val l*2 ^ s by
    have h1:=take_set_succ L l.length o (by rw [HL.out];omega)
    rw [val_take_all _ _ (by rw [List.length_set,HL.out];omega)] at h1
    have h2:=Hval.out
    rw [Hi.out,val_take_all l _ (Nat.le_refl _)] at h2
    rw [h1,h2])
   go_wp2_with fail
   have hst:=hR.set l.length o
   go_ret
   exact ⟨_,rfl,Hlen,Hdg,Hv,hst,hbel.setCell (Nat.le_refl _) _⟩
theorem or_u64'' (h x:Nat) (hh:h<4294967296) (hx:x<4294967296):bits .or .u64 ((h:Int)*4294967296) (x:Int)=((h*4294967296+x:Nat):Int):=or_u64 h x hh hx
theorem back_any (w:World) (g n c:Nat) (L:List Nat) (hR:Row .u32 22 w g L) (hn:L.length=n) (hnc:n≤c) (hc63:c≤9223372036854775807) (hd:Dg L) (hls:n≤6000) (s:Nat) (hs:s<32) :
  Calls Tryd.prog 90 #[.slice (some ⟨g,0,none⟩) n c,.int .i64 s] w fun e w'=>∃ L',e = .returned (.slice (some ⟨g,0,none⟩) (trl L').length c)∧L'.length=n∧Dg L'∧val L'=val L / 2 ^ s∧Row .u32 22 w' g L'∧w.grownBy w' (some g):=by
 go_enter Tryd.func90,Tryd.ntmps90
 go_wp2_with fail
 go_loopw [5,6] (fun ov si wr=>∃ (i h:Nat) (L2:List Nat),i≤n∧si = .int .i64 ((i:Int) - 1)∧ov = .int .u64 ((h:Int)*4294967296)∧h<4294967296∧L2.length=n∧Dg L2∧Row .u32 22 wr g L2∧w.grownBy wr (some g) ∧
   Hid (h=val (L.drop i) % 4294967296)∧Hid (val (L2.drop i)=val (L.drop i) / 2 ^ s)∧Hid (∀ j,j<i→L2.getD j 0=L.getD j 0))
  (fun _ si _=>(intOf si+1).toNat)
 case atStart=>exact ⟨n,0,L,Nat.le_refl _,rfl,rfl,by omega,hn,hd,hR,World.grownBy.refl w _,by show _=_;rw [val_drop_all _ (Nat.le_of_eq hn)],by show _=_;rw [val_drop_all _ (Nat.le_of_eq hn)];simp,fun _ _=>rfl⟩
 case round =>
  obtain ⟨i,h,L2,hi,rfl,rfl,hh,ax,av,ae,aw,Hh,ai,ac⟩:=hrel
  have ab:=lH ax
  clear ax
  have hfr:=ae.open_
  rcases i with _ | m
  ·go_wp2_with fail
   refine (trim_at wr _ _ c n L2 (rd_whole ae (by rw [ab.out];exact hnc) hc63) ab).mono ?_
   rintro e w1 ⟨rfl,rfl⟩
   go_wp2_with fail
   go_ret
   exact ⟨L2,rfl,ab,av,ai,ae,aw⟩
  ·rw [show (((m+1:Nat):Int) - 1)=(m:Int) from by omega]
   have ak:=ae.cell (i:=m) (by rw [ab.out];omega)
   obtain ⟨x,Hx⟩:∃ x,Hid (x=L2.getD m 0):=⟨_,rfl⟩
   rw [←Hx.out] at ak
   have am:x<4294967296:=by rw [Hx.out];exact av.at_ m
   have az:=or_u64'' h x hh am
   obtain ⟨t,Ht⟩:∃ t,Hid (t=h*4294967296+x):=⟨_,rfl⟩
   rw [←Ht.out] at az
   have htl:t<18446744073709551616:=by rw [Ht.out];omega
   have hsi:(s:Int)<64:=by omega
   have Hw:=lH (show IntKind.u64.wrap ((t:Int)*4294967296)=(x:Int)*4294967296 by
    rw [show IntKind.u64.wrap ((t:Int)*4294967296)=((t:Int)*4294967296) % 18446744073709551616 by simp [IntKind.wrap,IntKind.bits,IntKind.signed]]
    have:=Ht.out
    omega)
   have ao:L.getD m 0=x:=by rw [Hx.out,ac.out m (by omega)]
   have au:=back_step x h (val (L.drop (m+1))) s hs am Hh.out
   rw [←Ht.out] at au
   have aA:=lH (show val ((L2.set m (t / 2 ^ s % 4294967296)).drop m)=val (L.drop m) / 2 ^ s by
    rw [val_drop_set _ (by rw [ab.out];omega),ai,val_drop L (i:=m) (by omega),ao]
    exact au)
   have aB:=lH (show x=val (L.drop m) % 4294967296 by
    rw [val_drop L (i:=m) (by omega),ao]
    omega)
   clear au ao
   go_wp2_with fail
   have ay:=ae.set m (t / 2 ^ s % 4294967296)
   rw [Int.natCast_emod,Int.natCast_ediv,Int.natCast_pow] at ay
   exact ⟨⟨m,x,_,by omega,rfl,congrArg (Value.int IntKind.u64) Hw,am,by rw [List.length_set];exact ab.out,av.set _ _ (Nat.mod_lt _ (by omega)),ay,one_setCell aw _ _,aB,aA,fun j hj=>by rw [getD_set,if_neg (by omega)];exact ac.out j (by omega)⟩,by simp [intOf]⟩
end Go.Proofs.YtflfdglpljodbaaDoor
