/-
  The document's own division: by one digit. The document's own division: shifting. The document's own division: shifting back.
-/
import Derived.Test.YtflfdglpljodbaaDoorGNat18
import Derived.StillTailTactics
import Derived.IntWalk
set_option maxRecDepth 100000
set_option linter.unusedVariables false
set_option linter.unusedSimpArgs false
namespace Go.Proofs.YtflfdglpljodbaaDoor
open Go.RowKit
theorem short'_any (w:World) (B:Nat) (A:Option Addr) (c:Nat) (l:List Nat) (hr:Rd .u32 w B A c l) (hB:B≤w.heap.size) (hd:Dg l) (hs:l.length≤5000) (b:Nat) (hb0:0<b) (hb:b<4294967296) :
  Calls Tryd.prog 103 #[.slice A l.length c,.int .u64 b] w (Divided w (val l) b):=by
 have hlc:l.length≤c:=hr.1
 have hc63:c≤9223372036854775807:=hr.2.1
 have ax:=make_nat (l.length:Int) l.length rfl (by omega)
 go_enter Tryd.func103,Tryd.ntmps103
 go_wp2_with fail
 have az:Row .u32 22 (w.alloc (.cells (nums .u32 (List.replicate l.length 0)) 22)) w.heap.size (List.replicate l.length 0):=Holds.fresh _ _ _
 clear ax
 go_loopw [8,9] (fun sv si wr=>∃ (i v:Nat) (L:List Nat),i≤l.length∧si = .int .i64 ((i:Int) - 1)∧sv = .int .u64 v∧v<b∧Row .u32 22 wr w.heap.size L∧L.length=l.length∧Dg L∧Hid (val (L.drop i)*b+v=val (l.drop i))∧Below w.heap.size w wr)
  (fun _ si _=>(intOf si+1).toNat)
 case atStart=>exact ⟨l.length,0,_,Nat.le_refl _,rfl,rfl,hb0,az,by simp,Dg.noughts _,by show _=_;simp [val],(Below.refl _ _).alloc (Nat.le_refl _) _⟩
 case round =>
  obtain ⟨i,v,L,hi,rfl,rfl,hv,hR,hL,ao,ai,ab⟩:=hrel
  have hz:=Holds.lt hR
  have HL:=lH hL
  clear hL
  have hfr:=hR.open_
  rcases i with _ | m
  ·have ae:val L*b+v=val l:=ai.out
   have Hq:=lH (show val L=val l / b by
    rw [←ae,Nat.mul_comm,Nat.mul_add_div (by omega),Nat.div_eq_of_lt hv,Nat.add_zero])
   have Hm:=lH (show v=val l % b by
    rw [←ae,Nat.mul_comm,Nat.mul_add_mod,Nat.mod_eq_of_lt hv])
   clear ae
   go_wp2_with fail
   refine (trim'_at wr _ _ l.length l.length L (rd_whole hR (Nat.le_of_eq HL) (by omega)) HL).mono ?_
   rintro e w1 ⟨rfl,rfl⟩
   go_wp2_with fail
   have hT:Row .u32 22 (wr.alloc (.cells #[.int .u32 v] 22)) wr.heap.size [v]:=Holds.fresh _ _ _
   refine (trim'_at _ _ _ 1 1 [v] (rd_whole hT (by simp) (by omega)) rfl).mono ?_
   rintro e w1 ⟨rfl,rfl⟩
   go_wp2_with fail
   go_ret3
   refine ⟨_,_,trl L,_,_,trl [v],rfl,num_trl ao Hq,by rw [←Hm.out];exact one_digit v (by omega),fresh_trl (Holds.alloc hR _) (Nat.le_refl _) (Nat.le_of_eq HL) (by omega),fresh_trl hT (by omega) (by simp) (by omega),ab.alloc ab.size _⟩
  ·rw [show (((m+1:Nat):Int) - 1)=(m:Int) from by omega]
   obtain ⟨bb,off,x,rfl,hbb,hx,Hx⟩:=(hr.under (ab.mono hB)).at_ (i:=m) (by omega)
   have au:x<4294967296:=by rw [Hx.out];exact hd.at_ m
   have hcell:=hR.cell (i:=m) (by rw [HL.out];omega)
   have av:=or_u64 v x (by omega) au
   have ac:=short_fit hv au
   have ak:=short_step (by rw [HL.out];omega) (by omega) ai Hx (m:=m)
   have am:=lH ak
   clear ak
   obtain ⟨t,Ht⟩:∃ t,Hid (t=v*4294967296+x):=⟨_,rfl⟩
   rw [←Ht.out] at av ac am
   have htl:t<18446744073709551616:=by rw [Ht.out];omega
   have hbi:((b:Int) == 0)=false:=by simp;omega
   obtain ⟨d,Hd⟩:∃ d,Hid (d=t / b):=⟨_,rfl⟩
   obtain ⟨z,Hz⟩:∃ z,Hid (z=t % b):=⟨_,rfl⟩
   have ay:z<b:=by rw [Hz.out];exact Nat.mod_lt _ hb0
   have hw1:IntKind.u64.wrap ((t:Int) / (b:Int))=(d:Int):=by
    have e:((t:Int) / (b:Int))=(d:Int):=by rw [Hd.out];rfl
    rw [e]
    exact u64_in _ (by omega) (by rw [←Hd.out] at ac;omega)
   have aw:=lH (show (t:Int) % (b:Int)=(z:Int) by rw [Hz.out];rfl)
   rw [←Hd.out] at ac am
   rw [←Hz.out] at am
   go_wp2_with fail
   have aA:=hR.set m d
   exact ⟨⟨m,z,_,by omega,rfl,congrArg (Value.int IntKind.u64) aw,ay,aA,by rw [List.length_set];exact HL.out,ao.set _ _ ac,am,ab.setCell (Nat.le_refl _) _⟩,by simp [intOf]⟩
theorem shl_or {x o s:Nat} (hx:x<4294967296) (hs:s<32) (ho:o<2 ^ s):(o ||| (x*2 ^ s % 4294967296))=(x*2 ^ s+o) % 4294967296∧x*2 ^ s / 4294967296=(x*2 ^ s+o) / 4294967296:=by
 have e:4294967296=2 ^ s*2 ^ (32 - s):=by rw [←Nat.pow_add,show s+(32 - s)=32 by omega]
 have h1:x*2 ^ s % 4294967296=x % 2 ^ (32 - s)*2 ^ s:=by
  rw [e,Nat.mul_comm x,Nat.mul_mod_mul_left,Nat.mul_comm]
 have hp:0<2 ^ (32 - s):=Nat.pow_pos (by omega)
 have hd:=Nat.mod_add_div x (2 ^ (32 - s))
 have hl:=Nat.mod_lt x hp
 rw [h1,or_shift _ s o ho]
 generalize x % 2 ^ (32 - s)=y at *
 generalize x / 2 ^ (32 - s)=z at *
 have h2:x*2 ^ s=y*2 ^ s+4294967296*z:=by
  rw [←hd,Nat.add_mul,e]
  congr 1
  rw [Nat.mul_comm (2 ^ (32 - s)*z),Nat.mul_assoc]
 have h3:(y+1)*2 ^ s≤2 ^ (32 - s)*2 ^ s:=Nat.mul_le_mul_right _ hl
 rw [Nat.mul_comm (2 ^ (32 - s)),←e,Nat.add_mul] at h3
 rw [h2]
 omega
theorem shifted'_any (w:World) (B:Nat) (A:Option Addr) (c n:Nat) (l:List Nat) (hn:l.length=n) (hr:Rd .u32 w B A c l) (hB:B≤w.heap.size) (hd:Dg l) (hls:n≤5000) (s:Nat) (hs:s<32) :
  Calls Tryd.prog 104 #[.slice A n c,.int .u64 s] w fun e w'=>∃ L,e = .returned (.slice (some ⟨w.heap.size,0,none⟩) (n+1) (n+1))∧L.length=n+1∧Dg L∧val L=val l*2 ^ s∧Row .u32 22 w' w.heap.size L∧Below w.heap.size w w':=by
 subst hn
 have hlc:l.length≤c:=hr.1
 have hc63:c≤9223372036854775807:=hr.2.1
 have ay:=make_nat ((l.length:Int)+1) (l.length+1) (by omega) (by omega)
 go_enter Tryd.func104,Tryd.ntmps104
 go_wp2_with fail
 have az:Row .u32 22 (w.alloc (.cells (nums .u32 (List.replicate (l.length+1) 0)) 22)) w.heap.size (List.replicate (l.length+1) 0):=Holds.fresh _ _ _
 clear ay
 go_loopw [6] (fun si wr=>∃ (i o:Nat) (L:List Nat),i≤l.length∧si = .int .i64 i∧o<4294967296∧Hid (o<2 ^ s)∧Hid (L.getD i 0=o)∧Row .u32 22 wr w.heap.size L∧L.length=l.length+1∧Dg L∧Hid (val (L.take i)+pw i*o=val (l.take i)*2 ^ s)∧Below w.heap.size w wr)
  (fun si _=>l.length - (intOf si).toNat)
 case atStart=>exact ⟨0,0,_,by omega,rfl,by omega,Nat.pow_pos (by omega),getD_noughts _ _,az,by simp,Dg.noughts _,by show _=_;simp [val],(Below.refl _ _).alloc (Nat.le_refl _) _⟩
 case round =>
  obtain ⟨i,o,L,hi,rfl,ho,Ho,aw,hR,hL,am,ae,ac⟩:=hrel
  have hz:=Holds.lt hR
  have HL:=lH hL
  clear hL
  have hfr:=hR.open_
  by_cases h:i<l.length
  ·obtain ⟨b,off,x,rfl,hb,hx,Hx⟩:=(hr.under (ac.mono hB)).at_ h
   have ao:x<4294967296:=by rw [Hx.out];exact hd.at_ i
   have ai:=hR.cell (i:=i) (by rw [HL.out];omega)
   rw [aw.out] at ai
   have hcell2:=hR.cell (i:=i+1) (by rw [HL.out];omega)
   obtain ⟨X,HX⟩:∃ X,Hid (X=x*2 ^ s):=⟨_,rfl⟩
   have ak:=shl_or ao hs Ho.out
   obtain ⟨aA,ax⟩:=shl_fit ao hs Ho.out
   have av:=lH ax
   have hXl:X<18446744073709551616:=by rw [HX.out];omega
   have hw:IntKind.u64.wrap ((x:Int)*2 ^ s)=(X:Int):=by
    have e:((x:Int)*2 ^ s)=(X:Int):=by rw [HX.out,Int.natCast_mul,Int.natCast_pow];rfl
    rw [e,u64_in _ (by omega) (by omega)]
   obtain ⟨d,Hd⟩:∃ d,Hid (d=(x*2 ^ s+o) % 4294967296):=⟨_,rfl⟩
   obtain ⟨u,Hu⟩:∃ u,Hid (u=(x*2 ^ s+o) / 4294967296):=⟨_,rfl⟩
   have aB:d<4294967296:=by rw [Hd.out];omega
   have au:u<4294967296:=by rw [Hu.out];omega
   have hor:bits .or .u32 (o:Int) ((X:Int) % 4294967296)=(d:Int):=by
    have h1:=u32_or_nat o (X % 4294967296) ho (by omega)
    rw [HX.out,ak.1,←Hd.out,←HX.out] at h1
    exact h1
   have hXu:(X:Int) / 4294967296=(u:Int):=by
    have h1:=ak.2
    rw [←Hu.out,←HX.out] at h1
    omega
   have hsi:(s:Int)<64:=by omega
   have ab:=lH (shl_step (t:=x*2 ^ s+o) (by rw [HL.out];omega) ae Hx rfl)
   rw [←Hd.out,←Hu.out] at ab
   rw [←Hu.out] at av
   clear ak aA ax
   go_wp2_with fail
   have aC:=(hR.set i d).set (i+1) u
   exact ⟨⟨i+1,u,_,by omega,by go_num,au,av,by show _=_;rw [getD_set,if_pos ⟨rfl,by rw [List.length_set,HL.out];omega⟩],aC,by rw [List.length_set,List.length_set];exact HL.out,(am.set _ _ aB).set _ _ au,by
    show _=_
    rw [take_set_low _ _ _ _ (Nat.le_refl _)]
    exact ab.out,(ac.setCell (Nat.le_refl _) _).setCell (Nat.le_refl _) _⟩,by simp [intOf];omega⟩
  ·have hin:i=l.length:=by omega
   go_wp2_with fail
   go_ret
   refine ⟨L,rfl,HL,am,?_,hR,ac⟩
   have h1:=val_take_succ L i
   rw [aw.out,ae.out,val_take_all L _ (by rw [HL.out];omega),val_take_all l _ (by omega)] at h1
   exact h1
theorem drop_div {l:List Nat} (hd:Dg l) (i:Nat):val l / pw i=val (l.drop i):=by
 have h1:=val_split l i
 have hlow:val (l.take i)<pw i:=Nat.lt_of_lt_of_le (val_lt (hd.take i)) (pw_mono (by rw [List.length_take];exact Nat.min_le_left _ _))
 rw [h1,Nat.add_mul_div_left _ _ (pw_pos _),Nat.div_eq_of_lt hlow,Nat.zero_add]
theorem val_drop' (l:List Nat) (i:Nat):val (l.drop i)=l.getD i 0+4294967296*val (l.drop (i+1)):=by
 rcases Nat.lt_or_ge i l.length with h | h
 ·exact val_drop l h
 ·rw [val_drop_all l h,val_drop_all l (by omega),List.getD,List.getElem?_eq_none h]
  simp
theorem back_digit {l:List Nat} (hd:Dg l) {i s x y t:Nat} (hs:s<32) (hx:x=l.getD i 0) (hy:y=l.getD (i+1) 0) (ht:t=y*4294967296+x):val l / 2 ^ s % pw (i+1)=val l / 2 ^ s % pw i+pw i*(t / 2 ^ s % 4294967296):=by
 rw [pw_succ,Nat.mul_comm 4294967296,Nat.mod_mul]
 congr 2
 rw [Nat.div_div_eq_div_mul,Nat.mul_comm,←Nat.div_div_eq_div_mul,drop_div hd,val_drop' l i,val_drop' l (i+1),←hx,←hy]
 generalize val (l.drop (i+1+1))=R
 have e1:x+4294967296*(y+4294967296*R)=t+2 ^ s*(4294967296*(2 ^ (32 - s)*R)):=by
  have e:4294967296=2 ^ s*2 ^ (32 - s):=by rw [←Nat.pow_add,show s+(32 - s)=32 by omega]
  have e2:2 ^ s*(4294967296*(2 ^ (32 - s)*R))=4294967296*(4294967296*R):=by
   rw [Nat.mul_left_comm]
   congr 1
   rw [←Nat.mul_assoc,←e]
  rw [e2,ht,Nat.mul_add,Nat.mul_comm y]
  generalize 4294967296*(4294967296*R)=z
  omega
 rw [e1,Nat.add_mul_div_left _ _ (Nat.pow_pos (by omega)),Nat.add_mul_mod_self_left]
theorem back'_any (w:World) (B:Nat) (A:Option Addr) (c n:Nat) (l:List Nat) (hn:l.length=n) (hr:Rd .u32 w B A c l) (hB:B≤w.heap.size) (hd:Dg l) (hls:n≤5000) (s:Nat) (hs:s<32) :
  Calls Tryd.prog 107 #[.slice A n c,.int .u64 s] w fun e w'=>∃ A2 c2 r,e = .returned (.slice A2 r.length c2)∧NumIs r (val l / 2 ^ s)∧Fresh .u32 22 w' w.heap.size A2 c2 r∧Below w.heap.size w w':=by
 subst hn
 have hlc:l.length≤c:=hr.1
 have hc63:c≤9223372036854775807:=hr.2.1
 have aE:=make_nat (l.length:Int) l.length rfl (by omega)
 go_enter Tryd.func107,Tryd.ntmps107
 go_wp2_with fail
 have aF:Row .u32 22 (w.alloc (.cells (nums .u32 (List.replicate l.length 0)) 22)) w.heap.size (List.replicate l.length 0):=Holds.fresh _ _ _
 clear aE
 go_loopw [6] (fun si wr=>∃ (i:Nat) (L:List Nat),i≤l.length∧si = .int .i64 i∧Row .u32 22 wr w.heap.size L∧L.length=l.length∧Dg L∧Hid (val (L.take i)=val l / 2 ^ s % pw i)∧Below w.heap.size w wr)
  (fun si _=>l.length - (intOf si).toNat)
 case atStart=>exact ⟨0,_,by omega,rfl,aF,by simp,Dg.noughts _,by show _=_;rw [pw_zero,Nat.mod_one];simp [val],(Below.refl _ _).alloc (Nat.le_refl _) _⟩
 case round =>
  obtain ⟨i,L,hi,rfl,hR,hL,av,ae,ab⟩:=hrel
  have hz:=Holds.lt hR
  have HL:=lH hL
  clear hL
  have aw:=hR.open_
  by_cases h:i<l.length
  ·have ao:=hr.under (ab.mono hB)
   obtain ⟨b,ax,x,hA,hb,hx,Hx⟩:=ao.at_ h
   have aB:x<4294967296:=by rw [Hx.out];exact hd.at_ i
   have ac:=hR.cell (i:=i) (by rw [HL.out];omega)
   obtain ⟨y,Hy⟩:∃ y,Hid (y=l.getD (i+1) 0):=⟨_,rfl⟩
   have aD:y<4294967296:=by rw [Hy.out];exact hd.at_ _
   obtain ⟨t,Ht⟩:∃ t,Hid (t=y*4294967296+x):=⟨_,rfl⟩
   have aA:=or_u64 y x aD aB
   rw [←Ht.out] at aA
   have htl:t<18446744073709551616:=by rw [Ht.out];omega
   have hsi:(s:Int)<64:=by omega
   have az:=lH (back_digit hd hs Hx Hy Ht)
   subst hA
   have ak:Calls Tryd.prog 64 #[.slice (some ⟨b,ax,none⟩) l.length c,.int .i64 ((i:Int)+1)] wr.drew fun e w'=>e = .returned (.int .u64 (y:Int))∧w'=wr.drew :=
    (digit_any wr.drew B _ c l ao hd (i+1) (by omega) y Hy.out.symm).mono fun e w' h=>⟨h.1,h.2.symm⟩
   have aC:IntKind.i64.wrap ((i:Int)+1)=(i:Int)+1:=IntWalk.i64_in _ (by omega)
   go_wp2_with fail
   go_still_tail 17,(by kernel_rfl)
   still_call ak
   repeat still_step
   refine wpStill_nil ?_
   change wpList _ _ _ _ _ wr.drew
   have am:Row .u32 22 wr.drew w.heap.size L:=hR
   have au:Rd .u32 wr.drew B (some ⟨b,ax,none⟩) c l:=ao
   have ai:Below w.heap.size w wr.drew:=ab.drew
   clear hR ao ab ac hx hz aw ak aC
   generalize wr.drew=wd at *
   have ac:=am.cell (i:=i) (by rw [HL.out];omega)
   have aw:=am.open_
   have hz:=Holds.lt am
   obtain ⟨b2,off2,x2,hA2,_,hx,Hx2⟩:=au.at_ h
   go_wp2_with fail
   have ay:=am.set i (t / 2 ^ s % 4294967296)
   rw [Int.natCast_emod,Int.natCast_ediv,Int.natCast_pow] at ay
   exact ⟨⟨i+1,_,by omega,by go_num,ay,by rw [List.length_set];exact HL.out,av.set _ _ (Nat.mod_lt _ (by omega)),by
    show _=_
    rw [take_set_succ L i _ (by rw [HL.out];omega),ae,az.out],ai.setCell (Nat.le_refl _) _⟩,by simp [intOf];omega⟩
  ·have aG:i=l.length:=by omega
   go_wp2_with fail
   refine (trim'_at wr _ _ l.length l.length L (rd_whole hR (Nat.le_of_eq HL) (by omega)) HL).mono ?_
   rintro e w1 ⟨rfl,rfl⟩
   go_wp2_with fail
   go_ret
   refine ⟨_,_,trl L,rfl,num_trl av ?_,fresh_trl hR (Nat.le_refl _) (Nat.le_of_eq HL) (by omega),ab⟩
   have h1:=ae.out
   rw [aG,val_take_all L _ (by rw [HL.out];omega)] at h1
   rw [h1]
   exact Nat.mod_eq_of_lt (Nat.lt_of_le_of_lt (Nat.div_le_self _ _) (val_lt hd))
end Go.Proofs.YtflfdglpljodbaaDoor
