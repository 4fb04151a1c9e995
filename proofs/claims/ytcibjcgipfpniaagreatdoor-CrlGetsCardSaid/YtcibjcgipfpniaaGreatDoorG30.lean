/- Words and laws for the statement, part 30. -/
import Derived.OwnWalk
import Derived.Deep.RegionLaw
import Derived.Deep.RegionHeld3
import Derived.Deep.DrawnRows
import Derived.Test.YtcibjcgipfpniaaGreatDoorG13
import Derived.Test.YtcibjcgipfpniaaGreatDoorG29
namespace Go.Proofs.YtcibjcgipfpniaaGreatDoor
open Go.RowKit
set_option linter.unusedVariables false
set_option linter.unusedSimpArgs false

/-- A length as it is written, whatever is behind it. -/
def szOf:List Nat→Option (Nat×Nat)
 | []=>none
 | x :: r=>if x<128 then some (x,1) else if x=128∨132<x∨r.length<x - 128 then none
  else if lenB (big (r.take (x - 128)))=x :: r.take (x - 128) then some (big (r.take (x - 128)),x - 127) else none
theorem big_lt:∀ (m:Nat) (g:List Nat),g.length=m→(∀ x∈g,x<256)→big g<256 ^ m
 | 0,g,h,_=>by
  obtain rfl:=List.eq_nil_of_length_eq_zero h
  decide
 | m+1,g,h,ho=>by
  obtain ⟨a,y,rfl⟩:=split_last (g:=g) (by rintro rfl;simp at h)
  have hy:=ho y (by simp)
  have:=big_lt m a (by simp at h;omega) (fun x hx=>ho x (by simp [hx]))
  rw [big_snoc,Nat.pow_succ]
  omega
set_option maxRecDepth 100000 in
/-- What szOf tells, and what stands behind, is what lenOf tells. -/
theorem lenOf_sz {L:List Nat} (ho:∀ x∈L,x<256) (hl:L.length≤100000):lenOf L=match szOf L with
  | none=>none
  | some (k,u)=>if k≤L.length - u then some (k,u) else none:=by
 rcases L with _ | ⟨x,r⟩
 ·rfl
 have hl2:r.length≤100000:=by simp at hl;omega
 have hx:x<256:=ho x (by simp)
 by_cases h1:x<128
 ·simp only [lenOf,szOf]
  rw [if_pos h1,if_pos h1]
  simp
 by_cases h2:x=128
 ·simp only [lenOf,szOf]
  rw [if_neg h1,if_neg (fun h=>h.1 h2),if_neg h1,if_pos (.inl h2)]
 rcases h3:lenOf (x :: r) with _ | ⟨k,u⟩
 ·by_cases h4:132<x∨r.length<x - 128
  ·simp only [szOf]
   rw [if_neg h1,if_pos (.inr h4)]
  by_cases h5:lenB (big (r.take (x - 128)))=x :: r.take (x - 128)
  ·simp only [szOf]
   rw [if_neg h1,if_neg (by omega),if_pos h5]
   simp only
   rw [if_neg]
   intro h6
   rw [List.length_cons] at h6
   have h7:=lenOf_lenB (k:=big (r.take (x - 128))) (r:=r.drop (x - 128)) (by rw [List.length_drop];omega) (by omega)
   rw [h5,List.cons_append,List.take_append_drop,h3] at h7
   cases h7
  ·simp only [szOf]
   rw [if_neg h1,if_neg (by omega),if_neg h5]
 ·have h4:=lenOf_is ho hl h3
  have h5:=lenOf_fits h3
  simp only [lenOf] at h3
  rw [if_neg h1] at h3
  by_cases h6:x≠128∧x - 128≤r.length∧r.getD 0 0≠0∧128≤big (r.take (x - 128))∧big (r.take (x - 128))≤r.length - (x - 128)
  ·rw [if_pos h6] at h3
   injection h3 with h3
   injection h3 with e1 e2
   obtain ⟨g1,g2,g3,g4,g5⟩:=h6
   obtain ⟨m,hm⟩:∃ m,x - 128=m+1:=⟨x - 129,by omega⟩
   have hx132:¬ 132<x:=by
    intro h7
    rw [hm] at g2 g4 g5
    have hgl:(r.take (m+1)).length=m+1:=by rw [List.length_take];omega
    have hg0:(r.take (m+1)).getD 0 0≠0:=by
     rcases r with _ | ⟨y,r⟩
     ·simp at g2
     ·simpa using g3
    have hb:=big_len m _ hgl hg0
    have:=Nat.pow_le_pow_right (show 0<256 by omega) (show 4≤m by omega)
    omega
   have e3:lenB (big (r.take (x - 128)))=x :: r.take (x - 128):=by
    rw [e1,←h4,show u=(x - 128)+1 by omega,List.take_succ_cons]
   simp only [szOf]
   rw [if_neg h1,if_neg (by omega),if_pos e3]
   simp only
   rw [if_pos (by rw [List.length_cons];omega),e1,e2]
  ·rw [if_neg h6] at h3
   cases h3
theorem sz_fits {L:List Nat} {k u n:Nat} (h:szOf L=some (k,u)) (hn:L.length=n):u≤n:=by
 subst hn
 rcases L with _ | ⟨x,r⟩
 ·cases h
 simp only [szOf] at h
 rw [List.length_cons]
 by_cases h1:x<128
 ·rw [if_pos h1] at h
  injection h with h
  injection h with _ h
  omega
 rw [if_neg h1] at h
 by_cases h2:x=128∨132<x∨r.length<x - 128
 ·rw [if_pos h2] at h;cases h
 rw [if_neg h2] at h
 by_cases h3:lenB (big (r.take (x - 128)))=x :: r.take (x - 128)
 ·rw [if_pos h3] at h
  injection h with h
  injection h with _ h
  omega
 ·rw [if_neg h3] at h;cases h
theorem sz_small {L:List Nat} {k u:Nat} (ho:∀ x∈L,x<256) (h:szOf L=some (k,u)):k<4294967296:=by
 rcases L with _ | ⟨x,r⟩
 ·cases h
 simp only [szOf] at h
 by_cases h1:x<128
 ·rw [if_pos h1] at h
  injection h with h
  injection h with h _
  omega
 rw [if_neg h1] at h
 by_cases h2:x=128∨132<x∨r.length<x - 128
 ·rw [if_pos h2] at h;cases h
 rw [if_neg h2] at h
 by_cases h3:lenB (big (r.take (x - 128)))=x :: r.take (x - 128)
 ·rw [if_pos h3] at h
  injection h with h
  injection h with h _
  have h4:=big_lt (x - 128) (r.take (x - 128)) (by rw [List.length_take];omega) (fun y hy=>ho y (List.mem_cons_of_mem _ (List.mem_of_mem_take hy)))
  have:=Nat.pow_le_pow_right (show 0<256 by omega) (show x - 128≤4 by omega)
  omega
 ·rw [if_neg h3] at h;cases h
def SizePost (w:World):Option (Nat×Nat)→Ending→World→Prop
 | none,e,w'=>∃ k u:Int,e = .returned (.tuple #[.int .i64 k,.int .i64 u,.bool false])∧Below w.heap.size w w'
 | some (k,u),e,w'=>e = .returned (.tuple #[.int .i64 (k:Int),.int .i64 (u:Int),.bool true])∧Below w.heap.size w w'
def RelSz (m:Nat) (r:List Nat) (w:World) (v i:Value) (wr:World):Prop :=
 ∃ p z:Nat,1≤p∧p≤m+1∧i = .int .i64 (p:Int)∧v = .int .i64 (z:Int)∧z<256 ^ (p - 1)∧Hid (z=big (r.take (p - 1)))∧wr=w
set_option maxRecDepth 100000 in
set_option maxHeartbeats 4000000 in
theorem size'_any (w:World) (B:Nat) (A:Option Addr) (c n:Nat) (L:List Nat) (hR:Rd .u8 w B A c L) (hn:L.length=n) (h12:n≤12000) (ho:∀ x∈L,x<256) (hB:B≤w.heap.size) :
  Calls Tryz.prog 97 #[.slice A n c] w (SizePost w (szOf L)):=by
 have hlc:n≤c:=by rw [←hn];exact hR.1
 have hc63:=hR.2.1
 rcases L with _ | ⟨x,r⟩
 case nil =>
  obtain rfl:n=0:=hn.symm
  clear hR ho hn
  go_enter Tryz.func97,Tryz.ntmps97
  go_wp2_with fail
  go_ret3
  exact ⟨_,_,rfl,Below.refl _ _⟩
 obtain ⟨b,off,rfl,hb,hcs⟩:=hR.2.2 (by simp)
 have hn1:r.length+1=n:=hn
 have hx:x<256:=ho x (by simp)
 have e0:w.cell? ⟨b,off,none⟩=some (.int .u8 (x:Int)):=hcs 0 (by rw [List.length_cons];omega)
 have HC1:Hid (∀ p,1≤p→p<n→w.cell? ⟨b,off+p,none⟩=some (.int .u8 ((r.getD (p - 1) 0:Nat):Int))):=Lib.hid fun p h1 h2=>by
  have:=hcs p (by omega)
  rw [this]
  obtain ⟨q,rfl⟩:∃ q,p=q+1:=⟨p - 1,by omega⟩
  rfl
 have HO:Hid (∀ j,r.getD j 0<256):=Lib.hid fun j=>by
  rw [List.getD_eq_getElem?_getD]
  rcases h:r[j]? with _ | y
  ·simp
  ·exact ho y (List.mem_cons_of_mem _ (List.mem_of_getElem? h))
 have hnp:1≤n:=by omega
 have HN:=Lib.hid hn1
 have HOX:=Lib.hid ho
 have HR:=Lib.hid hR
 have dn0:decide ((n:Int)=0)=false:=decide_eq_false (by omega)
 have bn0:((n:Int) == 0)=false:=by simp;omega
 by_cases h128:x<128
 case pos =>
  have HE:Hid (szOf (x :: r)=some (x,1)):=Lib.hid (by simp only [szOf];rw [if_pos h128])
  have d1:decide ((x:Int)=128)=false:=decide_eq_false (by omega)
  have b1:((x:Int) == 128)=false:=by simp;omega
  have d2:decide (132<(x:Int))=false:=decide_eq_false (by omega)
  have d3:decide ((x:Int)<128)=true:=decide_eq_true (by omega)
  clear hR hcs ho hn hn1
  go_enter Tryz.func97,Tryz.ntmps97
  go_wp2_with fail
  go_ret3
  rw [HE.out]
  exact ⟨rfl,Below.refl _ _⟩
 by_cases h128b:x=128
 case pos =>
  have HE:Hid (szOf (x :: r)=none):=Lib.hid (by simp only [szOf];rw [if_neg h128,if_pos (.inl h128b)])
  have d1:decide ((x:Int)=128)=true:=decide_eq_true (by omega)
  have b1:((x:Int) == 128)=true:=by simp;omega
  clear hR hcs ho hn hn1
  go_enter Tryz.func97,Tryz.ntmps97
  go_wp2_with fail
  go_ret3
  rw [HE.out]
  exact ⟨_,_,rfl,Below.refl _ _⟩
 have d1:decide ((x:Int)=128)=false:=decide_eq_false (by omega)
 have b1:((x:Int) == 128)=false:=by simp;omega
 by_cases h132:132<x
 case pos =>
  have HE:Hid (szOf (x :: r)=none):=Lib.hid (by simp only [szOf];rw [if_neg h128,if_pos (.inr (.inl h132))])
  have d2:decide (132<(x:Int))=true:=decide_eq_true (by omega)
  clear hR hcs ho hn hn1
  go_enter Tryz.func97,Tryz.ntmps97
  go_wp2_with fail
  go_ret3
  rw [HE.out]
  exact ⟨_,_,rfl,Below.refl _ _⟩
 have d2:decide (132<(x:Int))=false:=decide_eq_false (by omega)
 have d3:decide ((x:Int)<128)=false:=decide_eq_false (by omega)
 obtain ⟨m,hm⟩:∃ m,x=128+m:=⟨x - 128,by omega⟩
 have hm4:m≤4:=by omega
 have hm1:1≤m:=by omega
 obtain ⟨X,hX⟩:∃ X:Int,X=(x:Int):=⟨_,rfl⟩
 have hXm:X - 128=(m:Int):=by omega
 have hX1:128<X:=by omega
 have hX2:X≤132:=by omega
 have hwm:IntKind.u8.wrap (m:Int)=(m:Int):=by simp [IntKind.wrap,IntKind.signed,IntKind.bits];omega
 rw [←hX] at e0 d1 b1 d2 d3
 have HM:=Lib.hid hm
 by_cases hlm:r.length<m
 case pos =>
  have HE:Hid (szOf (x :: r)=none):=Lib.hid (by simp only [szOf];rw [if_neg h128,if_pos (.inr (.inr (by omega)))])
  have d4:decide ((n:Int)<1+(m:Int))=true:=decide_eq_true (by omega)
  clear hR hcs ho hn hn1 hX hm h128 h128b h132 hlm
  go_enter Tryz.func97,Tryz.ntmps97
  go_wp2_with fail
  go_ret3
  rw [HE.out]
  exact ⟨_,_,rfl,Below.refl _ _⟩
 have d4:decide ((n:Int)<1+(m:Int))=false:=decide_eq_false (by omega)
 have HE:Hid (szOf (x :: r)=if lenB (big (r.take m))=x :: r.take m then some (big (r.take m),1+m) else none):=Lib.hid (by
  simp only [szOf]
  rw [if_neg h128,if_neg (by omega),show x - 128=m by omega,show x - 127=1+m by omega])
 have hmn:m<n:=by omega
 have HCAT:Hid ((x :: r).take (1+m)=x :: r.take m∧(x :: r.take m).length=1+m):=Lib.hid (by
  rw [Nat.add_comm 1 m,List.take_succ_cons,List.length_cons,List.length_take]
  exact ⟨rfl,by omega⟩)
 have HTL:Hid ((r.take m).length=m):=Lib.hid (by rw [List.length_take];omega)
 clear hR hcs ho hn hn1 hX hm h128 h128b h132 hlm
 go_enter Tryz.func97,Tryz.ntmps97
 go_wp2_with fail
 clear d1 b1 d2 d3 d4
 go_loopw [6,7] (fun v i wr=>RelSz m r w v i wr) (fun v i _=>m+1 - (intOf i).toNat)
 case atStart=>exact ⟨1,0,Nat.le_refl _,by omega,rfl,rfl,by simp,Lib.hid (by simp [big]),rfl⟩
 case round =>
  obtain ⟨p,z,hp1,hp2,rfl,rfl,hz,HZ,rfl⟩:=hrel
  have hz4:z<4294967296:=Nat.lt_of_lt_of_le hz (by
   have:=Nat.pow_le_pow_right (show 0<256 by omega) (show p - 1≤4 by omega)
   omega)
  by_cases hpm:p≤m
  case pos =>
   have d5:decide ((p:Int)≤(m:Int))=true:=decide_eq_true (by omega)
   have e2:wr.cell? ⟨b,off+p,none⟩=some (.int .u8 ((r.getD (p - 1) 0:Nat):Int)):=HC1.out p hp1 (by omega)
   have HZ2:Hid (big (r.take p)=z*256+r.getD (p - 1) 0):=Lib.hid (by
    have hl:=HN.out
    have h1:r[p - 1]?=some (r.getD (p - 1) 0):=by simp [List.getD,show p - 1<r.length by omega]
    conv=>lhs;rw [show p=(p - 1)+1 by omega]
    rw [List.take_add_one,h1,HZ.out]
    exact big_snoc _ _)
   have hu:r.getD (p - 1) 0<256:=HO.out (p - 1)
   generalize r.getD (p - 1) 0=u at *
   have hz2:z*256+u<256 ^ p:=by
    have:256 ^ p=256 ^ (p - 1)*256:=by rw [←Nat.pow_succ,show (p - 1).succ=p by omega]
    omega
   clear hz
   go_wp2_with fail
   go_roundw
   case rel=>exact ⟨p+1,z*256+u,by omega,by omega,rfl,by push_cast;rfl,by rw [Nat.add_sub_cancel];exact hz2,Lib.hid (by rw [Nat.add_sub_cancel];exact HZ2.out.symm),rfl⟩
   case measure=>simp [intOf];omega
  case neg =>
   have d5:decide ((p:Int)≤(m:Int))=false:=decide_eq_false (by omega)
   have HZ2:Hid (z=big (r.take m)):=Lib.hid (by rw [HZ.out,show p - 1=m by omega])
   have HST:Hid (∀ W:World,(Instr.sliceAt 24 (.slice (some ⟨b,off,none⟩) n c) none (some (.int .i64 (1+(m:Int)))) none).run Tryz.prog W = .ok (.slice (dropA (some ⟨b,off,none⟩) 0 c) (1+m) c) W):=Lib.hid fun W=>by
    have h:=run_take W (some ⟨b,off,none⟩) n c (1+m) (by omega) hlc
    push_cast at h
    exact h
   have ho2:∀ y∈x :: r.take m,y<256:=fun y hy=>by
    rcases List.mem_cons.1 hy with rfl | h
    ·exact hx
    ·exact HOX.out y (List.mem_cons_of_mem _ (List.mem_of_mem_take h))
   have HC1:Hid (∀ W:World,Below wr.heap.size wr W→(convert 24 9 (.slice (dropA (some ⟨b,off,none⟩) 0 c) (1+m) c)).run Tryz.prog W = .ok (.string (str (x :: r.take m))) W):=Lib.hid fun W hW=>by
    have h:=dropA_zero ((HR.out.under (hW.mono hB)).cut (1+m))
    rw [HCAT.out.1] at h
    exact conv_str h HCAT.out.2 ho2
   obtain ⟨t,ht⟩:∃ t,t=decide (lenB z=x :: r.take m):=⟨_,rfl⟩
   have hcmp:((str (lenB z)).toList == (str (x :: r.take m)).toList)=t:=by
    rw [ht]
    by_cases h:lenB z=x :: r.take m
    ·rw [h,decide_eq_true rfl];exact str_same _
    ·rw [decide_eq_false h];exact str_ne (lenB_oct z) ho2 h
   have HFIN:Hid (∀ W:World,Below wr.heap.size wr W→SizePost wr (szOf (x :: r)) (.returned (.tuple #[.int .i64 (z:Int),.int .i64 (1+(m:Int)),.bool t])) W):=Lib.hid fun W hW=>by
    rw [HE.out,←HZ2.out]
    by_cases h:lenB z=x :: r.take m
    ·rw [if_pos h,ht,decide_eq_true h]
     exact ⟨by push_cast;rfl,hW⟩
    ·rw [if_neg h,ht,decide_eq_false h]
     exact ⟨_,_,rfl,hW⟩
   obtain ⟨s1,hs1⟩:∃ s1,s1=str (lenB z):=⟨_,rfl⟩
   have HS1:=Lib.hid hs1
   rw [←hs1] at hcmp
   generalize str (x :: r.take m)=s2 at *
   generalize dropA (some ⟨b,off,none⟩) 0 c=D at *
   have hwi:IntKind.i64.wrap (1+(m:Int))=1+(m:Int):=IntWalk.i64_in _ (by omega)
   have HK:=length'_any wr.drew z (by omega)
   clear hz ht hs1 ho2 HZ2 HE HCAT
   generalize hll:(lenB z).length=ll at *
   go_wp2_with fail
   refine wp_region_noPanic ?_
   refine wp_region_held_drew (S:=fun W=>Below wr.heap.size wr W) (by kernel_rfl) (Below.refl _ wr).drew (fun hHeld=>?_)
   refine wpAnyH_take (i:=0) (oi:={ dst:=some 54,op:=Op.move (Operand.tmp 6),type:=3,pos:=_,after:=_,guard:=none }) (v:=?_) rfl (by kernel_rfl) (by kernel_rfl) (by kernel_rfl) (fun _ _ _ h=>h) (Or.inl ⟨by rfl,?_⟩) hHeld ?_
   rotate_left 1
   ·(intro W hW;(try dsimp only at hW);go_simp;try with_reducible rfl)
   try simp only [Act.put,List.setIfInBounds_toArray,List.set_cons_zero,List.set_cons_succ]
   refine wpAnyH_take (i:=1) (oi:={ dst:=some 55,op:=Op.move (Operand.tmp 5),type:=3,pos:=_,after:=_,guard:=none }) (v:=?_) rfl (by kernel_rfl) (by kernel_rfl) (by kernel_rfl) (fun _ _ _ h=>h) (Or.inl ⟨by rfl,?_⟩) hHeld ?_
   rotate_left 1
   ·(intro W hW;(try dsimp only at hW);go_simp;try with_reducible rfl)
   try simp only [Act.put,List.setIfInBounds_toArray,List.set_cons_zero,List.set_cons_succ]
   refine wpAnyH_take (i:=2) (oi:={ dst:=some 56,op:=Op.binOp BinOp.add 3 (Operand.const (Value.int IntKind.i64 1)) (Operand.tmp 55) 3,type:=3,pos:=_,after:=_,guard:=none }) (v:=?_) rfl (by kernel_rfl) (by kernel_rfl) (by kernel_rfl) (fun _ _ _ h=>h) (Or.inl ⟨by rfl,?_⟩) hHeld ?_
   rotate_left 1
   ·(intro W hW;(try dsimp only at hW);go_simp;try with_reducible rfl)
   try simp only [Act.put,List.setIfInBounds_toArray,List.set_cons_zero,List.set_cons_succ]
   refine wpAnyH_take (i:=3) (oi:={ dst:=some 57,op:=Op.move (Operand.tmp 6),type:=3,pos:=_,after:=_,guard:=none }) (v:=?_) rfl (by kernel_rfl) (by kernel_rfl) (by kernel_rfl) (fun _ _ _ h=>h) (Or.inl ⟨by rfl,?_⟩) hHeld ?_
   rotate_left 1
   ·(intro W hW;(try dsimp only at hW);go_simp;try with_reducible rfl)
   try simp only [Act.put,List.setIfInBounds_toArray,List.set_cons_zero,List.set_cons_succ]
   refine wpAnyH_take (i:=6) (oi:={ dst:=some 60,op:=Op.move (Operand.tmp 0),type:=24,pos:=_,after:=_,guard:=none }) (v:=?_) rfl (by kernel_rfl) (by kernel_rfl) (by kernel_rfl) (fun _ _ _ h=>h) (Or.inl ⟨by rfl,?_⟩) hHeld ?_
   rotate_left 1
   ·(intro W hW;(try dsimp only at hW);go_simp;try with_reducible rfl)
   try simp only [Act.put,List.setIfInBounds_toArray,List.set_cons_zero,List.set_cons_succ]
   refine wpAnyH_take (i:=7) (oi:={ dst:=some 61,op:=Op.move (Operand.tmp 5),type:=3,pos:=_,after:=_,guard:=none }) (v:=?_) rfl (by kernel_rfl) (by kernel_rfl) (by kernel_rfl) (fun _ _ _ h=>h) (Or.inl ⟨by rfl,?_⟩) hHeld ?_
   rotate_left 1
   ·(intro W hW;(try dsimp only at hW);go_simp;try with_reducible rfl)
   try simp only [Act.put,List.setIfInBounds_toArray,List.set_cons_zero,List.set_cons_succ]
   refine wpAnyH_take (i:=8) (oi:={ dst:=some 62,op:=Op.binOp BinOp.add 3 (Operand.const (Value.int IntKind.i64 1)) (Operand.tmp 61) 3,type:=3,pos:=_,after:=_,guard:=none }) (v:=?_) rfl (by kernel_rfl) (by kernel_rfl) (by kernel_rfl) (fun _ _ _ h=>h) (Or.inl ⟨by rfl,?_⟩) hHeld ?_
   rotate_left 1
   ·(intro W hW;(try dsimp only at hW);go_simp;try with_reducible rfl)
   try simp only [Act.put,List.setIfInBounds_toArray,List.set_cons_zero,List.set_cons_succ]
   refine wpAnyH_take (i:=9) (oi:={ dst:=some 63,op:=Op.slice 24 (Operand.tmp 60) none (some (Operand.tmp 62)) none,type:=24,pos:=_,after:=_,guard:=none }) (v:=?_) rfl (by kernel_rfl) (by kernel_rfl) (by kernel_rfl) (fun _ _ _ h=>h) (Or.inl ⟨by rfl,?_⟩) hHeld ?_
   rotate_left 1
   ·(intro W hW;have kc:=HST.out W;(try dsimp only at hW);go_simp;try with_reducible rfl)
   try simp only [Act.put,List.setIfInBounds_toArray,List.set_cons_zero,List.set_cons_succ]
   refine wpAnyH_take (i:=10) (oi:={ dst:=some 64,op:=Op.convert 24 9 (Operand.tmp 63),type:=9,pos:=_,after:=_,guard:=none }) (v:=?_) rfl (by kernel_rfl) (by kernel_rfl) (by kernel_rfl) (fun _ _ _ h=>h) (Or.inl ⟨by rfl,?_⟩) hHeld ?_
   rotate_left 1
   ·(intro W hW;have kc:=HC1.out W hW;(try dsimp only at hW);go_simp;try with_reducible rfl)
   try simp only [Act.put,List.setIfInBounds_toArray,List.set_cons_zero,List.set_cons_succ]
   refine wpAnyH_ready (rs:=[4]) (by kernel_rfl) (by simp) ?_
   refine AllReadyH.cons (o:={ dst:=some 58,op:=Op.call { callee:=Callee.value (Operand.func 117),args:=#[Operand.tmp 57],argTypes:=#[3] },type:=24,pos:=_,after:=_,guard:=none }) rfl (fun K hK=>?_) AllReadyH.nil
   go_simp
   refine HK.mono ?_
   rintro e w2 ⟨A2,c2,rfl,hm2,hb2⟩
   have b2:Hid (Below wr.heap.size wr w2):=Lib.hid ((Below.refl _ wr).drew.trans hb2)
   have HM2:Hid (Rd .u8 w2 w2.heap.size A2 c2 (lenB z)):=Lib.hid hm2.rd
   clear hb2 hm2
   go_simp
   refine hK.out _ _ (b2.out) (fun _=>?_)
   clear hK K hHeld
   try simp only [Act.put,List.setIfInBounds_toArray,List.set_cons_zero,List.set_cons_succ]
   refine wpAnyH_strong (S':=fun W=>Below w2.heap.size w2 W) (fun W hW=>b2.out.trans (hW.mono b2.out.size)) _ _ _ _ ?_
   have hHeld:(fun W=>Below w2.heap.size w2 W) w2:=Below.refl _ _
   refine wpAnyH_take (i:=5) (oi:={ dst:=some 59,op:=Op.convert 24 9 (Operand.tmp 58),type:=9,pos:=_,after:=_,guard:=none }) (v:=?_) rfl (by kernel_rfl) (by kernel_rfl) (by kernel_rfl) (fun _ _ _ h=>h) (Or.inl ⟨by rfl,?_⟩) hHeld ?_
   rotate_left 1
   ·(intro W hW;have kc:=conv_str (HM2.out.under hW) hll (lenB_oct z);rw [←HS1.out] at kc;(try dsimp only at hW);go_simp;try with_reducible rfl)
   try simp only [Act.put,List.setIfInBounds_toArray,List.set_cons_zero,List.set_cons_succ]
   refine wpAnyH_take (i:=11) (oi:={ dst:=some 65,op:=Op.binOp BinOp.eql 9 (Operand.tmp 59) (Operand.tmp 64) 9,type:=4,pos:=_,after:=_,guard:=none }) (v:=?_) rfl (by kernel_rfl) (by kernel_rfl) (by kernel_rfl) (fun _ _ _ h=>h) (Or.inl ⟨by rfl,?_⟩) hHeld ?_
   rotate_left 1
   ·(intro W hW;(try dsimp only at hW);go_simp;try with_reducible rfl)
   try simp only [Act.put,List.setIfInBounds_toArray,List.set_cons_zero,List.set_cons_succ]
   refine wpAnyH_take (i:=12) (oi:={ dst:=some 2,op:=Op.assign (Operand.tmp 54),type:=3,pos:=_,after:=_,guard:=none }) (v:=?_) rfl (by kernel_rfl) (by kernel_rfl) (by kernel_rfl) (fun _ _ _ h=>h) (Or.inl ⟨by rfl,?_⟩) hHeld ?_
   rotate_left 1
   ·(intro W hW;(try dsimp only at hW);go_simp;try with_reducible rfl)
   try simp only [Act.put,List.setIfInBounds_toArray,List.set_cons_zero,List.set_cons_succ]
   refine wpAnyH_take (i:=13) (oi:={ dst:=some 3,op:=Op.assign (Operand.tmp 56),type:=3,pos:=_,after:=_,guard:=none }) (v:=?_) rfl (by kernel_rfl) (by kernel_rfl) (by kernel_rfl) (fun _ _ _ h=>h) (Or.inl ⟨by rfl,?_⟩) hHeld ?_
   rotate_left 1
   ·(intro W hW;(try dsimp only at hW);go_simp;try with_reducible rfl)
   try simp only [Act.put,List.setIfInBounds_toArray,List.set_cons_zero,List.set_cons_succ]
   refine wpAnyH_take (i:=14) (oi:={ dst:=some 4,op:=Op.assign (Operand.tmp 65),type:=4,pos:=_,after:=_,guard:=none }) (v:=?_) rfl (by kernel_rfl) (by kernel_rfl) (by kernel_rfl) (fun _ _ _ h=>h) (Or.inl ⟨by rfl,?_⟩) hHeld ?_
   rotate_left 1
   ·(intro W hW;(try dsimp only at hW);go_simp;try with_reducible rfl)
   try simp only [Act.put,List.setIfInBounds_toArray,List.set_cons_zero,List.set_cons_succ]
   refine wpAnyH_done (by kernel_rfl) ?_ _
   refine NoPanic.normal ?_
   go_wp2_with fail
   go_ret3
   exact HFIN.out _ b2.out

end Go.Proofs.YtcibjcgipfpniaaGreatDoor
