/- Words and laws for the statement, part 7. -/
import Derived.Test.YtnedpkhehiijhaaGreatQ06
namespace Go.Proofs.YtnedpkhehiijhaaGreat
open Go.RowKit Go.Shelf
set_option linter.unusedVariables false
set_option linter.unusedSimpArgs false
attribute [local go_sem] Oper.semAt_some

set_option maxRecDepth 100000 in
theorem told_any (w:World) (gd n:Nat):Calls Tryz.prog 66 #[.pointer (some ⟨gd,0,none⟩),.int .i64 (n:Int)] w fun e w'=>e = .returned (.func (.func 107) #[] #[.pointer (some ⟨w.heap.size+1,0,none⟩),.pointer (some ⟨w.heap.size,0,none⟩)])∧w'=(w.alloc (.cells #[.pointer (some ⟨gd,0,none⟩)] 23)).alloc (.cells #[.int .i64 (n:Int)] 3):=by
 go_enter Tryz.func66,Tryz.ntmps66
 go_wp2_with fail
 go_ret
 exact ⟨rfl,rfl⟩
theorem getD_mem {l:List Nat} {i:Nat} (h:i<l.length):l.getD i 0∈l:=by
 rw [show l.getD i 0=l[i] by simp [List.getD,h]]
 exact List.getElem_mem h
/-- What is told, as it is handed. -/
def tlv (x:Wr):Array Value:=#[.int .i64 x.at_,.slice x.da 64 x.dc]
def TlM (w:World) (x:Wr) (W:World):Prop:=Rd .u8 W W.heap.size x.da x.dc x.d∧x.d.length=64∧∃ b,x.da=some ⟨b,0,none⟩∧w.heap.size≤b∧Row .u8 5 W b x.d
/-- What the body leaves as it lies: all that lay when the iterator began, but G. -/
def KpG (w:World) (G:Nat→Prop) (A B:World):Prop:=A.heap.size≤B.heap.size∧∀ g,g<w.heap.size→¬ G g→B.heap[g]?=A.heap[g]?
theorem KpG.trans {w A B C:World} {G:Nat→Prop} (h:KpG w G A B) (h2:KpG w G B C):KpG w G A C:=⟨Nat.le_trans h.1 h2.1,fun g hg hG=>(h2.2 g hg hG).trans (h.2 g hg hG)⟩
theorem KpG.below {w A B:World} {G:Nat→Prop} (hw:w.heap.size≤A.heap.size) (h:Below A.heap.size A B):KpG w G A B:=⟨h.size,fun g hg _=>h.block g (by omega)⟩
theorem Disk.keepG {w W:World} {F G:Nat→Prop} {gd:Nat} {s:Dk} (h:Disk w F gd s) (hF:∀ k,F k→¬ G k) (hk:KpG w G w W):Disk W F gd s:=by
 obtain ⟨gn,gl,A,cw,K,ck,hd,f1,f2,f3,f4,f5⟩:=h
 refine ⟨gn,gl,A,cw,K,ck,hd.keepAll hk.1 fun g hg hlt=>hk.2 g hlt (hF g ?_),f1,f2,f3,f4,f5⟩
 rcases hg with rfl | rfl | rfl | hg | hg
 ·exact f1
 ·exact f2
 ·exact f3
 ·exact f4 g hg
 ·exact f5 g hg
theorem KpG.refl (w A:World) (G:Nat→Prop):KpG w G A A:=⟨Nat.le_refl _,fun _ _ _=>rfl⟩
theorem grown_of {A W:World} (h:Below A.heap.size A W):A.grownBy W none:=⟨h.os,h.tape,h.output,h.size,fun g hg _=>h.block g hg⟩
def RelTl (w:World) (G:Nat→Prop) (s:Dk) (n:Nat) (J:List Wr→World→Prop) (i:Value) (wr:World):Prop :=
 ∃ (k:Nat) (pre:List Wr),k≤n∧i = .int .i64 k∧Hid (wv pre=(List.range k).map (s.toldAt n))∧J pre wr∧Hid (KpG w G w wr)
set_option maxRecDepth 100000 in
set_option maxHeartbeats 4000000 in
theorem told_stops {w:World} {F G:Nat→Prop} {gd n:Nat} {s:Dk} (hd:Disk w F gd s) (hF:∀ k,F k→¬ G k) (hoc:∀ i:Nat,Oct1 (s.read (i:Int))) (hn:n≤150) (hmany:0<s.many) (bd bn:Nat) (hbd:Holds w bd 23 #[.pointer (some ⟨gd,0,none⟩)]) (hbn:Holds w bn 3 #[.int .i64 (n:Int)]) (hGd:¬ G bd) (hGn:¬ G bn) :
  StopsM Fence.wide 2 Tryz.prog 107 #[.pointer (some ⟨bn,0,none⟩),.pointer (some ⟨bd,0,none⟩)] tlv (TlM w) (KpG w G) (fun xs=>wv xs=s.told n) (fun pre=>wv pre <+: s.told n) n w:=fun l J Jx W hW hJ hJx hY h0=>by
 have HDK:Hid (∀ V,KpG w G w V→Disk V F gd s∧V.cell? ⟨bd,0,none⟩=some (.pointer (some ⟨gd,0,none⟩))∧V.cell? ⟨bn,0,none⟩=some (.int .i64 (n:Int))):=Lib.hid fun V hV =>
  ⟨hd.keepG hF hV,(show Holds V bd _ _ from (hV.2 bd hbd.lt hGd).trans hbd).cell 0,(show Holds V bn _ _ from (hV.2 bn hbn.lt hGn).trans hbn).cell 0⟩
 have HRD:Hid (∀ V,KpG w G w V→∀ i:Nat,Calls Tryz.prog 63 #[.pointer (some ⟨gd,0,none⟩),.int .i64 (i:Int)] V fun e w'=>∃ A' n' c',e = .returned (.slice A' n' c')∧(s.read (i:Int)).length=n'∧Rd .u8 w' w'.heap.size A' c' (s.read (i:Int))∧(n'≠0→A'=some ⟨V.heap.size,0,none⟩∧c'=n'∧Row .u8 5 w' V.heap.size (s.read (i:Int)))∧Below V.heap.size V w'):=Lib.hid fun V hV i=>disk_read (HDK.out V hV).1 i
 have hnl:157<s.now.length:=by unfold Dk.many at hmany;omega
 have HLN:Hid (∀ i:Nat,i<158→(s.read (i:Int)).length=64):=Lib.hid fun i hi=>hd.sect_read (by omega)
 have HKW:Hid (KpG w G w W):=Lib.hid (KpG.below (Nat.le_refl _) hW)
 have HSH:=Lib.hid (fun V=>sheets_any V n (by omega))
 have hsh:sheetsN n≤5:=by unfold sheetsN;omega
 have HJ:=Lib.hid hJ
 have HJX:=Lib.hid hJx
 have HY:=Lib.hid hY
 have HOC:=Lib.hid hoc
 clear hd hF hbd hbn hGd hGn hW hmany hnl hJ hJx hY hoc
 obtain ⟨m,hm⟩:∃ m,m=sheetsN n:=⟨_,rfl⟩
 rw [←hm] at HSH hsh
 have HMN:=Lib.hid hm
 clear hm
 obtain ⟨_,z0,z1⟩:=HDK.out W HKW.out
 refine callsIn_of_wp Tryz.func107 rfl trivial ?_ rfl
 simp only [Tryz.ntmps107,List.size_toArray,List.length_cons,List.length_nil,Nat.reduceAdd,Nat.reduceSub,Array.replicate_succ,Array.replicate_zero,List.push_toArray,List.append_toArray,List.nil_append,List.cons_append]
 gi_wp2
 clear z0 z1
 gi_loopw [9] (fun i wr=>RelTl w G s n J i wr) (fun i _=>n - (intOf i).toNat)
 case atStart=>exact ⟨0,[],Nat.zero_le _,rfl,Lib.hid rfl,h0,HKW⟩
 case round =>
  obtain ⟨k,pre,hk,rfl,HPRE,hj,HKR⟩:=hrel
  obtain ⟨V,hV⟩:∃ V,V=wr:=⟨_,rfl⟩
  subst hV
  by_cases hlt:k<n
  case pos =>
   have hkI:(k:Int)<(n:Int):=by omega
   have hk0:(0:Int)≤(k:Int):=by omega
   obtain ⟨q,hq⟩:∃ q,q=k / 32:=⟨_,rfl⟩
   obtain ⟨t,ht⟩:∃ t,t=k % 32:=⟨_,rfl⟩
   have kq:(k:Int) / 32=(q:Int):=by omega
   have kt:(k:Int) % 32=(t:Int):=by omega
   have hq4:q≤4:=by omega
   have ht4:t≤31:=by omega
   have kw:IntKind.i64.wrap (2+(q:Int))=((2+q:Nat):Int):=by rw [IntWalk.i64_in _ (by omega)];omega
   obtain ⟨_,z0,z1⟩:=HDK.out V HKR.out
   have HR1:=Lib.hid (callsIn_wide (n:=1).2 (HRD.out V HKR.out (2+q)))
   have HQ:=Lib.hid hq
   have HT:=Lib.hid ht
   clear h0 HKW hq ht
   gi_wp2_with (refine ⟨trivial,?_⟩;gi_at_call 63;refine HR1.out.mono ?_;rintro e w1 ⟨A1,n1,c1,rfl,hn1,hr1,hx1,hb1⟩)

   rw [HLN.out (2+q) (by omega)] at hn1
   subst hn1
   obtain ⟨rfl,rfl,_⟩:=hx1 (by omega)
   have HK1:Hid (KpG w G w w1):=Lib.hid (HKR.out.trans (KpG.below HKR.out.1 hb1))
   have HJ1:=Lib.hid (HJ.out _ _ _ none hj (grown_of hb1) (fun r e=>by cases e))
   have HB1:=Lib.hid hb1
   obtain ⟨_,_,e0,hlt1,hcell⟩:=hr1.2.2 (by rw [HLN.out (2+q) (by omega)];omega)
   injection e0 with e0
   injection e0 with e1 e2
   subst e1 e2
   obtain ⟨p,hp⟩:∃ p,p=2*t:=⟨_,rfl⟩
   obtain ⟨p1,hp1⟩:∃ p1,p1=p+1:=⟨_,rfl⟩
   obtain ⟨j,hjj⟩:∃ j,j=2+m+k:=⟨_,rfl⟩
   obtain ⟨u,hu⟩:∃ u,u=2+m:=⟨_,rfl⟩
   have k4:=hcell p (by rw [HLN.out (2+q) (by omega)];omega)
   have k5:=hcell p1 (by rw [HLN.out (2+q) (by omega)];omega)
   obtain ⟨x4,hx4⟩:∃ x,x=(s.read ((2+q:Nat):Int)).getD p 0:=⟨_,rfl⟩
   obtain ⟨x5,hx5⟩:∃ x,x=(s.read ((2+q:Nat):Int)).getD p1 0:=⟨_,rfl⟩
   have o4:x4<256:=by rw [hx4];exact (HOC.out _) _ (getD_mem (by rw [HLN.out (2+q) (by omega)];omega))
   have o5:x5<256:=by rw [hx5];exact (HOC.out _) _ (getD_mem (by rw [HLN.out (2+q) (by omega)];omega))
   rw [←hx4,Nat.zero_add] at k4
   rw [←hx5,Nat.zero_add] at k5
   have hor:Go.bits BinOp.or IntKind.i64 ((x4:Int)*256) (x5:Int)=((x4*256+x5:Nat):Int):=(or_i64 x4 x5 o4 o5).trans (by push_cast;rfl)
   obtain ⟨iv,hiv⟩:∃ v,v=x4*256+x5:=⟨_,rfl⟩
   rw [←hiv] at hor
   have HIV:Hid (s.toldAt n k=(((iv:Nat):Int),s.read ((j:Nat):Int))):=Lib.hid (by
    unfold Dk.toldAt
    rw [←HQ.out,←HT.out,←HMN.out,←hp,←hp1,←hx4,←hx5,←hiv,←hjj])
   have kA:(t:Int)*2=(p:Int):=by omega
   have kA0:(0:Int)≤(p:Int):=by omega
   have kA1:(p:Int)<64:=by omega
   have kA2:IntKind.i64.wrap ((p:Int)+1)=(p1:Int):=by rw [IntWalk.i64_in _ (by omega)];omega
   have kA3:(0:Int)≤(p1:Int):=by omega
   have kA4:(p1:Int)<64:=by omega
   have HPL:Hid (pre.length=k):=Lib.hid (by have:=congrArg List.length HPRE.out;simpa [wv] using this)
   have HL2:=Lib.hid (HLN.out j (by omega))
   have kB:(2:Int)+(m:Int)=(u:Int):=by omega
   have kC:(u:Int)+(k:Int)=(j:Int):=by omega
   have hj200:j≤200:=by omega
   have hu10:u≤10:=by omega
   have kU:IntKind.i64.wrap (u:Int)=(u:Int):=IntWalk.i64_in _ (by omega)
   have kJ:IntKind.i64.wrap (j:Int)=(j:Int):=IntWalk.i64_in _ (by omega)
   have kX:IntKind.i64.wrap (x4:Int)=(x4:Int):=IntWalk.i64_in _ (by omega)
   have kX2:IntKind.i64.wrap ((x4:Int)*256)=(x4:Int)*256:=IntWalk.i64_in _ (by omega)
   have kX5:IntKind.i64.wrap (x5:Int)=(x5:Int):=IntWalk.i64_in _ (by omega)
   clear hp hp1 hjj hu hx4 hx5 hiv hr1 hb1 hx1 hcell HR1 z0 z1
   gi_wp2
   refine wpIn_region_any (by kernel_rfl) ?_
   refine wpAnyIn_take (i:=0) (oi:={ dst:=some 20,op:=Op.move (Operand.tmp 5),type:=44,pos:=_,after:=_,guard:=none }) (v:=?_) rfl rfl (by kernel_rfl) (by kernel_rfl) (by kernel_rfl) (fun _ _ _ h=>h) ⟨Or.inl ⟨by rfl,?_⟩,fun _=>rfl⟩ ?_
   rotate_left 1
   ·(intro W;go_simp;try with_reducible rfl)
   try simp only [Act.put,List.setIfInBounds_toArray,List.set_cons_zero,List.set_cons_succ]
   refine wpAnyIn_take (i:=1) (oi:={ dst:=some 21,op:=Op.move (Operand.tmp 6),type:=3,pos:=_,after:=_,guard:=none }) (v:=?_) rfl rfl (by kernel_rfl) (by kernel_rfl) (by kernel_rfl) (fun _ _ _ h=>h) ⟨Or.inl ⟨by rfl,?_⟩,fun _=>rfl⟩ ?_
   rotate_left 1
   ·(intro W;go_simp;try with_reducible rfl)
   try simp only [Act.put,List.setIfInBounds_toArray,List.set_cons_zero,List.set_cons_succ]
   refine wpAnyIn_take (i:=2) (oi:={ dst:=some 22,op:=Op.indexAddr 44 (Operand.tmp 20) (Operand.tmp 21),type:=0,pos:=_,after:=_,guard:=none }) (v:=?_) rfl rfl (by kernel_rfl) (by kernel_rfl) (by kernel_rfl) (fun _ _ _ h=>h) ⟨Or.inl ⟨by rfl,?_⟩,fun _=>rfl⟩ ?_
   rotate_left 1
   ·(intro W;go_simp;try with_reducible rfl)
   try simp only [Act.put,List.setIfInBounds_toArray,List.set_cons_zero,List.set_cons_succ]
   refine wpAnyIn_take (i:=6) (oi:={ dst:=some 26,op:=Op.move (Operand.tmp 5),type:=44,pos:=_,after:=_,guard:=none }) (v:=?_) rfl rfl (by kernel_rfl) (by kernel_rfl) (by kernel_rfl) (fun _ _ _ h=>h) ⟨Or.inl ⟨by rfl,?_⟩,fun _=>rfl⟩ ?_
   rotate_left 1
   ·(intro W;go_simp;try with_reducible rfl)
   try simp only [Act.put,List.setIfInBounds_toArray,List.set_cons_zero,List.set_cons_succ]
   refine wpAnyIn_take (i:=7) (oi:={ dst:=some 27,op:=Op.move (Operand.tmp 6),type:=3,pos:=_,after:=_,guard:=none }) (v:=?_) rfl rfl (by kernel_rfl) (by kernel_rfl) (by kernel_rfl) (fun _ _ _ h=>h) ⟨Or.inl ⟨by rfl,?_⟩,fun _=>rfl⟩ ?_
   rotate_left 1
   ·(intro W;go_simp;try with_reducible rfl)
   try simp only [Act.put,List.setIfInBounds_toArray,List.set_cons_zero,List.set_cons_succ]
   refine wpAnyIn_take (i:=8) (oi:={ dst:=some 28,op:=Op.binOp BinOp.add 3 (Operand.tmp 27) (Operand.const (Value.int IntKind.i64 1)) 3,type:=3,pos:=_,after:=_,guard:=none }) (v:=?_) rfl rfl (by kernel_rfl) (by kernel_rfl) (by kernel_rfl) (fun _ _ _ h=>h) ⟨Or.inl ⟨by rfl,?_⟩,fun _=>rfl⟩ ?_
   rotate_left 1
   ·(intro W;go_simp;try with_reducible rfl)
   try simp only [Act.put,List.setIfInBounds_toArray,List.set_cons_zero,List.set_cons_succ]
   refine wpAnyIn_take (i:=9) (oi:={ dst:=some 29,op:=Op.indexAddr 44 (Operand.tmp 26) (Operand.tmp 28),type:=0,pos:=_,after:=_,guard:=none }) (v:=?_) rfl rfl (by kernel_rfl) (by kernel_rfl) (by kernel_rfl) (fun _ _ _ h=>h) ⟨Or.inl ⟨by rfl,?_⟩,fun _=>rfl⟩ ?_
   rotate_left 1
   ·(intro W;go_simp;try with_reducible rfl)
   try simp only [Act.put,List.setIfInBounds_toArray,List.set_cons_zero,List.set_cons_succ]
   refine wpAnyIn_ready (rs:=[3,10]) (by kernel_rfl) (by simp) ?_
   refine AllReadyIn.cons (o:={ dst:=some 23,op:=Op.load 5 (Operand.tmp 22),type:=5,pos:=_,after:=_,guard:=none }) rfl (fun K hK=>?_) ?_
   ·go_simp
    refine hK _ _ ?_
    clear hK K
    try simp only [Act.put,List.setIfInBounds_toArray,List.set_cons_zero,List.set_cons_succ]
    refine wpAnyIn_take (i:=4) (oi:={ dst:=some 24,op:=Op.convert 5 3 (Operand.tmp 23),type:=3,pos:=_,after:=_,guard:=none }) (v:=?_) rfl rfl (by kernel_rfl) (by kernel_rfl) (by kernel_rfl) (fun _ _ _ h=>h) ⟨Or.inl ⟨by rfl,?_⟩,fun _=>rfl⟩ ?_
    rotate_left 1
    ·(intro W;go_simp;try with_reducible rfl)
    try simp only [Act.put,List.setIfInBounds_toArray,List.set_cons_zero,List.set_cons_succ]
    refine wpAnyIn_take (i:=5) (oi:={ dst:=some 25,op:=Op.binOp BinOp.shl 3 (Operand.tmp 24) (Operand.const (Value.int IntKind.u64 8)) 176,type:=3,pos:=_,after:=_,guard:=none }) (v:=?_) rfl rfl (by kernel_rfl) (by kernel_rfl) (by kernel_rfl) (fun _ _ _ h=>h) ⟨Or.inl ⟨by rfl,?_⟩,fun _=>rfl⟩ ?_
    rotate_left 1
    ·(intro W;go_simp;try with_reducible rfl)
    try simp only [Act.put,List.setIfInBounds_toArray,List.set_cons_zero,List.set_cons_succ]
    refine wpAnyIn_ready (rs:=[10]) (by kernel_rfl) (by simp) ?_
    refine AllReadyIn.cons (o:={ dst:=some 30,op:=Op.load 5 (Operand.tmp 29),type:=5,pos:=_,after:=_,guard:=none }) rfl (fun K hK=>?_) AllReadyIn.nil
    go_simp
    refine hK _ _ ?_
    clear hK K
    try simp only [Act.put,List.setIfInBounds_toArray,List.set_cons_zero,List.set_cons_succ]
    refine wpAnyIn_take (i:=11) (oi:={ dst:=some 31,op:=Op.convert 5 3 (Operand.tmp 30),type:=3,pos:=_,after:=_,guard:=none }) (v:=?_) rfl rfl (by kernel_rfl) (by kernel_rfl) (by kernel_rfl) (fun _ _ _ h=>h) ⟨Or.inl ⟨by rfl,?_⟩,fun _=>rfl⟩ ?_
    rotate_left 1
    ·(intro W;go_simp;try with_reducible rfl)
    try simp only [Act.put,List.setIfInBounds_toArray,List.set_cons_zero,List.set_cons_succ]
    refine wpAnyIn_take (i:=12) (oi:={ dst:=some 32,op:=Op.binOp BinOp.or 3 (Operand.tmp 25) (Operand.tmp 31) 3,type:=3,pos:=_,after:=_,guard:=none }) (v:=?_) rfl rfl (by kernel_rfl) (by kernel_rfl) (by kernel_rfl) (fun _ _ _ h=>h) ⟨Or.inl ⟨by rfl,?_⟩,fun _=>rfl⟩ ?_
    rotate_left 1
    ·(intro W;go_simp;try with_reducible rfl)
    try simp only [Act.put,List.setIfInBounds_toArray,List.set_cons_zero,List.set_cons_succ]
    refine wpAnyIn_take (i:=13) (oi:={ dst:=some 7,op:=Op.assign (Operand.tmp 32),type:=3,pos:=_,after:=_,guard:=none }) (v:=?_) rfl rfl (by kernel_rfl) (by kernel_rfl) (by kernel_rfl) (fun _ _ _ h=>h) ⟨Or.inl ⟨by rfl,?_⟩,fun _=>rfl⟩ ?_
    rotate_left 1
    ·(intro W;go_simp;try with_reducible rfl)
    try simp only [Act.put,List.setIfInBounds_toArray,List.set_cons_zero,List.set_cons_succ]
    refine wpAnyIn_done (by kernel_rfl) ?_ _
    clear k4 k5
    obtain ⟨y,hy⟩:∃ y,y=w1.drew:=⟨_,rfl⟩
    rw [←hy]
    have hby:Below w1.heap.size w1 y:=by rw [hy];exact (Below.refl _ w1).drew
    have HKY:Hid (KpG w G w y):=Lib.hid (HK1.out.trans (KpG.below HK1.out.1 hby))
    have HJY:=Lib.hid (HJ.out _ _ _ none HJ1.out (grown_of hby) (fun r e=>by cases e))
    have HR2:=Lib.hid (callsIn_wide (n:=1).2 (HRD.out y.drew (show KpG w G w y.drew from HKY.out) j))
    clear hy hby
    gi_wp2
    refine wpIn_region_any (by kernel_rfl) ?_
    refine wpAnyIn_take (i:=0) (oi:={ dst:=some 33,op:=Op.move (Operand.tmp 0),type:=177,pos:=_,after:=_,guard:=none }) (v:=?_) rfl rfl (by kernel_rfl) (by kernel_rfl) (by kernel_rfl) (fun _ _ _ h=>h) ⟨Or.inl ⟨by rfl,?_⟩,fun _=>rfl⟩ ?_
    rotate_left 1
    ·(intro W;go_simp;try with_reducible rfl)
    try simp only [Act.put,List.setIfInBounds_toArray,List.set_cons_zero,List.set_cons_succ]
    refine wpAnyIn_take (i:=1) (oi:={ dst:=some 34,op:=Op.move (Operand.tmp 7),type:=3,pos:=_,after:=_,guard:=none }) (v:=?_) rfl rfl (by kernel_rfl) (by kernel_rfl) (by kernel_rfl) (fun _ _ _ h=>h) ⟨Or.inl ⟨by rfl,?_⟩,fun _=>rfl⟩ ?_
    rotate_left 1
    ·(intro W;go_simp;try with_reducible rfl)
    try simp only [Act.put,List.setIfInBounds_toArray,List.set_cons_zero,List.set_cons_succ]
    refine wpAnyIn_take (i:=6) (oi:={ dst:=some 39,op:=Op.move (Operand.tmp 4),type:=3,pos:=_,after:=_,guard:=none }) (v:=?_) rfl rfl (by kernel_rfl) (by kernel_rfl) (by kernel_rfl) (fun _ _ _ h=>h) ⟨Or.inl ⟨by rfl,?_⟩,fun _=>rfl⟩ ?_
    rotate_left 1
    ·(intro W;go_simp;try with_reducible rfl)
    try simp only [Act.put,List.setIfInBounds_toArray,List.set_cons_zero,List.set_cons_succ]
    refine wpAnyIn_ready (rs:=[2,3]) (by kernel_rfl) (by simp) ?_
    refine AllReadyIn.cons (o:={ dst:=some 35,op:=Op.load 23 (Operand.tmp 2),type:=23,pos:=_,after:=_,guard:=none }) rfl (fun K hK=>?_) ?_
    ·have z0:=(HDK.out y HKY.out).2.1
     have z1:=(HDK.out y HKY.out).2.2
     go_simp
     clear z0 z1
     refine hK _ _ ?_
     clear hK K
     try simp only [Act.put,List.setIfInBounds_toArray,List.set_cons_zero,List.set_cons_succ]
     refine wpAnyIn_ready (rs:=[3]) (by kernel_rfl) (by simp) ?_
     refine AllReadyIn.cons (o:={ dst:=some 36,op:=Op.load 3 (Operand.tmp 1),type:=3,pos:=_,after:=_,guard:=none }) rfl (fun K hK=>?_) AllReadyIn.nil
     have z0:=(HDK.out y HKY.out).2.1
     have z1:=(HDK.out y HKY.out).2.2
     go_simp
     clear z0 z1
     refine hK _ _ ?_
     clear hK K
     try simp only [Act.put,List.setIfInBounds_toArray,List.set_cons_zero,List.set_cons_succ]
     refine wpAnyIn_ready (rs:=[4]) (by kernel_rfl) (by simp) ?_
     refine AllReadyIn.cons (o:={ dst:=some 37,op:=Op.call { callee:=Callee.value (Operand.func 108),args:=#[Operand.tmp 36],argTypes:=#[3] },type:=3,pos:=_,after:=_,guard:=none }) rfl (fun K hK=>?_) AllReadyIn.nil
     go_simp
     refine ⟨trivial,(callsIn_wide.2 (HSH.out _)).mono ?_⟩
     rintro e wx ⟨rfl,rfl⟩
     go_simp
     refine hK _ _ ?_
     clear hK K
     try simp only [Act.put,List.setIfInBounds_toArray,List.set_cons_zero,List.set_cons_succ]
     refine wpAnyIn_take (i:=5) (oi:={ dst:=some 38,op:=Op.binOp BinOp.add 3 (Operand.const (Value.int IntKind.i64 2)) (Operand.tmp 37) 3,type:=3,pos:=_,after:=_,guard:=none }) (v:=?_) rfl rfl (by kernel_rfl) (by kernel_rfl) (by kernel_rfl) (fun _ _ _ h=>h) ⟨Or.inl ⟨by rfl,?_⟩,fun _=>rfl⟩ ?_
     rotate_left 1
     ·(intro W;go_simp;try with_reducible rfl)
     try simp only [Act.put,List.setIfInBounds_toArray,List.set_cons_zero,List.set_cons_succ]
     refine wpAnyIn_take (i:=7) (oi:={ dst:=some 40,op:=Op.binOp BinOp.add 3 (Operand.tmp 38) (Operand.tmp 39) 3,type:=3,pos:=_,after:=_,guard:=none }) (v:=?_) rfl rfl (by kernel_rfl) (by kernel_rfl) (by kernel_rfl) (fun _ _ _ h=>h) ⟨Or.inl ⟨by rfl,?_⟩,fun _=>rfl⟩ ?_
     rotate_left 1
     ·(intro W;go_simp;try with_reducible rfl)
     try simp only [Act.put,List.setIfInBounds_toArray,List.set_cons_zero,List.set_cons_succ]
     refine wpAnyIn_ready (rs:=[8]) (by kernel_rfl) (by simp) ?_
     refine AllReadyIn.cons (o:={ dst:=some 41,op:=Op.call { callee:=Callee.value (Operand.func 63),args:=#[Operand.tmp 35,Operand.tmp 40],argTypes:=#[23,3] },type:=44,pos:=_,after:=_,guard:=none }) rfl (fun K hK=>?_) AllReadyIn.nil
     go_simp
     refine ⟨trivial,HR2.out.mono ?_⟩
     rintro e w2 ⟨A2,n2,c2,rfl,hn2,hr2,hx2,hb2⟩
     rw [HL2.out] at hn2
     subst hn2
     obtain ⟨rfl,rfl,hrow2⟩:=hx2 (by omega)
     have HROW:=Lib.hid hrow2
     have HB2:=Lib.hid hb2
     have HR3:=Lib.hid hr2
     clear hr2 hx2 hb2 hrow2
     go_simp
     refine hK _ _ ?_
     clear hK K
     try simp only [Act.put,List.setIfInBounds_toArray,List.set_cons_zero,List.set_cons_succ]
     refine wpAnyIn_ready (rs:=[9]) (by kernel_rfl) (by simp) ?_
     refine AllReadyIn.cons (o:={ dst:=some 42,op:=Op.call { callee:=Callee.value (Operand.tmp 33),args:=#[Operand.tmp 34,Operand.tmp 41],argTypes:=#[3,44] },type:=4,pos:=_,after:=_,guard:=none }) rfl (fun K hK=>?_) AllReadyIn.nil
     have hyy:=HY.out pre ⟨((iv:Nat):Int),some ⟨y.heap.size,0,none⟩,64,s.read (j:Int)⟩ w2 (HJ.out _ _ _ none (HJY.out) (show y.grownBy w2 none from ⟨HB2.out.os,HB2.out.tape,HB2.out.output,HB2.out.size,fun g hg _=>HB2.out.block g hg⟩) (fun r e=>by cases e)) ⟨HR3.out,HL2.out,y.heap.size,rfl,HKY.out.1,HROW.out⟩ (by have:=HPL.out;omega)
     rw [show tlv ⟨((iv:Nat):Int),some ⟨y.heap.size,0,none⟩,64,s.read (j:Int)⟩=#[.int .i64 (iv:Int),.slice (some ⟨y.heap.size,0,none⟩) 64 64] from rfl] at hyy
     obtain ⟨fn,tmps,assign,bdy,hyr,hR⟩:=hyy
     have HYR:=Lib.hid hR
     clear hR
     go_simp
     refine HYR.out.mono ?_
     rintro e W2 hcase
     obtain ⟨bb,rfl,hc2⟩:∃ bb:Bool,e = .returned (.bool bb)∧(if bb=true then J (pre ++ [⟨((iv:Nat):Int),some ⟨y.heap.size,0,none⟩,64,s.read (j:Int)⟩]) W2∧KpG w G w2 W2 else Jx (pre ++ [⟨((iv:Nat):Int),some ⟨y.heap.size,0,none⟩,64,s.read (j:Int)⟩]) W2):=by
      rcases hcase with ⟨rfl,h1,h2⟩ | ⟨rfl,h1⟩
      ·exact ⟨true,rfl,by rw [if_pos rfl];exact ⟨h1,h2⟩⟩
      ·exact ⟨false,rfl,by rw [if_neg (by decide)];exact h1⟩
     have HCS:=Lib.hid hc2
     clear hc2 hcase HYR hyr
     go_simp
     refine hK _ _ ?_
     clear hK K
     try simp only [Act.put,List.setIfInBounds_toArray,List.set_cons_zero,List.set_cons_succ]
     refine wpAnyIn_take (i:=10) (oi:={ dst:=some 43,op:=Op.unOp UnOp.not 4 (Operand.tmp 42),type:=4,pos:=_,after:=_,guard:=none }) (v:=?_) rfl rfl (by kernel_rfl) (by kernel_rfl) (by kernel_rfl) (fun _ _ _ h=>h) ⟨Or.inl ⟨by rfl,?_⟩,fun _=>rfl⟩ ?_
     rotate_left 1
     ·(intro W;go_simp;try with_reducible rfl)
     try simp only [Act.put,List.setIfInBounds_toArray,List.set_cons_zero,List.set_cons_succ]
     refine wpAnyIn_done (by kernel_rfl) ?_ _
     have HPN:Hid (wv (pre ++ [⟨((iv:Nat):Int),some ⟨y.heap.size,0,none⟩,64,s.read (j:Int)⟩])=(List.range (k+1)).map (s.toldAt n)):=Lib.hid (by
      have h:=HPRE.out
      rw [wv] at h
      rw [List.range_succ,List.map_append,wv,List.map_append,h]
      simp only [List.map_cons,List.map_nil]
      rw [HIV.out]
      rfl)
     rcases bb with _ | _
     ·have HXX:=Lib.hid (show Jx (pre ++ [⟨((iv:Nat):Int),some ⟨y.heap.size,0,none⟩,64,s.read (j:Int)⟩]) W2 from HCS.out)
      clear HCS
      gi_wp2
      exact bodyPost_ret (v:=.tuple #[]) (by simp [results,Tryz.results107,go_sem]) rfl ⟨⟨_,rfl⟩,.inr ⟨_,by rw [HPN.out];exact (range_pre (by omega)).map _,HXX.out⟩⟩
     ·have HXX:=Lib.hid (show J (pre ++ [⟨((iv:Nat):Int),some ⟨y.heap.size,0,none⟩,64,s.read (j:Int)⟩]) W2∧KpG w G w2 W2 from HCS.out)
      have HK9:Hid (KpG w G w W2):=Lib.hid ((HKY.out.trans (KpG.below HKY.out.1 (show Below y.heap.size y w2 from ⟨HB2.out.os,HB2.out.tape,HB2.out.output,HB2.out.size,HB2.out.block⟩))).trans HXX.out.2)
      clear HCS
      gi_wp2
      go_roundw
      case rel=>exact ⟨k+1,_,by omega,by go_num,HPN,HXX.out.1,HK9⟩
      case measure=>simp [intOf];omega
    refine AllReadyIn.cons (o:={ dst:=some 36,op:=Op.load 3 (Operand.tmp 1),type:=3,pos:=_,after:=_,guard:=none }) rfl (fun K hK=>?_) AllReadyIn.nil
    have z0:=(HDK.out y HKY.out).2.1
    have z1:=(HDK.out y HKY.out).2.2
    go_simp
    clear z0 z1
    refine hK _ _ ?_
    clear hK K
    try simp only [Act.put,List.setIfInBounds_toArray,List.set_cons_zero,List.set_cons_succ]
    refine wpAnyIn_ready (rs:=[2,4]) (by kernel_rfl) (by simp) ?_
    refine AllReadyIn.cons (o:={ dst:=some 35,op:=Op.load 23 (Operand.tmp 2),type:=23,pos:=_,after:=_,guard:=none }) rfl (fun K hK=>?_) ?_
    ·have z0:=(HDK.out y HKY.out).2.1
     have z1:=(HDK.out y HKY.out).2.2
     go_simp
     clear z0 z1
     refine hK _ _ ?_
     clear hK K
     try simp only [Act.put,List.setIfInBounds_toArray,List.set_cons_zero,List.set_cons_succ]
     refine wpAnyIn_ready (rs:=[4]) (by kernel_rfl) (by simp) ?_
     refine AllReadyIn.cons (o:={ dst:=some 37,op:=Op.call { callee:=Callee.value (Operand.func 108),args:=#[Operand.tmp 36],argTypes:=#[3] },type:=3,pos:=_,after:=_,guard:=none }) rfl (fun K hK=>?_) AllReadyIn.nil
     go_simp
     refine ⟨trivial,(callsIn_wide.2 (HSH.out _)).mono ?_⟩
     rintro e wx ⟨rfl,rfl⟩
     go_simp
     refine hK _ _ ?_
     clear hK K
     try simp only [Act.put,List.setIfInBounds_toArray,List.set_cons_zero,List.set_cons_succ]
     refine wpAnyIn_take (i:=5) (oi:={ dst:=some 38,op:=Op.binOp BinOp.add 3 (Operand.const (Value.int IntKind.i64 2)) (Operand.tmp 37) 3,type:=3,pos:=_,after:=_,guard:=none }) (v:=?_) rfl rfl (by kernel_rfl) (by kernel_rfl) (by kernel_rfl) (fun _ _ _ h=>h) ⟨Or.inl ⟨by rfl,?_⟩,fun _=>rfl⟩ ?_
     rotate_left 1
     ·(intro W;go_simp;try with_reducible rfl)
     try simp only [Act.put,List.setIfInBounds_toArray,List.set_cons_zero,List.set_cons_succ]
     refine wpAnyIn_take (i:=7) (oi:={ dst:=some 40,op:=Op.binOp BinOp.add 3 (Operand.tmp 38) (Operand.tmp 39) 3,type:=3,pos:=_,after:=_,guard:=none }) (v:=?_) rfl rfl (by kernel_rfl) (by kernel_rfl) (by kernel_rfl) (fun _ _ _ h=>h) ⟨Or.inl ⟨by rfl,?_⟩,fun _=>rfl⟩ ?_
     rotate_left 1
     ·(intro W;go_simp;try with_reducible rfl)
     try simp only [Act.put,List.setIfInBounds_toArray,List.set_cons_zero,List.set_cons_succ]
     refine wpAnyIn_ready (rs:=[8]) (by kernel_rfl) (by simp) ?_
     refine AllReadyIn.cons (o:={ dst:=some 41,op:=Op.call { callee:=Callee.value (Operand.func 63),args:=#[Operand.tmp 35,Operand.tmp 40],argTypes:=#[23,3] },type:=44,pos:=_,after:=_,guard:=none }) rfl (fun K hK=>?_) AllReadyIn.nil
     go_simp
     refine ⟨trivial,HR2.out.mono ?_⟩
     rintro e w2 ⟨A2,n2,c2,rfl,hn2,hr2,hx2,hb2⟩
     rw [HL2.out] at hn2
     subst hn2
     obtain ⟨rfl,rfl,hrow2⟩:=hx2 (by omega)
     have HROW:=Lib.hid hrow2
     have HB2:=Lib.hid hb2
     have HR3:=Lib.hid hr2
     clear hr2 hx2 hb2 hrow2
     go_simp
     refine hK _ _ ?_
     clear hK K
     try simp only [Act.put,List.setIfInBounds_toArray,List.set_cons_zero,List.set_cons_succ]
     refine wpAnyIn_ready (rs:=[9]) (by kernel_rfl) (by simp) ?_
     refine AllReadyIn.cons (o:={ dst:=some 42,op:=Op.call { callee:=Callee.value (Operand.tmp 33),args:=#[Operand.tmp 34,Operand.tmp 41],argTypes:=#[3,44] },type:=4,pos:=_,after:=_,guard:=none }) rfl (fun K hK=>?_) AllReadyIn.nil
     have hyy:=HY.out pre ⟨((iv:Nat):Int),some ⟨y.heap.size,0,none⟩,64,s.read (j:Int)⟩ w2 (HJ.out _ _ _ none (HJY.out) (show y.grownBy w2 none from ⟨HB2.out.os,HB2.out.tape,HB2.out.output,HB2.out.size,fun g hg _=>HB2.out.block g hg⟩) (fun r e=>by cases e)) ⟨HR3.out,HL2.out,y.heap.size,rfl,HKY.out.1,HROW.out⟩ (by have:=HPL.out;omega)
     rw [show tlv ⟨((iv:Nat):Int),some ⟨y.heap.size,0,none⟩,64,s.read (j:Int)⟩=#[.int .i64 (iv:Int),.slice (some ⟨y.heap.size,0,none⟩) 64 64] from rfl] at hyy
     obtain ⟨fn,tmps,assign,bdy,hyr,hR⟩:=hyy
     have HYR:=Lib.hid hR
     clear hR
     go_simp
     refine HYR.out.mono ?_
     rintro e W2 hcase
     obtain ⟨bb,rfl,hc2⟩:∃ bb:Bool,e = .returned (.bool bb)∧(if bb=true then J (pre ++ [⟨((iv:Nat):Int),some ⟨y.heap.size,0,none⟩,64,s.read (j:Int)⟩]) W2∧KpG w G w2 W2 else Jx (pre ++ [⟨((iv:Nat):Int),some ⟨y.heap.size,0,none⟩,64,s.read (j:Int)⟩]) W2):=by
      rcases hcase with ⟨rfl,h1,h2⟩ | ⟨rfl,h1⟩
      ·exact ⟨true,rfl,by rw [if_pos rfl];exact ⟨h1,h2⟩⟩
      ·exact ⟨false,rfl,by rw [if_neg (by decide)];exact h1⟩
     have HCS:=Lib.hid hc2
     clear hc2 hcase HYR hyr
     go_simp
     refine hK _ _ ?_
     clear hK K
     try simp only [Act.put,List.setIfInBounds_toArray,List.set_cons_zero,List.set_cons_succ]
     refine wpAnyIn_take (i:=10) (oi:={ dst:=some 43,op:=Op.unOp UnOp.not 4 (Operand.tmp 42),type:=4,pos:=_,after:=_,guard:=none }) (v:=?_) rfl rfl (by kernel_rfl) (by kernel_rfl) (by kernel_rfl) (fun _ _ _ h=>h) ⟨Or.inl ⟨by rfl,?_⟩,fun _=>rfl⟩ ?_
     rotate_left 1
     ·(intro W;go_simp;try with_reducible rfl)
     try simp only [Act.put,List.setIfInBounds_toArray,List.set_cons_zero,List.set_cons_succ]
     refine wpAnyIn_done (by kernel_rfl) ?_ _
     have HPN:Hid (wv (pre ++ [⟨((iv:Nat):Int),some ⟨y.heap.size,0,none⟩,64,s.read (j:Int)⟩])=(List.range (k+1)).map (s.toldAt n)):=Lib.hid (by
      have h:=HPRE.out
      rw [wv] at h
      rw [List.range_succ,List.map_append,wv,List.map_append,h]
      simp only [List.map_cons,List.map_nil]
      rw [HIV.out]
      rfl)
     rcases bb with _ | _
     ·have HXX:=Lib.hid (show Jx (pre ++ [⟨((iv:Nat):Int),some ⟨y.heap.size,0,none⟩,64,s.read (j:Int)⟩]) W2 from HCS.out)
      clear HCS
      gi_wp2
      exact bodyPost_ret (v:=.tuple #[]) (by simp [results,Tryz.results107,go_sem]) rfl ⟨⟨_,rfl⟩,.inr ⟨_,by rw [HPN.out];exact (range_pre (by omega)).map _,HXX.out⟩⟩
     ·have HXX:=Lib.hid (show J (pre ++ [⟨((iv:Nat):Int),some ⟨y.heap.size,0,none⟩,64,s.read (j:Int)⟩]) W2∧KpG w G w2 W2 from HCS.out)
      have HK9:Hid (KpG w G w W2):=Lib.hid ((HKY.out.trans (KpG.below HKY.out.1 (show Below y.heap.size y w2 from ⟨HB2.out.os,HB2.out.tape,HB2.out.output,HB2.out.size,HB2.out.block⟩))).trans HXX.out.2)
      clear HCS
      gi_wp2
      go_roundw
      case rel=>exact ⟨k+1,_,by omega,by go_num,HPN,HXX.out.1,HK9⟩
      case measure=>simp [intOf];omega
    refine AllReadyIn.cons (o:={ dst:=some 37,op:=Op.call { callee:=Callee.value (Operand.func 108),args:=#[Operand.tmp 36],argTypes:=#[3] },type:=3,pos:=_,after:=_,guard:=none }) rfl (fun K hK=>?_) AllReadyIn.nil
    go_simp
    refine ⟨trivial,(callsIn_wide.2 (HSH.out _)).mono ?_⟩
    rintro e wx ⟨rfl,rfl⟩
    go_simp
    refine hK _ _ ?_
    clear hK K
    try simp only [Act.put,List.setIfInBounds_toArray,List.set_cons_zero,List.set_cons_succ]
    refine wpAnyIn_take (i:=5) (oi:={ dst:=some 38,op:=Op.binOp BinOp.add 3 (Operand.const (Value.int IntKind.i64 2)) (Operand.tmp 37) 3,type:=3,pos:=_,after:=_,guard:=none }) (v:=?_) rfl rfl (by kernel_rfl) (by kernel_rfl) (by kernel_rfl) (fun _ _ _ h=>h) ⟨Or.inl ⟨by rfl,?_⟩,fun _=>rfl⟩ ?_
    rotate_left 1
    ·(intro W;go_simp;try with_reducible rfl)
    try simp only [Act.put,List.setIfInBounds_toArray,List.set_cons_zero,List.set_cons_succ]
    refine wpAnyIn_take (i:=7) (oi:={ dst:=some 40,op:=Op.binOp BinOp.add 3 (Operand.tmp 38) (Operand.tmp 39) 3,type:=3,pos:=_,after:=_,guard:=none }) (v:=?_) rfl rfl (by kernel_rfl) (by kernel_rfl) (by kernel_rfl) (fun _ _ _ h=>h) ⟨Or.inl ⟨by rfl,?_⟩,fun _=>rfl⟩ ?_
    rotate_left 1
    ·(intro W;go_simp;try with_reducible rfl)
    try simp only [Act.put,List.setIfInBounds_toArray,List.set_cons_zero,List.set_cons_succ]
    refine wpAnyIn_ready (rs:=[2]) (by kernel_rfl) (by simp) ?_
    refine AllReadyIn.cons (o:={ dst:=some 35,op:=Op.load 23 (Operand.tmp 2),type:=23,pos:=_,after:=_,guard:=none }) rfl (fun K hK=>?_) AllReadyIn.nil
    have z0:=(HDK.out y HKY.out).2.1
    have z1:=(HDK.out y HKY.out).2.2
    go_simp
    clear z0 z1
    refine hK _ _ ?_
    clear hK K
    try simp only [Act.put,List.setIfInBounds_toArray,List.set_cons_zero,List.set_cons_succ]
    refine wpAnyIn_ready (rs:=[8]) (by kernel_rfl) (by simp) ?_
    refine AllReadyIn.cons (o:={ dst:=some 41,op:=Op.call { callee:=Callee.value (Operand.func 63),args:=#[Operand.tmp 35,Operand.tmp 40],argTypes:=#[23,3] },type:=44,pos:=_,after:=_,guard:=none }) rfl (fun K hK=>?_) AllReadyIn.nil
    go_simp
    refine ⟨trivial,HR2.out.mono ?_⟩
    rintro e w2 ⟨A2,n2,c2,rfl,hn2,hr2,hx2,hb2⟩
    rw [HL2.out] at hn2
    subst hn2
    obtain ⟨rfl,rfl,hrow2⟩:=hx2 (by omega)
    have HROW:=Lib.hid hrow2
    have HB2:=Lib.hid hb2
    have HR3:=Lib.hid hr2
    clear hr2 hx2 hb2 hrow2
    go_simp
    refine hK _ _ ?_
    clear hK K
    try simp only [Act.put,List.setIfInBounds_toArray,List.set_cons_zero,List.set_cons_succ]
    refine wpAnyIn_ready (rs:=[9]) (by kernel_rfl) (by simp) ?_
    refine AllReadyIn.cons (o:={ dst:=some 42,op:=Op.call { callee:=Callee.value (Operand.tmp 33),args:=#[Operand.tmp 34,Operand.tmp 41],argTypes:=#[3,44] },type:=4,pos:=_,after:=_,guard:=none }) rfl (fun K hK=>?_) AllReadyIn.nil
    have hyy:=HY.out pre ⟨((iv:Nat):Int),some ⟨y.heap.size,0,none⟩,64,s.read (j:Int)⟩ w2 (HJ.out _ _ _ none (HJY.out) (show y.grownBy w2 none from ⟨HB2.out.os,HB2.out.tape,HB2.out.output,HB2.out.size,fun g hg _=>HB2.out.block g hg⟩) (fun r e=>by cases e)) ⟨HR3.out,HL2.out,y.heap.size,rfl,HKY.out.1,HROW.out⟩ (by have:=HPL.out;omega)
    rw [show tlv ⟨((iv:Nat):Int),some ⟨y.heap.size,0,none⟩,64,s.read (j:Int)⟩=#[.int .i64 (iv:Int),.slice (some ⟨y.heap.size,0,none⟩) 64 64] from rfl] at hyy
    obtain ⟨fn,tmps,assign,bdy,hyr,hR⟩:=hyy
    have HYR:=Lib.hid hR
    clear hR
    go_simp
    refine HYR.out.mono ?_
    rintro e W2 hcase
    obtain ⟨bb,rfl,hc2⟩:∃ bb:Bool,e = .returned (.bool bb)∧(if bb=true then J (pre ++ [⟨((iv:Nat):Int),some ⟨y.heap.size,0,none⟩,64,s.read (j:Int)⟩]) W2∧KpG w G w2 W2 else Jx (pre ++ [⟨((iv:Nat):Int),some ⟨y.heap.size,0,none⟩,64,s.read (j:Int)⟩]) W2):=by
     rcases hcase with ⟨rfl,h1,h2⟩ | ⟨rfl,h1⟩
     ·exact ⟨true,rfl,by rw [if_pos rfl];exact ⟨h1,h2⟩⟩
     ·exact ⟨false,rfl,by rw [if_neg (by decide)];exact h1⟩
    have HCS:=Lib.hid hc2
    clear hc2 hcase HYR hyr
    go_simp
    refine hK _ _ ?_
    clear hK K
    try simp only [Act.put,List.setIfInBounds_toArray,List.set_cons_zero,List.set_cons_succ]
    refine wpAnyIn_take (i:=10) (oi:={ dst:=some 43,op:=Op.unOp UnOp.not 4 (Operand.tmp 42),type:=4,pos:=_,after:=_,guard:=none }) (v:=?_) rfl rfl (by kernel_rfl) (by kernel_rfl) (by kernel_rfl) (fun _ _ _ h=>h) ⟨Or.inl ⟨by rfl,?_⟩,fun _=>rfl⟩ ?_
    rotate_left 1
    ·(intro W;go_simp;try with_reducible rfl)
    try simp only [Act.put,List.setIfInBounds_toArray,List.set_cons_zero,List.set_cons_succ]
    refine wpAnyIn_done (by kernel_rfl) ?_ _
    have HPN:Hid (wv (pre ++ [⟨((iv:Nat):Int),some ⟨y.heap.size,0,none⟩,64,s.read (j:Int)⟩])=(List.range (k+1)).map (s.toldAt n)):=Lib.hid (by
     have h:=HPRE.out
     rw [wv] at h
     rw [List.range_succ,List.map_append,wv,List.map_append,h]
     simp only [List.map_cons,List.map_nil]
     rw [HIV.out]
     rfl)
    rcases bb with _ | _
    ·have HXX:=Lib.hid (show Jx (pre ++ [⟨((iv:Nat):Int),some ⟨y.heap.size,0,none⟩,64,s.read (j:Int)⟩]) W2 from HCS.out)
     clear HCS
     gi_wp2
     exact bodyPost_ret (v:=.tuple #[]) (by simp [results,Tryz.results107,go_sem]) rfl ⟨⟨_,rfl⟩,.inr ⟨_,by rw [HPN.out];exact (range_pre (by omega)).map _,HXX.out⟩⟩
    ·have HXX:=Lib.hid (show J (pre ++ [⟨((iv:Nat):Int),some ⟨y.heap.size,0,none⟩,64,s.read (j:Int)⟩]) W2∧KpG w G w2 W2 from HCS.out)
     have HK9:Hid (KpG w G w W2):=Lib.hid ((HKY.out.trans (KpG.below HKY.out.1 (show Below y.heap.size y w2 from ⟨HB2.out.os,HB2.out.tape,HB2.out.output,HB2.out.size,HB2.out.block⟩))).trans HXX.out.2)
     clear HCS
     gi_wp2
     go_roundw
     case rel=>exact ⟨k+1,_,by omega,by go_num,HPN,HXX.out.1,HK9⟩
     case measure=>simp [intOf];omega
   refine AllReadyIn.cons (o:={ dst:=some 30,op:=Op.load 5 (Operand.tmp 29),type:=5,pos:=_,after:=_,guard:=none }) rfl (fun K hK=>?_) AllReadyIn.nil
   go_simp
   refine hK _ _ ?_
   clear hK K
   try simp only [Act.put,List.setIfInBounds_toArray,List.set_cons_zero,List.set_cons_succ]
   refine wpAnyIn_take (i:=11) (oi:={ dst:=some 31,op:=Op.convert 5 3 (Operand.tmp 30),type:=3,pos:=_,after:=_,guard:=none }) (v:=?_) rfl rfl (by kernel_rfl) (by kernel_rfl) (by kernel_rfl) (fun _ _ _ h=>h) ⟨Or.inl ⟨by rfl,?_⟩,fun _=>rfl⟩ ?_
   rotate_left 1
   ·(intro W;go_simp;try with_reducible rfl)
   try simp only [Act.put,List.setIfInBounds_toArray,List.set_cons_zero,List.set_cons_succ]
   refine wpAnyIn_ready (rs:=[3]) (by kernel_rfl) (by simp) ?_
   refine AllReadyIn.cons (o:={ dst:=some 23,op:=Op.load 5 (Operand.tmp 22),type:=5,pos:=_,after:=_,guard:=none }) rfl (fun K hK=>?_) AllReadyIn.nil
   go_simp
   refine hK _ _ ?_
   clear hK K
   try simp only [Act.put,List.setIfInBounds_toArray,List.set_cons_zero,List.set_cons_succ]
   refine wpAnyIn_take (i:=4) (oi:={ dst:=some 24,op:=Op.convert 5 3 (Operand.tmp 23),type:=3,pos:=_,after:=_,guard:=none }) (v:=?_) rfl rfl (by kernel_rfl) (by kernel_rfl) (by kernel_rfl) (fun _ _ _ h=>h) ⟨Or.inl ⟨by rfl,?_⟩,fun _=>rfl⟩ ?_
   rotate_left 1
   ·(intro W;go_simp;try with_reducible rfl)
   try simp only [Act.put,List.setIfInBounds_toArray,List.set_cons_zero,List.set_cons_succ]
   refine wpAnyIn_take (i:=5) (oi:={ dst:=some 25,op:=Op.binOp BinOp.shl 3 (Operand.tmp 24) (Operand.const (Value.int IntKind.u64 8)) 176,type:=3,pos:=_,after:=_,guard:=none }) (v:=?_) rfl rfl (by kernel_rfl) (by kernel_rfl) (by kernel_rfl) (fun _ _ _ h=>h) ⟨Or.inl ⟨by rfl,?_⟩,fun _=>rfl⟩ ?_
   rotate_left 1
   ·(intro W;go_simp;try with_reducible rfl)
   try simp only [Act.put,List.setIfInBounds_toArray,List.set_cons_zero,List.set_cons_succ]
   refine wpAnyIn_take (i:=12) (oi:={ dst:=some 32,op:=Op.binOp BinOp.or 3 (Operand.tmp 25) (Operand.tmp 31) 3,type:=3,pos:=_,after:=_,guard:=none }) (v:=?_) rfl rfl (by kernel_rfl) (by kernel_rfl) (by kernel_rfl) (fun _ _ _ h=>h) ⟨Or.inl ⟨by rfl,?_⟩,fun _=>rfl⟩ ?_
   rotate_left 1
   ·(intro W;go_simp;try with_reducible rfl)
   try simp only [Act.put,List.setIfInBounds_toArray,List.set_cons_zero,List.set_cons_succ]
   refine wpAnyIn_take (i:=13) (oi:={ dst:=some 7,op:=Op.assign (Operand.tmp 32),type:=3,pos:=_,after:=_,guard:=none }) (v:=?_) rfl rfl (by kernel_rfl) (by kernel_rfl) (by kernel_rfl) (fun _ _ _ h=>h) ⟨Or.inl ⟨by rfl,?_⟩,fun _=>rfl⟩ ?_
   rotate_left 1
   ·(intro W;go_simp;try with_reducible rfl)
   try simp only [Act.put,List.setIfInBounds_toArray,List.set_cons_zero,List.set_cons_succ]
   refine wpAnyIn_done (by kernel_rfl) ?_ _
   clear k4 k5
   obtain ⟨y,hy⟩:∃ y,y=w1.drew:=⟨_,rfl⟩
   rw [←hy]
   have hby:Below w1.heap.size w1 y:=by rw [hy];exact (Below.refl _ w1).drew
   have HKY:Hid (KpG w G w y):=Lib.hid (HK1.out.trans (KpG.below HK1.out.1 hby))
   have HJY:=Lib.hid (HJ.out _ _ _ none HJ1.out (grown_of hby) (fun r e=>by cases e))
   have HR2:=Lib.hid (callsIn_wide (n:=1).2 (HRD.out y.drew (show KpG w G w y.drew from HKY.out) j))
   clear hy hby
   gi_wp2
   refine wpIn_region_any (by kernel_rfl) ?_
   refine wpAnyIn_take (i:=0) (oi:={ dst:=some 33,op:=Op.move (Operand.tmp 0),type:=177,pos:=_,after:=_,guard:=none }) (v:=?_) rfl rfl (by kernel_rfl) (by kernel_rfl) (by kernel_rfl) (fun _ _ _ h=>h) ⟨Or.inl ⟨by rfl,?_⟩,fun _=>rfl⟩ ?_
   rotate_left 1
   ·(intro W;go_simp;try with_reducible rfl)
   try simp only [Act.put,List.setIfInBounds_toArray,List.set_cons_zero,List.set_cons_succ]
   refine wpAnyIn_take (i:=1) (oi:={ dst:=some 34,op:=Op.move (Operand.tmp 7),type:=3,pos:=_,after:=_,guard:=none }) (v:=?_) rfl rfl (by kernel_rfl) (by kernel_rfl) (by kernel_rfl) (fun _ _ _ h=>h) ⟨Or.inl ⟨by rfl,?_⟩,fun _=>rfl⟩ ?_
   rotate_left 1
   ·(intro W;go_simp;try with_reducible rfl)
   try simp only [Act.put,List.setIfInBounds_toArray,List.set_cons_zero,List.set_cons_succ]
   refine wpAnyIn_take (i:=6) (oi:={ dst:=some 39,op:=Op.move (Operand.tmp 4),type:=3,pos:=_,after:=_,guard:=none }) (v:=?_) rfl rfl (by kernel_rfl) (by kernel_rfl) (by kernel_rfl) (fun _ _ _ h=>h) ⟨Or.inl ⟨by rfl,?_⟩,fun _=>rfl⟩ ?_
   rotate_left 1
   ·(intro W;go_simp;try with_reducible rfl)
   try simp only [Act.put,List.setIfInBounds_toArray,List.set_cons_zero,List.set_cons_succ]
   refine wpAnyIn_ready (rs:=[2,3]) (by kernel_rfl) (by simp) ?_
   refine AllReadyIn.cons (o:={ dst:=some 35,op:=Op.load 23 (Operand.tmp 2),type:=23,pos:=_,after:=_,guard:=none }) rfl (fun K hK=>?_) ?_
   ·have z0:=(HDK.out y HKY.out).2.1
    have z1:=(HDK.out y HKY.out).2.2
    go_simp
    clear z0 z1
    refine hK _ _ ?_
    clear hK K
    try simp only [Act.put,List.setIfInBounds_toArray,List.set_cons_zero,List.set_cons_succ]
    refine wpAnyIn_ready (rs:=[3]) (by kernel_rfl) (by simp) ?_
    refine AllReadyIn.cons (o:={ dst:=some 36,op:=Op.load 3 (Operand.tmp 1),type:=3,pos:=_,after:=_,guard:=none }) rfl (fun K hK=>?_) AllReadyIn.nil
    have z0:=(HDK.out y HKY.out).2.1
    have z1:=(HDK.out y HKY.out).2.2
    go_simp
    clear z0 z1
    refine hK _ _ ?_
    clear hK K
    try simp only [Act.put,List.setIfInBounds_toArray,List.set_cons_zero,List.set_cons_succ]
    refine wpAnyIn_ready (rs:=[4]) (by kernel_rfl) (by simp) ?_
    refine AllReadyIn.cons (o:={ dst:=some 37,op:=Op.call { callee:=Callee.value (Operand.func 108),args:=#[Operand.tmp 36],argTypes:=#[3] },type:=3,pos:=_,after:=_,guard:=none }) rfl (fun K hK=>?_) AllReadyIn.nil
    go_simp
    refine ⟨trivial,(callsIn_wide.2 (HSH.out _)).mono ?_⟩
    rintro e wx ⟨rfl,rfl⟩
    go_simp
    refine hK _ _ ?_
    clear hK K
    try simp only [Act.put,List.setIfInBounds_toArray,List.set_cons_zero,List.set_cons_succ]
    refine wpAnyIn_take (i:=5) (oi:={ dst:=some 38,op:=Op.binOp BinOp.add 3 (Operand.const (Value.int IntKind.i64 2)) (Operand.tmp 37) 3,type:=3,pos:=_,after:=_,guard:=none }) (v:=?_) rfl rfl (by kernel_rfl) (by kernel_rfl) (by kernel_rfl) (fun _ _ _ h=>h) ⟨Or.inl ⟨by rfl,?_⟩,fun _=>rfl⟩ ?_
    rotate_left 1
    ·(intro W;go_simp;try with_reducible rfl)
    try simp only [Act.put,List.setIfInBounds_toArray,List.set_cons_zero,List.set_cons_succ]
    refine wpAnyIn_take (i:=7) (oi:={ dst:=some 40,op:=Op.binOp BinOp.add 3 (Operand.tmp 38) (Operand.tmp 39) 3,type:=3,pos:=_,after:=_,guard:=none }) (v:=?_) rfl rfl (by kernel_rfl) (by kernel_rfl) (by kernel_rfl) (fun _ _ _ h=>h) ⟨Or.inl ⟨by rfl,?_⟩,fun _=>rfl⟩ ?_
    rotate_left 1
    ·(intro W;go_simp;try with_reducible rfl)
    try simp only [Act.put,List.setIfInBounds_toArray,List.set_cons_zero,List.set_cons_succ]
    refine wpAnyIn_ready (rs:=[8]) (by kernel_rfl) (by simp) ?_
    refine AllReadyIn.cons (o:={ dst:=some 41,op:=Op.call { callee:=Callee.value (Operand.func 63),args:=#[Operand.tmp 35,Operand.tmp 40],argTypes:=#[23,3] },type:=44,pos:=_,after:=_,guard:=none }) rfl (fun K hK=>?_) AllReadyIn.nil
    go_simp
    refine ⟨trivial,HR2.out.mono ?_⟩
    rintro e w2 ⟨A2,n2,c2,rfl,hn2,hr2,hx2,hb2⟩
    rw [HL2.out] at hn2
    subst hn2
    obtain ⟨rfl,rfl,hrow2⟩:=hx2 (by omega)
    have HROW:=Lib.hid hrow2
    have HB2:=Lib.hid hb2
    have HR3:=Lib.hid hr2
    clear hr2 hx2 hb2 hrow2
    go_simp
    refine hK _ _ ?_
    clear hK K
    try simp only [Act.put,List.setIfInBounds_toArray,List.set_cons_zero,List.set_cons_succ]
    refine wpAnyIn_ready (rs:=[9]) (by kernel_rfl) (by simp) ?_
    refine AllReadyIn.cons (o:={ dst:=some 42,op:=Op.call { callee:=Callee.value (Operand.tmp 33),args:=#[Operand.tmp 34,Operand.tmp 41],argTypes:=#[3,44] },type:=4,pos:=_,after:=_,guard:=none }) rfl (fun K hK=>?_) AllReadyIn.nil
    have hyy:=HY.out pre ⟨((iv:Nat):Int),some ⟨y.heap.size,0,none⟩,64,s.read (j:Int)⟩ w2 (HJ.out _ _ _ none (HJY.out) (show y.grownBy w2 none from ⟨HB2.out.os,HB2.out.tape,HB2.out.output,HB2.out.size,fun g hg _=>HB2.out.block g hg⟩) (fun r e=>by cases e)) ⟨HR3.out,HL2.out,y.heap.size,rfl,HKY.out.1,HROW.out⟩ (by have:=HPL.out;omega)
    rw [show tlv ⟨((iv:Nat):Int),some ⟨y.heap.size,0,none⟩,64,s.read (j:Int)⟩=#[.int .i64 (iv:Int),.slice (some ⟨y.heap.size,0,none⟩) 64 64] from rfl] at hyy
    obtain ⟨fn,tmps,assign,bdy,hyr,hR⟩:=hyy
    have HYR:=Lib.hid hR
    clear hR
    go_simp
    refine HYR.out.mono ?_
    rintro e W2 hcase
    obtain ⟨bb,rfl,hc2⟩:∃ bb:Bool,e = .returned (.bool bb)∧(if bb=true then J (pre ++ [⟨((iv:Nat):Int),some ⟨y.heap.size,0,none⟩,64,s.read (j:Int)⟩]) W2∧KpG w G w2 W2 else Jx (pre ++ [⟨((iv:Nat):Int),some ⟨y.heap.size,0,none⟩,64,s.read (j:Int)⟩]) W2):=by
     rcases hcase with ⟨rfl,h1,h2⟩ | ⟨rfl,h1⟩
     ·exact ⟨true,rfl,by rw [if_pos rfl];exact ⟨h1,h2⟩⟩
     ·exact ⟨false,rfl,by rw [if_neg (by decide)];exact h1⟩
    have HCS:=Lib.hid hc2
    clear hc2 hcase HYR hyr
    go_simp
    refine hK _ _ ?_
    clear hK K
    try simp only [Act.put,List.setIfInBounds_toArray,List.set_cons_zero,List.set_cons_succ]
    refine wpAnyIn_take (i:=10) (oi:={ dst:=some 43,op:=Op.unOp UnOp.not 4 (Operand.tmp 42),type:=4,pos:=_,after:=_,guard:=none }) (v:=?_) rfl rfl (by kernel_rfl) (by kernel_rfl) (by kernel_rfl) (fun _ _ _ h=>h) ⟨Or.inl ⟨by rfl,?_⟩,fun _=>rfl⟩ ?_
    rotate_left 1
    ·(intro W;go_simp;try with_reducible rfl)
    try simp only [Act.put,List.setIfInBounds_toArray,List.set_cons_zero,List.set_cons_succ]
    refine wpAnyIn_done (by kernel_rfl) ?_ _
    have HPN:Hid (wv (pre ++ [⟨((iv:Nat):Int),some ⟨y.heap.size,0,none⟩,64,s.read (j:Int)⟩])=(List.range (k+1)).map (s.toldAt n)):=Lib.hid (by
     have h:=HPRE.out
     rw [wv] at h
     rw [List.range_succ,List.map_append,wv,List.map_append,h]
     simp only [List.map_cons,List.map_nil]
     rw [HIV.out]
     rfl)
    rcases bb with _ | _
    ·have HXX:=Lib.hid (show Jx (pre ++ [⟨((iv:Nat):Int),some ⟨y.heap.size,0,none⟩,64,s.read (j:Int)⟩]) W2 from HCS.out)
     clear HCS
     gi_wp2
     exact bodyPost_ret (v:=.tuple #[]) (by simp [results,Tryz.results107,go_sem]) rfl ⟨⟨_,rfl⟩,.inr ⟨_,by rw [HPN.out];exact (range_pre (by omega)).map _,HXX.out⟩⟩
    ·have HXX:=Lib.hid (show J (pre ++ [⟨((iv:Nat):Int),some ⟨y.heap.size,0,none⟩,64,s.read (j:Int)⟩]) W2∧KpG w G w2 W2 from HCS.out)
     have HK9:Hid (KpG w G w W2):=Lib.hid ((HKY.out.trans (KpG.below HKY.out.1 (show Below y.heap.size y w2 from ⟨HB2.out.os,HB2.out.tape,HB2.out.output,HB2.out.size,HB2.out.block⟩))).trans HXX.out.2)
     clear HCS
     gi_wp2
     go_roundw
     case rel=>exact ⟨k+1,_,by omega,by go_num,HPN,HXX.out.1,HK9⟩
     case measure=>simp [intOf];omega
   refine AllReadyIn.cons (o:={ dst:=some 36,op:=Op.load 3 (Operand.tmp 1),type:=3,pos:=_,after:=_,guard:=none }) rfl (fun K hK=>?_) AllReadyIn.nil
   have z0:=(HDK.out y HKY.out).2.1
   have z1:=(HDK.out y HKY.out).2.2
   go_simp
   clear z0 z1
   refine hK _ _ ?_
   clear hK K
   try simp only [Act.put,List.setIfInBounds_toArray,List.set_cons_zero,List.set_cons_succ]
   refine wpAnyIn_ready (rs:=[2,4]) (by kernel_rfl) (by simp) ?_
   refine AllReadyIn.cons (o:={ dst:=some 35,op:=Op.load 23 (Operand.tmp 2),type:=23,pos:=_,after:=_,guard:=none }) rfl (fun K hK=>?_) ?_
   ·have z0:=(HDK.out y HKY.out).2.1
    have z1:=(HDK.out y HKY.out).2.2
    go_simp
    clear z0 z1
    refine hK _ _ ?_
    clear hK K
    try simp only [Act.put,List.setIfInBounds_toArray,List.set_cons_zero,List.set_cons_succ]
    refine wpAnyIn_ready (rs:=[4]) (by kernel_rfl) (by simp) ?_
    refine AllReadyIn.cons (o:={ dst:=some 37,op:=Op.call { callee:=Callee.value (Operand.func 108),args:=#[Operand.tmp 36],argTypes:=#[3] },type:=3,pos:=_,after:=_,guard:=none }) rfl (fun K hK=>?_) AllReadyIn.nil
    go_simp
    refine ⟨trivial,(callsIn_wide.2 (HSH.out _)).mono ?_⟩
    rintro e wx ⟨rfl,rfl⟩
    go_simp
    refine hK _ _ ?_
    clear hK K
    try simp only [Act.put,List.setIfInBounds_toArray,List.set_cons_zero,List.set_cons_succ]
    refine wpAnyIn_take (i:=5) (oi:={ dst:=some 38,op:=Op.binOp BinOp.add 3 (Operand.const (Value.int IntKind.i64 2)) (Operand.tmp 37) 3,type:=3,pos:=_,after:=_,guard:=none }) (v:=?_) rfl rfl (by kernel_rfl) (by kernel_rfl) (by kernel_rfl) (fun _ _ _ h=>h) ⟨Or.inl ⟨by rfl,?_⟩,fun _=>rfl⟩ ?_
    rotate_left 1
    ·(intro W;go_simp;try with_reducible rfl)
    try simp only [Act.put,List.setIfInBounds_toArray,List.set_cons_zero,List.set_cons_succ]
    refine wpAnyIn_take (i:=7) (oi:={ dst:=some 40,op:=Op.binOp BinOp.add 3 (Operand.tmp 38) (Operand.tmp 39) 3,type:=3,pos:=_,after:=_,guard:=none }) (v:=?_) rfl rfl (by kernel_rfl) (by kernel_rfl) (by kernel_rfl) (fun _ _ _ h=>h) ⟨Or.inl ⟨by rfl,?_⟩,fun _=>rfl⟩ ?_
    rotate_left 1
    ·(intro W;go_simp;try with_reducible rfl)
    try simp only [Act.put,List.setIfInBounds_toArray,List.set_cons_zero,List.set_cons_succ]
    refine wpAnyIn_ready (rs:=[8]) (by kernel_rfl) (by simp) ?_
    refine AllReadyIn.cons (o:={ dst:=some 41,op:=Op.call { callee:=Callee.value (Operand.func 63),args:=#[Operand.tmp 35,Operand.tmp 40],argTypes:=#[23,3] },type:=44,pos:=_,after:=_,guard:=none }) rfl (fun K hK=>?_) AllReadyIn.nil
    go_simp
    refine ⟨trivial,HR2.out.mono ?_⟩
    rintro e w2 ⟨A2,n2,c2,rfl,hn2,hr2,hx2,hb2⟩
    rw [HL2.out] at hn2
    subst hn2
    obtain ⟨rfl,rfl,hrow2⟩:=hx2 (by omega)
    have HROW:=Lib.hid hrow2
    have HB2:=Lib.hid hb2
    have HR3:=Lib.hid hr2
    clear hr2 hx2 hb2 hrow2
    go_simp
    refine hK _ _ ?_
    clear hK K
    try simp only [Act.put,List.setIfInBounds_toArray,List.set_cons_zero,List.set_cons_succ]
    refine wpAnyIn_ready (rs:=[9]) (by kernel_rfl) (by simp) ?_
    refine AllReadyIn.cons (o:={ dst:=some 42,op:=Op.call { callee:=Callee.value (Operand.tmp 33),args:=#[Operand.tmp 34,Operand.tmp 41],argTypes:=#[3,44] },type:=4,pos:=_,after:=_,guard:=none }) rfl (fun K hK=>?_) AllReadyIn.nil
    have hyy:=HY.out pre ⟨((iv:Nat):Int),some ⟨y.heap.size,0,none⟩,64,s.read (j:Int)⟩ w2 (HJ.out _ _ _ none (HJY.out) (show y.grownBy w2 none from ⟨HB2.out.os,HB2.out.tape,HB2.out.output,HB2.out.size,fun g hg _=>HB2.out.block g hg⟩) (fun r e=>by cases e)) ⟨HR3.out,HL2.out,y.heap.size,rfl,HKY.out.1,HROW.out⟩ (by have:=HPL.out;omega)
    rw [show tlv ⟨((iv:Nat):Int),some ⟨y.heap.size,0,none⟩,64,s.read (j:Int)⟩=#[.int .i64 (iv:Int),.slice (some ⟨y.heap.size,0,none⟩) 64 64] from rfl] at hyy
    obtain ⟨fn,tmps,assign,bdy,hyr,hR⟩:=hyy
    have HYR:=Lib.hid hR
    clear hR
    go_simp
    refine HYR.out.mono ?_
    rintro e W2 hcase
    obtain ⟨bb,rfl,hc2⟩:∃ bb:Bool,e = .returned (.bool bb)∧(if bb=true then J (pre ++ [⟨((iv:Nat):Int),some ⟨y.heap.size,0,none⟩,64,s.read (j:Int)⟩]) W2∧KpG w G w2 W2 else Jx (pre ++ [⟨((iv:Nat):Int),some ⟨y.heap.size,0,none⟩,64,s.read (j:Int)⟩]) W2):=by
     rcases hcase with ⟨rfl,h1,h2⟩ | ⟨rfl,h1⟩
     ·exact ⟨true,rfl,by rw [if_pos rfl];exact ⟨h1,h2⟩⟩
     ·exact ⟨false,rfl,by rw [if_neg (by decide)];exact h1⟩
    have HCS:=Lib.hid hc2
    clear hc2 hcase HYR hyr
    go_simp
    refine hK _ _ ?_
    clear hK K
    try simp only [Act.put,List.setIfInBounds_toArray,List.set_cons_zero,List.set_cons_succ]
    refine wpAnyIn_take (i:=10) (oi:={ dst:=some 43,op:=Op.unOp UnOp.not 4 (Operand.tmp 42),type:=4,pos:=_,after:=_,guard:=none }) (v:=?_) rfl rfl (by kernel_rfl) (by kernel_rfl) (by kernel_rfl) (fun _ _ _ h=>h) ⟨Or.inl ⟨by rfl,?_⟩,fun _=>rfl⟩ ?_
    rotate_left 1
    ·(intro W;go_simp;try with_reducible rfl)
    try simp only [Act.put,List.setIfInBounds_toArray,List.set_cons_zero,List.set_cons_succ]
    refine wpAnyIn_done (by kernel_rfl) ?_ _
    have HPN:Hid (wv (pre ++ [⟨((iv:Nat):Int),some ⟨y.heap.size,0,none⟩,64,s.read (j:Int)⟩])=(List.range (k+1)).map (s.toldAt n)):=Lib.hid (by
     have h:=HPRE.out
     rw [wv] at h
     rw [List.range_succ,List.map_append,wv,List.map_append,h]
     simp only [List.map_cons,List.map_nil]
     rw [HIV.out]
     rfl)
    rcases bb with _ | _
    ·have HXX:=Lib.hid (show Jx (pre ++ [⟨((iv:Nat):Int),some ⟨y.heap.size,0,none⟩,64,s.read (j:Int)⟩]) W2 from HCS.out)
     clear HCS
     gi_wp2
     exact bodyPost_ret (v:=.tuple #[]) (by simp [results,Tryz.results107,go_sem]) rfl ⟨⟨_,rfl⟩,.inr ⟨_,by rw [HPN.out];exact (range_pre (by omega)).map _,HXX.out⟩⟩
    ·have HXX:=Lib.hid (show J (pre ++ [⟨((iv:Nat):Int),some ⟨y.heap.size,0,none⟩,64,s.read (j:Int)⟩]) W2∧KpG w G w2 W2 from HCS.out)
     have HK9:Hid (KpG w G w W2):=Lib.hid ((HKY.out.trans (KpG.below HKY.out.1 (show Below y.heap.size y w2 from ⟨HB2.out.os,HB2.out.tape,HB2.out.output,HB2.out.size,HB2.out.block⟩))).trans HXX.out.2)
     clear HCS
     gi_wp2
     go_roundw
     case rel=>exact ⟨k+1,_,by omega,by go_num,HPN,HXX.out.1,HK9⟩
     case measure=>simp [intOf];omega
   refine AllReadyIn.cons (o:={ dst:=some 37,op:=Op.call { callee:=Callee.value (Operand.func 108),args:=#[Operand.tmp 36],argTypes:=#[3] },type:=3,pos:=_,after:=_,guard:=none }) rfl (fun K hK=>?_) AllReadyIn.nil
   go_simp
   refine ⟨trivial,(callsIn_wide.2 (HSH.out _)).mono ?_⟩
   rintro e wx ⟨rfl,rfl⟩
   go_simp
   refine hK _ _ ?_
   clear hK K
   try simp only [Act.put,List.setIfInBounds_toArray,List.set_cons_zero,List.set_cons_succ]
   refine wpAnyIn_take (i:=5) (oi:={ dst:=some 38,op:=Op.binOp BinOp.add 3 (Operand.const (Value.int IntKind.i64 2)) (Operand.tmp 37) 3,type:=3,pos:=_,after:=_,guard:=none }) (v:=?_) rfl rfl (by kernel_rfl) (by kernel_rfl) (by kernel_rfl) (fun _ _ _ h=>h) ⟨Or.inl ⟨by rfl,?_⟩,fun _=>rfl⟩ ?_
   rotate_left 1
   ·(intro W;go_simp;try with_reducible rfl)
   try simp only [Act.put,List.setIfInBounds_toArray,List.set_cons_zero,List.set_cons_succ]
   refine wpAnyIn_take (i:=7) (oi:={ dst:=some 40,op:=Op.binOp BinOp.add 3 (Operand.tmp 38) (Operand.tmp 39) 3,type:=3,pos:=_,after:=_,guard:=none }) (v:=?_) rfl rfl (by kernel_rfl) (by kernel_rfl) (by kernel_rfl) (fun _ _ _ h=>h) ⟨Or.inl ⟨by rfl,?_⟩,fun _=>rfl⟩ ?_
   rotate_left 1
   ·(intro W;go_simp;try with_reducible rfl)
   try simp only [Act.put,List.setIfInBounds_toArray,List.set_cons_zero,List.set_cons_succ]
   refine wpAnyIn_ready (rs:=[2]) (by kernel_rfl) (by simp) ?_
   refine AllReadyIn.cons (o:={ dst:=some 35,op:=Op.load 23 (Operand.tmp 2),type:=23,pos:=_,after:=_,guard:=none }) rfl (fun K hK=>?_) AllReadyIn.nil
   have z0:=(HDK.out y HKY.out).2.1
   have z1:=(HDK.out y HKY.out).2.2
   go_simp
   clear z0 z1
   refine hK _ _ ?_
   clear hK K
   try simp only [Act.put,List.setIfInBounds_toArray,List.set_cons_zero,List.set_cons_succ]
   refine wpAnyIn_ready (rs:=[8]) (by kernel_rfl) (by simp) ?_
   refine AllReadyIn.cons (o:={ dst:=some 41,op:=Op.call { callee:=Callee.value (Operand.func 63),args:=#[Operand.tmp 35,Operand.tmp 40],argTypes:=#[23,3] },type:=44,pos:=_,after:=_,guard:=none }) rfl (fun K hK=>?_) AllReadyIn.nil
   go_simp
   refine ⟨trivial,HR2.out.mono ?_⟩
   rintro e w2 ⟨A2,n2,c2,rfl,hn2,hr2,hx2,hb2⟩
   rw [HL2.out] at hn2
   subst hn2
   obtain ⟨rfl,rfl,hrow2⟩:=hx2 (by omega)
   have HROW:=Lib.hid hrow2
   have HB2:=Lib.hid hb2
   have HR3:=Lib.hid hr2
   clear hr2 hx2 hb2 hrow2
   go_simp
   refine hK _ _ ?_
   clear hK K
   try simp only [Act.put,List.setIfInBounds_toArray,List.set_cons_zero,List.set_cons_succ]
   refine wpAnyIn_ready (rs:=[9]) (by kernel_rfl) (by simp) ?_
   refine AllReadyIn.cons (o:={ dst:=some 42,op:=Op.call { callee:=Callee.value (Operand.tmp 33),args:=#[Operand.tmp 34,Operand.tmp 41],argTypes:=#[3,44] },type:=4,pos:=_,after:=_,guard:=none }) rfl (fun K hK=>?_) AllReadyIn.nil
   have hyy:=HY.out pre ⟨((iv:Nat):Int),some ⟨y.heap.size,0,none⟩,64,s.read (j:Int)⟩ w2 (HJ.out _ _ _ none (HJY.out) (show y.grownBy w2 none from ⟨HB2.out.os,HB2.out.tape,HB2.out.output,HB2.out.size,fun g hg _=>HB2.out.block g hg⟩) (fun r e=>by cases e)) ⟨HR3.out,HL2.out,y.heap.size,rfl,HKY.out.1,HROW.out⟩ (by have:=HPL.out;omega)
   rw [show tlv ⟨((iv:Nat):Int),some ⟨y.heap.size,0,none⟩,64,s.read (j:Int)⟩=#[.int .i64 (iv:Int),.slice (some ⟨y.heap.size,0,none⟩) 64 64] from rfl] at hyy
   obtain ⟨fn,tmps,assign,bdy,hyr,hR⟩:=hyy
   have HYR:=Lib.hid hR
   clear hR
   go_simp
   refine HYR.out.mono ?_
   rintro e W2 hcase
   obtain ⟨bb,rfl,hc2⟩:∃ bb:Bool,e = .returned (.bool bb)∧(if bb=true then J (pre ++ [⟨((iv:Nat):Int),some ⟨y.heap.size,0,none⟩,64,s.read (j:Int)⟩]) W2∧KpG w G w2 W2 else Jx (pre ++ [⟨((iv:Nat):Int),some ⟨y.heap.size,0,none⟩,64,s.read (j:Int)⟩]) W2):=by
    rcases hcase with ⟨rfl,h1,h2⟩ | ⟨rfl,h1⟩
    ·exact ⟨true,rfl,by rw [if_pos rfl];exact ⟨h1,h2⟩⟩
    ·exact ⟨false,rfl,by rw [if_neg (by decide)];exact h1⟩
   have HCS:=Lib.hid hc2
   clear hc2 hcase HYR hyr
   go_simp
   refine hK _ _ ?_
   clear hK K
   try simp only [Act.put,List.setIfInBounds_toArray,List.set_cons_zero,List.set_cons_succ]
   refine wpAnyIn_take (i:=10) (oi:={ dst:=some 43,op:=Op.unOp UnOp.not 4 (Operand.tmp 42),type:=4,pos:=_,after:=_,guard:=none }) (v:=?_) rfl rfl (by kernel_rfl) (by kernel_rfl) (by kernel_rfl) (fun _ _ _ h=>h) ⟨Or.inl ⟨by rfl,?_⟩,fun _=>rfl⟩ ?_
   rotate_left 1
   ·(intro W;go_simp;try with_reducible rfl)
   try simp only [Act.put,List.setIfInBounds_toArray,List.set_cons_zero,List.set_cons_succ]
   refine wpAnyIn_done (by kernel_rfl) ?_ _
   have HPN:Hid (wv (pre ++ [⟨((iv:Nat):Int),some ⟨y.heap.size,0,none⟩,64,s.read (j:Int)⟩])=(List.range (k+1)).map (s.toldAt n)):=Lib.hid (by
    have h:=HPRE.out
    rw [wv] at h
    rw [List.range_succ,List.map_append,wv,List.map_append,h]
    simp only [List.map_cons,List.map_nil]
    rw [HIV.out]
    rfl)
   rcases bb with _ | _
   ·have HXX:=Lib.hid (show Jx (pre ++ [⟨((iv:Nat):Int),some ⟨y.heap.size,0,none⟩,64,s.read (j:Int)⟩]) W2 from HCS.out)
    clear HCS
    gi_wp2
    exact bodyPost_ret (v:=.tuple #[]) (by simp [results,Tryz.results107,go_sem]) rfl ⟨⟨_,rfl⟩,.inr ⟨_,by rw [HPN.out];exact (range_pre (by omega)).map _,HXX.out⟩⟩
   ·have HXX:=Lib.hid (show J (pre ++ [⟨((iv:Nat):Int),some ⟨y.heap.size,0,none⟩,64,s.read (j:Int)⟩]) W2∧KpG w G w2 W2 from HCS.out)
    have HK9:Hid (KpG w G w W2):=Lib.hid ((HKY.out.trans (KpG.below HKY.out.1 (show Below y.heap.size y w2 from ⟨HB2.out.os,HB2.out.tape,HB2.out.output,HB2.out.size,HB2.out.block⟩))).trans HXX.out.2)
    clear HCS
    gi_wp2
    go_roundw
    case rel=>exact ⟨k+1,_,by omega,by go_num,HPN,HXX.out.1,HK9⟩
    case measure=>simp [intOf];omega
  case neg =>
   obtain rfl:k=n:=by omega
   have hkI:¬ ((k:Int)<(k:Int)):=by omega
   gi_wp2
   go_end0
   exact ⟨⟨_,rfl⟩,.inl ⟨pre,HPRE.out,hj⟩⟩
end Go.Proofs.YtnedpkhehiijhaaGreat
