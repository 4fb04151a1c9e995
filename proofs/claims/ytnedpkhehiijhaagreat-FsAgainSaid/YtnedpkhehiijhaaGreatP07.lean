/- Words and laws for the statement, part 7. -/
import Derived.Test.YtnedpkhehiijhaaGreatP06
namespace Go.Proofs.YtnedpkhehiijhaaGreat
open Go.RowKit Go.Shelf
set_option linter.unusedVariables false
set_option linter.unusedSimpArgs false
attribute [local go_sem] Oper.semAt_some

set_option maxRecDepth 100000 in
theorem told_any (w:World) (gd n:Nat):Calls Tryz.prog 66 #[.pointer (some ⟨gd,0,none⟩),.int .i64 (n:Int)] w fun e w'=>e = .returned (.func (.func 107) #[] #[.pointer (some ⟨w.heap.size+1,0,none⟩),.pointer (some ⟨w.heap.size,0,none⟩)])∧w'=(w.alloc (.cells #[.pointer (some ⟨gd,0,none⟩)] 23)).alloc (.cells #[.int .i64 (n:Int)] 3):=by
 go_enter Tryz.func66,Tryz.ntmps66
 go_wp2_with fail
 go_ret
 exact ⟨rfl,rfl⟩
theorem getD_mem {l:List Nat} {i:Nat} (h:i<l.length):l.getD i 0∈l:=by
 rw [show l.getD i 0=l[i] by simp [List.getD,h]]
 exact List.getElem_mem h
/-- What is told, as it is handed. -/
def tlv (x:Wr):Array Value:=#[.int .i64 x.at_,.slice x.da 64 x.dc]
def TlM (w:World) (x:Wr) (W:World):Prop:=Rd .u8 W W.heap.size x.da x.dc x.d∧x.d.length=64∧∃ b,x.da=some ⟨b,0,none⟩∧w.heap.size≤b∧Row .u8 5 W b x.d
/-- What the body leaves as it lies: all that lay when the iterator began, but G. -/
def KpG (w:World) (G:Nat→Prop) (A B:World):Prop:=A.heap.size≤B.heap.size∧∀ g,g<w.heap.size→¬ G g→B.heap[g]?=A.heap[g]?
theorem KpG.trans {w A B C:World} {G:Nat→Prop} (h:KpG w G A B) (h2:KpG w G B C):KpG w G A C:=⟨Nat.le_trans h.1 h2.1,fun g hg hG=>(h2.2 g hg hG).trans (h.2 g hg hG)⟩
theorem KpG.below {w A B:World} {G:Nat→Prop} (hw:w.heap.size≤A.heap.size) (h:Below A.heap.size A B):KpG w G A B:=⟨h.size,fun g hg _=>h.block g (by omega)⟩
theorem Disk.keepG {w W:World} {F G:Nat→Prop} {gd:Nat} {s:Dk} (h:Disk w F gd s) (hF:∀ k,F k→¬ G k) (hk:KpG w G w W):Disk W F gd s:=by
 obtain ⟨gn,gl,A,cw,K,ck,hd,f1,f2,f3,f4,f5⟩:=h
 refine ⟨gn,gl,A,cw,K,ck,hd.keepAll hk.1 fun g hg hlt=>hk.2 g hlt (hF g ?_),f1,f2,f3,f4,f5⟩
 rcases hg with rfl | rfl | rfl | hg | hg
 ·exact f1
 ·exact f2
 ·exact f3
 ·exact f4 g hg
 ·exact f5 g hg
theorem KpG.refl (w A:World) (G:Nat→Prop):KpG w G A A:=⟨Nat.le_refl _,fun _ _ _=>rfl⟩
theorem grown_of {A W:World} (h:Below A.heap.size A W):A.grownBy W none:=⟨h.os,h.tape,h.output,h.size,fun g hg _=>h.block g hg⟩
def RelTl (w:World) (G:Nat→Prop) (s:Dk) (n:Nat) (J:List Wr→World→Prop) (i:Value) (wr:World):Prop :=
 ∃ (k:Nat) (pre:List Wr),k≤n∧i = .int .i64 k∧Hid (wv pre=(List.range k).map (s.toldAt n))∧J pre wr∧Hid (KpG w G w wr)
set_option maxRecDepth 100000 in
set_option maxHeartbeats 4000000 in
theorem told_stops {w:World} {F G:Nat→Prop} {gd n:Nat} {s:Dk} (hd:Disk w F gd s) (hF:∀ k,F k→¬ G k) (hoc:∀ i:Nat,Oct1 (s.read (i:Int))) (hn:n≤150) (hmany:0<s.many) (bd bn:Nat) (hbd:Holds w bd 23 #[.pointer (some ⟨gd,0,none⟩)]) (hbn:Holds w bn 3 #[.int .i64 (n:Int)]) (hGd:¬ G bd) (hGn:¬ G bn) :
  StopsM Fence.wide 2 Tryz.prog 107 #[.pointer (some ⟨bn,0,none⟩),.pointer (some ⟨bd,0,none⟩)] tlv (TlM w) (KpG w G) (fun xs=>wv xs=s.told n) (fun pre=>wv pre <+: s.told n) n w:=fun l J Jx W hW hJ hJx hY h0=>by
 have HDK:Hid (∀ V,KpG w G w V→Disk V F gd s∧V.cell? ⟨bd,0,none⟩=some (.pointer (some ⟨gd,0,none⟩))∧V.cell? ⟨bn,0,none⟩=some (.int .i64 (n:Int))):=Lib.hid fun V hV =>
  ⟨hd.keepG hF hV,(show Holds V bd _ _ from (hV.2 bd hbd.lt hGd).trans hbd).cell 0,(show Holds V bn _ _ from (hV.2 bn hbn.lt hGn).trans hbn).cell 0⟩
 have HRD:Hid (∀ V,KpG w G w V→∀ i:Nat,Calls Tryz.prog 63 #[.pointer (some ⟨gd,0,none⟩),.int .i64 (i:Int)] V fun e w'=>∃ A' n' c',e = .returned (.slice A' n' c')∧(s.read (i:Int)).length=n'∧Rd .u8 w' w'.heap.size A' c' (s.read (i:Int))∧(n'≠0→A'=some ⟨V.heap.size,0,none⟩∧c'=n'∧Row .u8 5 w' V.heap.size (s.read (i:Int)))∧Below V.heap.size V w'):=Lib.hid fun V hV i=>disk_read (HDK.out V hV).1 i
 have hnl:157<s.now.length:=by unfold Dk.many at hmany;omega
 have HLN:Hid (∀ i:Nat,i<158→(s.read (i:Int)).length=64):=Lib.hid fun i hi=>hd.sect_read (by omega)
 have HKW:Hid (KpG w G w W):=Lib.hid (KpG.below (Nat.le_refl _) hW)
 have HSH:=Lib.hid (fun V=>sheets_any V n (by omega))
 have hsh:sheetsN n≤5:=by unfold sheetsN;omega
 have HJ:=Lib.hid hJ
 have HJX:=Lib.hid hJx
 have HY:=Lib.hid hY
 have HOC:=Lib.hid hoc
 clear hd hF hbd hbn hGd hGn hW hmany hnl hJ hJx hY hoc
 obtain ⟨m,hm⟩:∃ m,m=sheetsN n:=⟨_,rfl⟩
 rw [←hm] at HSH hsh
 have HMN:=Lib.hid hm
 clear hm
 obtain ⟨_,z0,z1⟩:=HDK.out W HKW.out
 refine callsIn_of_wp Tryz.func107 rfl trivial ?_ rfl
 simp only [Tryz.ntmps107,List.size_toArray,List.length_cons,List.length_nil,Nat.reduceAdd,Nat.reduceSub,Array.replicate_succ,Array.replicate_zero,List.push_toArray,List.append_toArray,List.nil_append,List.cons_append]
 gi_wp2
 clear z0 z1
 gi_loopw [9] (fun i wr=>RelTl w G s n J i wr) (fun i _=>n - (intOf i).toNat)
 case atStart=>exact ⟨0,[],Nat.zero_le _,rfl,Lib.hid rfl,h0,HKW⟩
 case round =>
  obtain ⟨k,pre,hk,rfl,HPRE,hj,HKR⟩:=hrel
  obtain ⟨V,hV⟩:∃ V,V=wr:=⟨_,rfl⟩
  subst hV
  by_cases hlt:k<n
  case pos =>
   have hkI:(k:Int)<(n:Int):=by omega
   have hk0:(0:Int)≤(k:Int):=by omega
   obtain ⟨q,hq⟩:∃ q,q=k / 32:=⟨_,rfl⟩
   obtain ⟨t,ht⟩:∃ t,t=k % 32:=⟨_,rfl⟩
   have kq:(k:Int) / 32=(q:Int):=by omega
   have kt:(k:Int) % 32=(t:Int):=by omega
   have hq4:q≤4:=by omega
   have ht4:t≤31:=by omega
   have kw:IntKind.i64.wrap (2+(q:Int))=((2+q:Nat):Int):=by rw [IntWalk.i64_in _ (by omega)];omega
   obtain ⟨_,z0,z1⟩:=HDK.out V HKR.out
   have HR1:=Lib.hid (callsIn_wide (n:=1).2 (HRD.out V HKR.out (2+q)))
   have HQ:=Lib.hid hq
   have HT:=Lib.hid ht
   clear h0 HKW hq ht
   gi_wp2_with (refine ⟨trivial,?_⟩;gi_at_call 63;refine HR1.out.mono ?_;rintro e w1 ⟨A1,n1,c1,rfl,hn1,hr1,hx1,hb1⟩)

   rw [HLN.out (2+q) (by omega)] at hn1
   subst hn1
   obtain ⟨rfl,rfl,_⟩:=hx1 (by omega)
   have HK1:Hid (KpG w G w w1):=Lib.hid (HKR.out.trans (KpG.below HKR.out.1 hb1))
   have HJ1:=Lib.hid (HJ.out _ _ _ none hj (grown_of hb1) (fun r e=>by cases e))
   have HB1:=Lib.hid hb1
   obtain ⟨_,_,e0,hlt1,hcell⟩:=hr1.2.2 (by rw [HLN.out (2+q) (by omega)];omega)
   injection e0 with e0
   injection e0 with e1 e2
   subst e1 e2
   obtain ⟨p,hp⟩:∃ p,p=2*t:=⟨_,rfl⟩
   obtain ⟨p1,hp1⟩:∃ p1,p1=p+1:=⟨_,rfl⟩
   obtain ⟨j,hjj⟩:∃ j,j=2+m+k:=⟨_,rfl⟩
   obtain ⟨u,hu⟩:∃ u,u=2+m:=⟨_,rfl⟩
   have k4:=hcell p (by rw [HLN.out (2+q) (by omega)];omega)
   have k5:=hcell p1 (by rw [HLN.out (2+q) (by omega)];omega)
   obtain ⟨x4,hx4⟩:∃ x,x=(s.read ((2+q:Nat):Int)).getD p 0:=⟨_,rfl⟩
   obtain ⟨x5,hx5⟩:∃ x,x=(s.read ((2+q:Nat):Int)).getD p1 0:=⟨_,rfl⟩
   have o4:x4<256:=by rw [hx4];exact (HOC.out _) _ (getD_mem (by rw [HLN.out (2+q) (by omega)];omega))
   have o5:x5<256:=by rw [hx5];exact (HOC.out _) _ (getD_mem (by rw [HLN.out (2+q) (by omega)];omega))
   rw [←hx4,Nat.zero_add] at k4
   rw [←hx5,Nat.zero_add] at k5
   have hor:Go.bits BinOp.or IntKind.i64 ((x4:Int)*256) (x5:Int)=((x4*256+x5:Nat):Int):=(or_i64 x4 x5 o4 o5).trans (by push_cast;rfl)
   obtain ⟨iv,hiv⟩:∃ v,v=x4*256+x5:=⟨_,rfl⟩
   rw [←hiv] at hor
   have HIV:Hid (s.toldAt n k=(((iv:Nat):Int),s.read ((j:Nat):Int))):=Lib.hid (by
    unfold Dk.toldAt
    rw [←HQ.out,←HT.out,←HMN.out,←hp,←hp1,←hx4,←hx5,←hiv,←hjj])
   have kA:(t:Int)*2=(p:Int):=by omega
   have kA0:(0:Int)≤(p:Int):=by omega
   have kA1:(p:Int)<64:=by omega
   have kA2:IntKind.i64.wrap ((p:Int)+1)=(p1:Int):=by rw [IntWalk.i64_in _ (by omega)];omega
   have kA3:(0:Int)≤(p1:Int):=by omega
   have kA4:(p1:Int)<64:=by omega
   have HPL:Hid (pre.length=k):=Lib.hid (by have:=congrArg List.length HPRE.out;simpa [wv] using this)
   have HL2:=Lib.hid (HLN.out j (by omega))
   have kB:(2:Int)+(m:Int)=(u:Int):=by omega
   have kC:(u:Int)+(k:Int)=(j:Int):=by omega
   have hj200:j≤200:=by omega
   have hu10:u≤10:=by omega
   have kU:IntKind.i64.wrap (u:Int)=(u:Int):=IntWalk.i64_in _ (by omega)
   have kJ:IntKind.i64.wrap (j:Int)=(j:Int):=IntWalk.i64_in _ (by omega)
   have kX:IntKind.i64.wrap (x4:Int)=(x4:Int):=IntWalk.i64_in _ (by omega)
   have kX2:IntKind.i64.wrap ((x4:Int)*256)=(x4:Int)*256:=IntWalk.i64_in _ (by omega)
   have kX5:IntKind.i64.wrap (x5:Int)=(x5:Int):=IntWalk.i64_in _ (by omega)
   clear hp hp1 hjj hu hx4 hx5 hiv hr1 hb1 hx1 hcell HR1 z0 z1
   gi_wp2
   refine wpIn_region_any (by kernel_rfl) ?_
   refine wpAnyIn_take (i:=0) (oi:={ dst:=some 20,op:=Op.move (Operand.tmp 5),type:=44,pos:=_,after:=_,guard:=none }) (v:=?_) rfl rfl (by kernel_rfl) (by kernel_rfl) (by kernel_rfl) (fun _ _ _ h=>h) ⟨Or.inl ⟨by rfl,?_⟩,fun _=>rfl⟩ ?_
   rotate_left 1
   ·(intro W;go_simp;try with_reducible rfl)
   try simp only [Act.put,List.setIfInBounds_toArray,List.set_cons_zero,List.set_cons_succ]
   refine wpAnyIn_take (i:=1) (oi:={ dst:=some 21,op:=Op.move (Operand.tmp 6),type:=3,pos:=_,after:=_,guard:=none }) (v:=?_) rfl rfl (by kernel_rfl) (by kernel_rfl) (by kernel_rfl) (fun _ _ _ h=>h) ⟨Or.inl ⟨by rfl,?_⟩,fun _=>rfl⟩ ?_
   rotate_left 1
   ·(intro W;go_simp;try with_reducible rfl)
   try simp only [Act.put,List.setIfInBounds_toArray,List.set_cons_zero,List.set_cons_succ]
   refine wpAnyIn_take (i:=2) (oi:={ dst:=some 22,op:=Op.indexAddr 44 (Operand.tmp 20) (Operand.tmp 21),type:=0,pos:=_,after:=_,guard:=none }) (v:=?_) rfl rfl (by kernel_rfl) (by kernel_rfl) (by kernel_rfl) (fun _ _ _ h=>h) ⟨Or.inl ⟨by rfl,?_⟩,fun _=>rfl⟩ ?_
   rotate_left 1
   ·(intro W;go_simp;try with_reducible rfl)
   try simp only [Act.put,List.setIfInBounds_toArray,List.set_cons_zero,List.set_cons_succ]
   refine wpAnyIn_take (i:=6) (oi:={ dst:=some 26,op:=Op.move (Operand.tmp 5),type:=44,pos:=_,after:=_,guard:=none }) (v:=?_) rfl rfl (by kernel_rfl) (by kernel_rfl) (by kernel_rfl) (fun _ _ _ h=>h) ⟨Or.inl ⟨by rfl,?_⟩,fun _=>rfl⟩ ?_
   rotate_left 1
   ·(intro W;go_simp;try with_reducible rfl)
   try simp only [Act.put,List.setIfInBounds_toArray,List.set_cons_zero,List.set_cons_succ]
   refine wpAnyIn_take (i:=7) (oi:={ dst:=some 27,op:=Op.move (Operand.tmp 6),type:=3,pos:=_,after:=_,guard:=none }) (v:=?_) rfl rfl (by kernel_rfl) (by kernel_rfl) (by kernel_rfl) (fun _ _ _ h=>h) ⟨Or.inl ⟨by rfl,?_⟩,fun _=>rfl⟩ ?_
   rotate_left 1
   ·(intro W;go_simp;try with_reducible rfl)
   try simp only [Act.put,List.setIfInBounds_toArray,List.set_cons_zero,List.set_cons_succ]
   refine wpAnyIn_take (i:=8) (oi:={ dst:=some 28,op:=Op.binOp BinOp.add 3 (Operand.tmp 27) (Operand.const (Value.int IntKind.i64 1)) 3,type:=3,pos:=_,after:=_,guard:=none }) (v:=?_) rfl rfl (by kernel_rfl) (by kernel_rfl) (by kernel_rfl) (fun _ _ _ h=>h) ⟨Or.inl ⟨by rfl,?_⟩,fun _=>rfl⟩ ?_
   rotate_left 1
   ·(intro W;go_simp;try with_reducible rfl)
   try simp only [Act.put,List.setIfInBounds_toArray,List.set_cons_zero,List.set_cons_succ]
   refine wpAnyIn_take (i:=9) (oi:={ dst:=some 29,op:=Op.indexAddr 44 (Operand.tmp 26) (Operand.tmp 28),type:=0,pos:=_,after:=_,guard:=none }) (v:=?_) rfl rfl (by kernel_rfl) (by kernel_rfl) (by kernel_rfl) (fun _ _ _ h=>h) ⟨Or.inl ⟨by rfl,?_⟩,fun _=>rfl⟩ ?_
   rotate_left 1
   ·(intro W;go_simp;try with_reducible rfl)
   try simp only [Act.put,List.setIfInBounds_toArray,List.set_cons_zero,List.set_cons_succ]
   refine wpAnyIn_ready (rs:=[3,10]) (by kernel_rfl) (by simp) ?_
   refine AllReadyIn.cons (o:={ dst:=some 23,op:=Op.load 5 (Operand.tmp 22),type:=5,pos:=_,after:=_,guard:=none }) rfl (fun K hK=>?_) ?_
   ·go_simp
    refine hK _ _ ?_
    clear hK K
    try simp only [Act.put,List.setIfInBounds_toArray,List.set_cons_zero,List.set_cons_succ]
    refine wpAnyIn_take (i:=4) (oi:={ dst:=some 24,op:=Op.convert 5 3 (Operand.tmp 23),type:=3,pos:=_,after:=_,guard:=none }) (v:=?_) rfl rfl (by kernel_rfl) (by kernel_rfl) (by kernel_rfl) (fun _ _ _ h=>h) ⟨Or.inl ⟨by rfl,?_⟩,fun _=>rfl⟩ ?_
    rotate_left 1
    ·(intro W;go_simp;try with_reducible rfl)
    try simp only [Act.put,List.setIfInBounds_toArray,List.set_cons_zero,List.set_cons_succ]
    refine wpAnyIn_take (i:=5) (oi:={ dst:=some 25,op:=Op.binOp BinOp.shl 3 (Operand.tmp 24) (Operand.const (Value.int IntKind.u64 8)) 176,type:=3,pos:=_,after:=_,guard:=none }) (v:=?_) rfl rfl (by kernel_rfl) (by kernel_rfl) (by kernel_rfl) (fun _ _ _ h=>h) ⟨Or.inl ⟨by rfl,?_⟩,fun _=>rfl⟩ ?_
    rotate_left 1
    ·(intro W;go_simp;try with_reducible rfl)
    try simp only [Act.put,List.setIfInBounds_toArray,List.set_cons_zero,List.set_cons_succ]
    refine wpAnyIn_ready (rs:=[10]) (by kernel_rfl) (by simp) ?_
    refine AllReadyIn.cons (o:={ dst:=some 30,op:=Op.load 5 (Operand.tmp 29),type:=5,pos:=_,after:=_,guard:=none }) rfl (fun K hK=>?_) AllReadyIn.nil
    go_simp
    refine hK _ _ ?_
    clear hK K
    try simp only [Act.put,List.setIfInBounds_toArray,List.set_cons_zero,List.set_cons_succ]
    refine wpAnyIn_take (i:=11) (oi:={ dst:=some 31,op:=Op.convert 5 3 (Operand.tmp 30),type:=3,pos:=_,after:=_,guard:=none }) (v:=?_) rfl rfl (by kernel_rfl) (by kernel_rfl) (by kernel_rfl) (fun _ _ _ h=>h) ⟨Or.inl ⟨by rfl,?_⟩,fun _=>rfl⟩ ?_
    rotate_left 1
    ·(intro W;go_simp;try with_reducible rfl)
    try simp only [Act.put,List.setIfInBounds_toArray,List.set_cons_zero,List.set_cons_succ]
    refine wpAnyIn_take (i:=12) (oi:={ dst:=some 32,op:=Op.binOp BinOp.or 3 (Operand.tmp 25) (Operand.tmp 31) 3,type:=3,pos:=_,after:=_,guard:=none }) (v:=?_) rfl rfl (by kernel_rfl) (by kernel_rfl) (by kernel_rfl) (fun _ _ _ h=>h) ⟨Or.inl ⟨by rfl,?_⟩,fun _=>rfl⟩ ?_
    rotate_left 1
    ·(intro W;go_simp;try with_reducible rfl)
    try simp only [Act.put,List.setIfInBounds_toArray,List.set_cons_zero,List.set_cons_succ]
    refine wpAnyIn_take (i:=13) (oi:={ dst:=some 7,op:=Op.assign (Operand.tmp 32),type:=3,pos:=_,after:=_,guard:=none }) (v:=?_) rfl rfl (by kernel_rfl) (by kernel_rfl) (by kernel_rfl) (fun _ _ _ h=>h) ⟨Or.inl ⟨by rfl,?_⟩,fun _=>rfl⟩ ?_
    rotate_left 1
    ·(intro W;go_simp;try with_reducible rfl)
    try simp only [Act.put,List.setIfInBounds_toArray,List.set_cons_zero,List.set_cons_succ]
    refine wpAnyIn_done (by kernel_rfl) ?_ _
    clear k4 k5
    obtain ⟨y,hy⟩:∃ y,y=w1.drew:=⟨_,rfl⟩
    rw [←hy]
    have hby:Below w1.heap.size w1 y:=by rw [hy];exact (Below.refl _ w1).drew
    have HKY:Hid (KpG w G w y):=Lib.hid (HK1.out.trans (KpG.below HK1.out.1 hby))
    have HJY:=Lib.hid (HJ.out _ _ _ none HJ1.out (grown_of hby) (fun r e=>by cases e))
    have HR2:=Lib.hid (callsIn_wide (n:=1).2 (HRD.out y.drew (show KpG w G w y.drew from HKY.out) j))
    clear hy hby
    gi_wp2
    refine wpIn_region_any (by kernel_rfl) ?_
    refine wpAnyIn_take (i:=0) (oi:={ dst:=some 33,op:=Op.move (Operand.tmp 0),type:=177,pos:=_,after:=_,guard:=none }) (v:=?_) rfl rfl (by kernel_rfl) (by kernel_rfl) (by kernel_rfl) (fun _ _ _ h=>h) ⟨Or.inl ⟨by rfl,?_⟩,fun _=>rfl⟩ ?_
    rotate_left 1
    ·(intro W;go_simp;try with_reducible rfl)
    try simp only [Act.put,List.setIfInBounds_toArray,List.set_cons_zero,List.set_cons_succ]
    refine wpAnyIn_take (i:=1) (oi:={ dst:=some 34,op:=Op.move (Operand.tmp 7),type:=3,pos:=_,after:=_,guard:=none }) (v:=?_) rfl rfl (by kernel_rfl) (by kernel_rfl) (by kernel_rfl) (fun _ _ _ h=>h) ⟨Or.inl ⟨by rfl,?_⟩,fun _=>rfl⟩ ?_
    rotate_left 1
    ·(intro W;go_simp;try with_reducible rfl)
    try simp only [Act.put,List.setIfInBounds_toArray,List.set_cons_zero,List.set_cons_succ]
    refine wpAnyIn_take (i:=6) (oi:={ dst:=some 39,op:=Op.move (Operand.tmp 4),type:=3,pos:=_,after:=_,guard:=none }) (v:=?_) rfl rfl (by kernel_rfl) (by kernel_rfl) (by kernel_rfl) (fun _ _ _ h=>h) ⟨Or.inl ⟨by rfl,?_⟩,fun _=>rfl⟩ ?_
    rotate_left 1
    ·(intro W;go_simp;try with_reducible rfl)
    try simp only [Act.put,List.setIfInBounds_toArray,List.set_cons_zero,List.set_cons_succ]
    refine wpAnyIn_ready (rs:=[2,3]) (by kernel_rfl) (by simp) ?_
    refine AllReadyIn.cons (o:={ dst:=some 35,op:=Op.load 23 (Operand.tmp 2),type:=23,pos:=_,after:=_,guard:=none }) rfl (fun K hK=>?_) ?_
    ·have z0:=(HDK.out y HKY.out).2.1
     have z1:=(HDK.out y HKY.out).2.2
     go_simp
     clear z0 z1
     refine hK _ _ ?_
     clear hK K
     try simp only [Act.put,List.setIfInBounds_toArray,List.set_cons_zero,List.set_cons_succ]
     refine wpAnyIn_ready (rs:=[3]) (by kernel_rfl) (by simp) ?_
     refine AllReadyIn.cons (o:={ dst:=some 36,op:=Op.load 3 (Operand.tmp 1),type:=3,pos:=_,after:=_,guard:=none }) rfl (fun K hK=>?_) AllReadyIn.nil
     have z0:=(HDK.out y HKY.out).2.1
     have z1:=(HDK.out y HKY.out).2.2
     go_simp
     clear z0 z1
     refine hK _ _ ?_
     clear hK K
     try simp only [Act.put,List.setIfInBounds_toArray,List.set_cons_zero,List.set_cons_succ]
     refine wpAnyIn_ready (rs:=[4]) (by kernel_rfl) (by simp) ?_
     refine AllReadyIn.cons (o:={ dst:=some 37,op:=Op.call { callee:=Callee.value (Operand.func 108),args:=#[Operand.tmp 36],argTypes:=#[3] },type:=3,pos:=_,after:=_,guard:=none }) rfl (fun K hK=>?_) AllReadyIn.nil
     go_simp
     refine ⟨trivial,(callsIn_wide.2 (HSH.out _)).mono ?_⟩
     rintro e wx ⟨rfl,rfl⟩
     go_simp
     refine hK _ _ ?_
     clear hK K
     try simp only [Act.put,List.setIfInBounds_toArray,List.set_cons_zero,List.set_cons_succ]
     refine wpAnyIn_take (i:=5) (oi:={ dst:=some 38,op:=Op.binOp BinOp.add 3 (Operand.const (Value.int IntKind.i64 2)) (Operand.tmp 37) 3,type:=3,pos:=_,after:=_,guard:=none }) (v:=?_) rfl rfl (by kernel_rfl) (by kernel_rfl) (by kernel_rfl) (fun _ _ _ h=>h) ⟨Or.inl ⟨by rfl,?_⟩,fun _=>rfl⟩ ?_
     rotate_left 1
     ·(intro W;go_simp;try with_reducible rfl)
     try simp only [Act.put,List.setIfInBounds_toArray,List.set_cons_zero,List.set_cons_succ]
     refine wpAnyIn_take (i:=7) (oi:={ dst:=some 40,op:=Op.binOp BinOp.add 3 (Operand.tmp 38) (Operand.tmp 39) 3,type:=3,pos:=_,after:=_,guard:=none }) (v:=?_) rfl rfl (by kernel_rfl) (by kernel_rfl) (by kernel_rfl) (fun _ _ _ h=>h) ⟨Or.inl ⟨by rfl,?_⟩,fun _=>rfl⟩ ?_
     rotate_left 1
     ·(intro W;go_simp;try with_reducible rfl)
     try simp only [Act.put,List.setIfInBounds_toArray,List.set_cons_zero,List.set_cons_succ]
     refine wpAnyIn_ready (rs:=[8]) (by kernel_rfl) (by simp) ?_
     refine AllReadyIn.cons (o:={ dst:=some 41,op:=Op.call { callee:=Callee.value (Operand.func 63),args:=#[Operand.tmp 35,Operand.tmp 40],argTypes:=#[23,3] },type:=44,pos:=_,after:=_,guard:=none }) rfl (fun K hK=>?_) AllReadyIn.nil
     go_simp
     refine ⟨trivial,HR2.out.mono ?_⟩
     rintro e w2 ⟨A2,n2,c2,rfl,hn2,hr2,hx2,hb2⟩
     rw [HL2.out] at hn2
     subst hn2
     obtain ⟨rfl,rfl,hrow2⟩:=hx2 (by omega)
     have HROW:=Lib.hid hrow2
     have HB2:=Lib.hid hb2
     have HR3:=Lib.hid hr2
     clear hr2 hx2 hb2 hrow2
     go_simp
     refine hK _ _ ?_
     clear hK K
     try simp only [Act.put,List.setIfInBounds_toArray,List.set_cons_zero,List.set_cons_succ]
     refine wpAnyIn_ready (rs:=[9]) (by kernel_rfl) (by simp) ?_
     refine AllReadyIn.cons (o:={ dst:=some 42,op:=Op.call { callee:=Callee.value (Operand.tmp 33),args:=#[Operand.tmp 34,Operand.tmp 41],argTypes:=#[3,44] },type:=4,pos:=_,after:=_,guard:=none }) rfl (fun K hK=>?_) AllReadyIn.nil
     have hyy:=HY.out pre ⟨((iv:Nat):Int),some ⟨y.heap.size,0,none⟩,64,s.read (j:Int)⟩ w2 (HJ.out _ _ _ none (HJY.out) (show y.grownBy w2 none from ⟨HB2.out.os,HB2.out.tape,HB2.out.output,HB2.out.size,fun g hg _=>HB2.out.block g hg⟩) (fun r e=>by cases e)) ⟨HR3.out,HL2.out,y.heap.size,rfl,HKY.out.1,HROW.out⟩ (by have:=HPL.out;omega)
     rw [show tlv ⟨((iv:Nat):Int),some ⟨y.heap.size,0,none⟩,64,s.read (j:Int)⟩=#[.int .i64 (iv:Int),.slice (some ⟨y.heap.size,0,none⟩) 64 64] from rfl] at hyy
     obtain ⟨fn,tmps,assign,bdy,hyr,hR⟩:=hyy
     have HYR:=Lib.hid hR
     clear hR
     go_simp
     refine HYR.out.mono ?_
     rintro e W2 hcase
     obtain ⟨bb,rfl,hc2⟩:∃ bb:Bool,e = .returned (.bool bb)∧(if bb=true then J (pre ++ [⟨((iv:Nat):Int),some ⟨y.heap.size,0,none⟩,64,s.read (j:Int)⟩]) W2∧KpG w G w2 W2 else Jx (pre ++ [⟨((iv:Nat):Int),some ⟨y.heap.size,0,none⟩,64,s.read (j:Int)⟩]) W2):=by
      rcases hcase with ⟨rfl,h1,h2⟩ | ⟨rfl,h1⟩
      ·exact ⟨true,rfl,by rw [if_pos rfl];exact ⟨h1,h2⟩⟩
      ·exact ⟨false,rfl,by rw [if_neg (by decide)];exact h1⟩
     have HCS:=Lib.hid hc2
     clear hc2 hcase HYR hyr
     go_simp
     refine hK _ _ ?_
     clear hK K
     try simp only [Act.put,List.setIfInBounds_toArray,List.set_cons_zero,List.set_cons_succ]
     refine wpAnyIn_take (i:=10) (oi:={ dst:=some 43,op:=Op.unOp UnOp.not 4 (Operand.tmp 42),type:=4,pos:=_,after:=_,guard:=none }) (v:=?_) rfl rfl (by kernel_rfl) (by kernel_rfl) (by kernel_rfl) (fun _ _ _ h=>h) ⟨Or.inl ⟨by rfl,?_⟩,fun _=>rfl⟩ ?_
     rotate_left 1
     ·(intro W;go_simp;try with_reducible rfl)
     try simp only [Act.put,List.setIfInBounds_toArray,List.set_cons_zero,List.set_cons_succ]
     refine wpAnyIn_done (by kernel_rfl) ?_ _
     have HPN:Hid (wv (pre ++ [⟨((iv:Nat):Int),some ⟨y.heap.size,0,none⟩,64,s.read (j:Int)⟩])=(List.range (k+1)).map (s.toldAt n)):=Lib.hid (by
      have h:=HPRE.out
      rw [wv] at h
      rw [List.range_succ,List.map_append,wv,List.map_append,h]
      simp only [List.map_cons,List.map_nil]
      rw [HIV.out]
      rfl)
     rcases bb with _ | _
     ·have HXX:=Lib.hid (show Jx (pre ++ [⟨((iv:Nat):Int),some ⟨y.heap.size,0,none⟩,64,s.read (j:Int)⟩]) W2 from HCS.out)
      clear HCS
      gi_wp2
      exact bodyPost_ret (v:=.tuple #[]) (by simp [results,Tryz.results107,go_sem]) rfl ⟨⟨_,rfl⟩,.inr ⟨_,by rw [HPN.out];exact (range_pre (by omega)).map _,HXX.out⟩⟩
     ·have HXX:=Lib.hid (show J (pre ++ [⟨((iv:Nat):Int),some ⟨y.heap.size,0,none⟩,64,s.read (j:Int)⟩]) W2∧KpG w G w2 W2 from HCS.out)
      have HK9:Hid (KpG w G w W2):=Lib.hid ((HKY.out.trans (KpG.below HKY.out.1 (show Below y.heap.size y w2 from ⟨HB2.out.os,HB2.out.tape,HB2.out.output,HB2.out.size,HB2.out.block⟩))).trans HXX.out.2)
      clear HCS
      gi_wp2
      go_roundw
      case rel=>exact ⟨k+1,_,by omega,by go_num,HPN,HXX.out.1,HK9⟩
      case measure=>simp [intOf];omega
    refine AllReadyIn.cons (o:={ dst:=some 36,op:=Op.load 3 (Operand.tmp 1),type:=3,pos:=_,after:=_,guard:=none }) rfl (fun K hK=>?_) AllReadyIn.nil
    have z0:=(HDK.out y HKY.out).2.1
    have z1:=(HDK.out y HKY.out).2.2
    go_simp
    clear z0 z1
    refine hK _ _ ?_
    clear hK K
    try simp only [Act.put,List.setIfInBounds_toArray,List.set_cons_zero,List.set_cons_succ]
    refine wpAnyIn_ready (rs:=[2,4]) (by kernel_rfl) (by simp) ?_
    refine AllReadyIn.cons (o:={ dst:=some 35,op:=Op.load 23 (Operand.tmp 2),type:=23,pos:=_,after:=_,guard:=none }) rfl (fun K hK=>?_) ?_
    ·have z0:=(HDK.out y HKY.out).2.1
     have z1:=(HDK.out y HKY.out).2.2
     go_simp
     clear z0 z1
     refine hK _ _ ?_
     clear hK K
     try simp only [Act.put,List.setIfInBounds_toArray,List.set_cons_zero,List.set_cons_succ]
     refine wpAnyIn_ready (rs:=[4]) (by kernel_rfl) (by simp) ?_
     refine AllReadyIn.cons (o:={ dst:=some 37,op:=Op.call { callee:=Callee.value (Operand.func 108),args:=#[Operand.tmp 36],argTypes:=#[3] },type:=3,pos:=_,after:=_,guard:=none }) rfl (fun K hK=>?_) AllReadyIn.nil
     go_simp
     refine ⟨trivial,(callsIn_wide.2 (HSH.out _)).mono ?_⟩
     rintro e wx ⟨rfl,rfl⟩
     go_simp
     refine hK _ _ ?_
     clear hK K
     try simp only [Act.put,List.setIfInBounds_toArray,List.set_cons_zero,List.set_cons_succ]
     refine wpAnyIn_take (i:=5) (oi:={ dst:=some 38,op:=Op.binOp BinOp.add 3 (Operand.const (Value.int IntKind.i64 2)) (Operand.tmp 37) 3,type:=3,pos:=_,after:=_,guard:=none }) (v:=?_) rfl rfl (by kernel_rfl) (by kernel_rfl) (by kernel_rfl) (fun _ _ _ h=>h) ⟨Or.inl ⟨by rfl,?_⟩,fun _=>rfl⟩ ?_
     rotate_left 1
     ·(intro W;go_simp;try with_reducible rfl)
     try simp only [Act.put,List.setIfInBounds_toArray,List.set_cons_zero,List.set_cons_succ]
     refine wpAnyIn_take (i:=7) (oi:={ dst:=some 40,op:=Op.binOp BinOp.add 3 (Operand.tmp 38) (Operand.tmp 39) 3,type:=3,pos:=_,after:=_,guard:=none }) (v:=?_) rfl rfl (by kernel_rfl) (by kernel_rfl) (by kernel_rfl) (fun _ _ _ h=>h) ⟨Or.inl ⟨by rfl,?_⟩,fun _=>rfl⟩ ?_
     rotate_left 1
     ·(intro W;go_simp;try with_reducible rfl)
     try simp only [Act.put,List.setIfInBounds_toArray,List.set_cons_zero,List.set_cons_succ]
     refine wpAnyIn_ready (rs:=[8]) (by kernel_rfl) (by simp) ?_
     refine AllReadyIn.cons (o:={ dst:=some 41,op:=Op.call { callee:=Callee.value (Operand.func 63),args:=#[Operand.tmp 35,Operand.tmp 40],argTypes:=#[23,3] },type:=44,pos:=_,after:=_,guard:=none }) rfl (fun K hK=>?_) AllReadyIn.nil
     go_simp
     refine ⟨trivial,HR2.out.mono ?_⟩
     rintro e w2 ⟨A2,n2,c2,rfl,hn2,hr2,hx2,hb2⟩
     rw [HL2.out] at hn2
     subst hn2
     obtain ⟨rfl,rfl,hrow2⟩:=hx2 (by omega)
     have HROW:=Lib.hid hrow2
     have HB2:=Lib.hid hb2
     have HR3:=Lib.hid hr2
     clear hr2 hx2 hb2 hrow2
     go_simp
     refine hK _ _ ?_
     clear hK K
     try simp only [Act.put,List.setIfInBounds_toArray,List.set_cons_zero,List.set_cons_succ]
     refine wpAnyIn_ready (rs:=[9]) (by kernel_rfl) (by simp) ?_
     refine AllReadyIn.cons (o:={ dst:=some 42,op:=Op.call { callee:=Callee.value (Operand.tmp 33),args:=#[Operand.tmp 34,Operand.tmp 41],argTypes:=#[3,44] },type:=4,pos:=_,after:=_,guard:=none }) rfl (fun K hK=>?_) AllReadyIn.nil
     have hyy:=HY.out pre ⟨((iv:Nat):Int),some ⟨y.heap.size,0,none⟩,64,s.read (j:Int)⟩ w2 (HJ.out _ _ _ none (HJY.out) (show y.grownBy w2 none from ⟨HB2.out.os,HB2.out.tape,HB2.out.output,HB2.out.size,fun g hg _=>HB2.out.block g hg⟩) (fun r e=>by cases e)) ⟨HR3.out,HL2.out,y.heap.size,rfl,HKY.out.1,HROW.out⟩ (by have:=HPL.out;omega)
     rw [show tlv ⟨((iv:Nat):Int),some ⟨y.heap.size,0,none⟩,64,s.read (j:Int)⟩=#[.int .i64 (iv:Int),.slice (some ⟨y.heap.size,0,none⟩) 64 64] from rfl] at hyy
     obtain ⟨fn,tmps,assign,bdy,hyr,hR⟩:=hyy
     have HYR:=Lib.hid hR
     clear hR
     go_simp
     refine HYR.out.mono ?_
     rintro e W2 hcase
     obtain ⟨bb,rfl,hc2⟩:∃ bb:Bool,e = .returned (.bool bb)∧(if bb=true then J (pre ++ [⟨((iv:Nat):Int),some ⟨y.heap.size,0,none⟩,64,s.read (j:Int)⟩]) W2∧KpG w G w2 W2 else Jx (pre ++ [⟨((iv:Nat):Int),some ⟨y.heap.size,0,none⟩,64,s.read (j:Int)⟩]) W2):=by
      rcases hcase with ⟨rfl,h1,h2⟩ | ⟨rfl,h1⟩
      ·exact ⟨true,rfl,by rw [if_pos rfl];exact ⟨h1,h2⟩⟩
      ·exact ⟨false,rfl,by rw [if_neg (by decide)];exact h1⟩
     have HCS:=Lib.hid hc2
     clear hc2 hcase HYR hyr
     go_simp
     refine hK _ _ ?_
     clear hK K
     try simp only [Act.put,List.setIfInBounds_toArray,List.set_cons_zero,List.set_cons_succ]
     refine wpAnyIn_take (i:=10) (oi:={ dst:=some 43,op:=Op.unOp UnOp.not 4 (Operand.tmp 42),type:=4,pos:=_,after:=_,guard:=none }) (v:=?_) rfl rfl (by kernel_rfl) (by kernel_rfl) (by kernel_rfl) (fun _ _ _ h=>h) ⟨Or.inl ⟨by rfl,?_⟩,fun _=>rfl⟩ ?_
     rotate_left 1
     ·(intro W;go_simp;try with_reducible rfl)
     try simp only [Act.put,List.setIfInBounds_toArray,List.set_cons_zero,List.set_cons_succ]
     refine wpAnyIn_done (by kernel_rfl) ?_ _
     have HPN:Hid (wv (pre ++ [⟨((iv:Nat):Int),some ⟨y.heap.size,0,none⟩,64,s.read (j:Int)⟩])=(List.range (k+1)).map (s.toldAt n)):=Lib.hid (by
      have h:=HPRE.out
      rw [wv] at h
      rw [List.range_succ,List.map_append,wv,List.map_append,h]
      simp only [List.map_cons,List.map_nil]
      rw [HIV.out]
      rfl)
     rcases bb with _ | _
     ·have HXX:=Lib.hid (show Jx (pre ++ [⟨((iv:Nat):Int),some ⟨y.heap.size,0,none⟩,64,s.read (j:Int)⟩]) W2 from HCS.out)
      clear HCS
      gi_wp2
      exact bodyPost_ret (v:=.tuple #[]) (by simp [results,Tryz.results107,go_sem]) rfl ⟨⟨_,rfl⟩,.inr ⟨_,by rw [HPN.out];exact (range_pre (by omega)).map _,HXX.out⟩⟩
     ·have HXX:=Lib.hid (show J (pre ++ [⟨((iv:Nat):Int),some ⟨y.heap.size,0,none⟩,64,s.read (j:Int)⟩]) W2∧KpG w G w2 W2 from HCS.out)
      have HK9:Hid (KpG w G w W2):=Lib.hid ((HKY.out.trans (KpG.below HKY.out.1 (show Below y.heap.size y w2 from ⟨HB2.out.os,HB2.out.tape,HB2.out.output,HB2.out.size,HB2.out.block⟩))).trans HXX.out.2)
      clear HCS
      gi_wp2
      go_roundw
      case rel=>exact ⟨k+1,_,by omega,by go_num,HPN,HXX.out.1,HK9⟩
      case measure=>simp [intOf];omega
    refine AllReadyIn.cons (o:={ dst:=some 37,op:=Op.call { callee:=Callee.value (Operand.func 108),args:=#[Operand.tmp 36],argTypes:=#[3] },type:=3,pos:=_,after:=_,guard:=none }) rfl (fun K hK=>?_) AllReadyIn.nil
    go_simp
    refine ⟨trivial,(callsIn_wide.2 (HSH.out _)).mono ?_⟩
    rintro e wx ⟨rfl,rfl⟩
    go_simp
    refine hK _ _ ?_
    clear hK K
    try simp only [Act.put,List.setIfInBounds_toArray,List.set_cons_zero,List.set_cons_succ]
    refine wpAnyIn_take (i:=5) (oi:={ dst:=some 38,op:=Op.binOp BinOp.add 3 (Operand.const (Value.int IntKind.i64 2)) (Operand.tmp 37) 3,type:=3,pos:=_,after:=_,guard:=none }) (v:=?_) rfl rfl (by kernel_rfl) (by kernel_rfl) (by kernel_rfl) (fun _ _ _ h=>h) ⟨Or.inl ⟨by rfl,?_⟩,fun _=>rfl⟩ ?_
    rotate_left 1
    ·(intro W;go_simp;try with_reducible rfl)
    try simp only [Act.put,List.setIfInBounds_toArray,List.set_cons_zero,List.set_cons_succ]
    refine wpAnyIn_take (i:=7) (oi:={ dst:=some 40,op:=Op.binOp BinOp.add 3 (Operand.tmp 38) (Operand.tmp 39) 3,type:=3,pos:=_,after:=_,guard:=none }) (v:=?_) rfl rfl (by kernel_rfl) (by kernel_rfl) (by kernel_rfl) (fun _ _ _ h=>h) ⟨Or.inl ⟨by rfl,?_⟩,fun _=>rfl⟩ ?_
    rotate_left 1
    ·(intro W;go_simp;try with_reducible rfl)
    try simp only [Act.put,List.setIfInBounds_toArray,List.set_cons_zero,List.set_cons_succ]
    refine wpAnyIn_ready (rs:=[2]) (by kernel_rfl) (by simp) ?_
    refine AllReadyIn.cons (o:={ dst:=some 35,op:=Op.load 23 (Operand.tmp 2),type:=23,pos:=_,after:=_,guard:=none }) rfl (fun K hK=>?_) AllReadyIn.nil
    have z0:=(HDK.out y HKY.out).2.1
    have z1:=(HDK.out y HKY.out).2.2
    go_simp
    clear z0 z1
    refine hK _ _ ?_
    clear hK K
    try simp only [Act.put,List.setIfInBounds_toArray,List.set_cons_zero,List.set_cons_succ]
    refine wpAnyIn_ready (rs:=[8]) (by kernel_rfl) (by simp) ?_
    refine AllReadyIn.cons (o:={ dst:=some 41,op:=Op.call { callee:=Callee.value (Operand.func 63),args:=#[Operand.tmp 35,Operand.tmp 40],argTypes:=#[23,3] },type:=44,pos:=_,after:=_,guard:=none }) rfl (fun K hK=>?_) AllReadyIn.nil
    go_simp
    refine ⟨trivial,HR2.out.mono ?_⟩
    rintro e w2 ⟨A2,n2,c2,rfl,hn2,hr2,hx2,hb2⟩
    rw [HL2.out] at hn2
    subst hn2
    obtain ⟨rfl,rfl,hrow2⟩:=hx2 (by omega)
    have HROW:=Lib.hid hrow2
    have HB2:=Lib.hid hb2
    have HR3:=Lib.hid hr2
    clear hr2 hx2 hb2 hrow2
    go_simp
    refine hK _ _ ?_
    clear hK K
    try simp only [Act.put,List.setIfInBounds_toArray,List.set_cons_zero,List.set_cons_succ]
    refine wpAnyIn_ready (rs:=[9]) (by kernel_rfl) (by simp) ?_
    refine AllReadyIn.cons (o:={ dst:=some 42,op:=Op.call { callee:=Callee.value (Operand.tmp 33),args:=#[Operand.tmp 34,Operand.tmp 41],argTypes:=#[3,44] },type:=4,pos:=_,after:=_,guard:=none }) rfl (fun K hK=>?_) AllReadyIn.nil
    have hyy:=HY.out pre ⟨((iv:Nat):Int),some ⟨y.heap.size,0,none⟩,64,s.read (j:Int)⟩ w2 (HJ.out _ _ _ none (HJY.out) (show y.grownBy w2 none from ⟨HB2.out.os,HB2.out.tape,HB2.out.output,HB2.out.size,fun g hg _=>HB2.out.block g hg⟩) (fun r e=>by cases e)) ⟨HR3.out,HL2.out,y.heap.size,rfl,HKY.out.1,HROW.out⟩ (by have:=HPL.out;omega)
    rw [show tlv ⟨((iv:Nat):Int),some ⟨y.heap.size,0,none⟩,64,s.read (j:Int)⟩=#[.int .i64 (iv:Int),.slice (some ⟨y.heap.size,0,none⟩) 64 64] from rfl] at hyy
    obtain ⟨fn,tmps,assign,bdy,hyr,hR⟩:=hyy
    have HYR:=Lib.hid hR
    clear hR
    go_simp
    refine HYR.out.mono ?_
    rintro e W2 hcase
    obtain ⟨bb,rfl,hc2⟩:∃ bb:Bool,e = .returned (.bool bb)∧(if bb=true then J (pre ++ [⟨((iv:Nat):Int),some ⟨y.heap.size,0,none⟩,64,s.read (j:Int)⟩]) W2∧KpG w G w2 W2 else Jx (pre ++ [⟨((iv:Nat):Int),some ⟨y.heap.size,0,none⟩,64,s.read (j:Int)⟩]) W2):=by
     rcases hcase with ⟨rfl,h1,h2⟩ | ⟨rfl,h1⟩
     ·exact ⟨true,rfl,by rw [if_pos rfl];exact ⟨h1,h2⟩⟩
     ·exact ⟨false,rfl,by rw [if_neg (by decide)];exact h1⟩
    have HCS:=Lib.hid hc2
    clear hc2 hcase HYR hyr
    go_simp
    refine hK _ _ ?_
    clear hK K
    try simp only [Act.put,List.setIfInBounds_toArray,List.set_cons_zero,List.set_cons_succ]
    refine wpAnyIn_take (i:=10) (oi:={ dst:=some 43,op:=Op.unOp UnOp.not 4 (Operand.tmp 42),type:=4,pos:=_,after:=_,guard:=none }) (v:=?_) rfl rfl (by kernel_rfl) (by kernel_rfl) (by kernel_rfl) (fun _ _ _ h=>h) ⟨Or.inl ⟨by rfl,?_⟩,fun _=>rfl⟩ ?_
    rotate_left 1
    ·(intro W;go_simp;try with_reducible rfl)
    try simp only [Act.put,List.setIfInBounds_toArray,List.set_cons_zero,List.set_cons_succ]
    refine wpAnyIn_done (by kernel_rfl) ?_ _
    have HPN:Hid (wv (pre ++ [⟨((iv:Nat):Int),some ⟨y.heap.size,0,none⟩,64,s.read (j:Int)⟩])=(List.range (k+1)).map (s.toldAt n)):=Lib.hid (by
     have h:=HPRE.out
     rw [wv] at h
     rw [List.range_succ,List.map_append,wv,List.map_append,h]
     simp only [List.map_cons,List.map_nil]
     rw [HIV.out]
     rfl)
    rcases bb with _ | _
    ·have HXX:=Lib.hid (show Jx (pre ++ [⟨((iv:Nat):Int),some ⟨y.heap.size,0,none⟩,64,s.read (j:Int)⟩]) W2 from HCS.out)
     clear HCS
     gi_wp2
     exact bodyPost_ret (v:=.tuple #[]) (by simp [results,Tryz.results107,go_sem]) rfl ⟨⟨_,rfl⟩,.inr ⟨_,by rw [HPN.out];exact (range_pre (by omega)).map _,HXX.out⟩⟩
    ·have HXX:=Lib.hid (show J (pre ++ [⟨((iv:Nat):Int),some ⟨y.heap.size,0,none⟩,64,s.read (j:Int)⟩]) W2∧KpG w G w2 W2 from HCS.out)
     have HK9:Hid (KpG w G w W2):=Lib.hid ((HKY.out.trans (KpG.below HKY.out.1 (show Below y.heap.size y w2 from ⟨HB2.out.os,HB2.out.tape,HB2.out.output,HB2.out.size,HB2.out.block⟩))).trans HXX.out.2)
     clear HCS
     gi_wp2
     go_roundw
     case rel=>exact ⟨k+1,_,by omega,by go_num,HPN,HXX.out.1,HK9⟩
     case measure=>simp [intOf];omega
   refine AllReadyIn.cons (o:={ dst:=some 30,op:=Op.load 5 (Operand.tmp 29),type:=5,pos:=_,after:=_,guard:=none }) rfl (fun K hK=>?_) AllReadyIn.nil
   go_simp
   refine hK _ _ ?_
   clear hK K
   try simp only [Act.put,List.setIfInBounds_toArray,List.set_cons_zero,List.set_cons_succ]
   refine wpAnyIn_take (i:=11) (oi:={ dst:=some 31,op:=Op.convert 5 3 (Operand.tmp 30),type:=3,pos:=_,after:=_,guard:=none }) (v:=?_) rfl rfl (by kernel_rfl) (by kernel_rfl) (by kernel_rfl) (fun _ _ _ h=>h) ⟨Or.inl ⟨by rfl,?_⟩,fun _=>rfl⟩ ?_
   rotate_left 1
   ·(intro W;go_simp;try with_reducible rfl)
   try simp only [Act.put,List.setIfInBounds_toArray,List.set_cons_zero,List.set_cons_succ]
   refine wpAnyIn_ready (rs:=[3]) (by kernel_rfl) (by simp) ?_
   refine AllReadyIn.cons (o:={ dst:=some 23,op:=Op.load 5 (Operand.tmp 22),type:=5,pos:=_,after:=_,guard:=none }) rfl (fun K hK=>?_) AllReadyIn.nil
   go_simp
   refine hK _ _ ?_
   clear hK K
   try simp only [Act.put,List.setIfInBounds_toArray,List.set_cons_zero,List.set_cons_succ]
   refine wpAnyIn_take (i:=4) (oi:={ dst:=some 24,op:=Op.convert 5 3 (Operand.tmp 23),type:=3,pos:=_,after:=_,guard:=none }) (v:=?_) rfl rfl (by kernel_rfl) (by kernel_rfl) (by kernel_rfl) (fun _ _ _ h=>h) ⟨Or.inl ⟨by rfl,?_⟩,fun _=>rfl⟩ ?_
   rotate_left 1
   ·(intro W;go_simp;try with_reducible rfl)
   try simp only [Act.put,List.setIfInBounds_toArray,List.set_cons_zero,List.set_cons_succ]
   refine wpAnyIn_take (i:=5) (oi:={ dst:=some 25,op:=Op.binOp BinOp.shl 3 (Operand.tmp 24) (Operand.const (Value.int IntKind.u64 8)) 176,type:=3,pos:=_,after:=_,guard:=none }) (v:=?_) rfl rfl (by kernel_rfl) (by kernel_rfl) (by kernel_rfl) (fun _ _ _ h=>h) ⟨Or.inl ⟨by rfl,?_⟩,fun _=>rfl⟩ ?_
   rotate_left 1
   ·(intro W;go_simp;try with_reducible rfl)
   try simp only [Act.put,List.setIfInBounds_toArray,List.set_cons_zero,List.set_cons_succ]
   refine wpAnyIn_take (i:=12) (oi:={ dst:=some 32,op:=Op.binOp BinOp.or 3 (Operand.tmp 25) (Operand.tmp 31) 3,type:=3,pos:=_,after:=_,guard:=none }) (v:=?_) rfl rfl (by kernel_rfl) (by kernel_rfl) (by kernel_rfl) (fun _ _ _ h=>h) ⟨Or.inl ⟨by rfl,?_⟩,fun _=>rfl⟩ ?_
   rotate_left 1
   ·(intro W;go_simp;try with_reducible rfl)
   try simp only [Act.put,List.setIfInBounds_toArray,List.set_cons_zero,List.set_cons_succ]
   refine wpAnyIn_take (i:=13) (oi:={ dst:=some 7,op:=Op.assign (Operand.tmp 32),type:=3,pos:=_,after:=_,guard:=none }) (v:=?_) rfl rfl (by kernel_rfl) (by kernel_rfl) (by kernel_rfl) (fun _ _ _ h=>h) ⟨Or.inl ⟨by rfl,?_⟩,fun _=>rfl⟩ ?_
   rotate_left 1
   ·(intro W;go_simp;try with_reducible rfl)
   try simp only [Act.put,List.setIfInBounds_toArray,List.set_cons_zero,List.set_cons_succ]
   refine wpAnyIn_done (by kernel_rfl) ?_ _
   clear k4 k5
   obtain ⟨y,hy⟩:∃ y,y=w1.drew:=⟨_,rfl⟩
   rw [←hy]
   have hby:Below w1.heap.size w1 y:=by rw [hy];exact (Below.refl _ w1).drew
   have HKY:Hid (KpG w G w y):=Lib.hid (HK1.out.trans (KpG.below HK1.out.1 hby))
   have HJY:=Lib.hid (HJ.out _ _ _ none HJ1.out (grown_of hby) (fun r e=>by cases e))
   have HR2:=Lib.hid (callsIn_wide (n:=1).2 (HRD.out y.drew (show KpG w G w y.drew from HKY.out) j))
   clear hy hby
   gi_wp2
   refine wpIn_region_any (by kernel_rfl) ?_
   refine wpAnyIn_take (i:=0) (oi:={ dst:=some 33,op:=Op.move (Operand.tmp 0),type:=177,pos:=_,after:=_,guard:=none }) (v:=?_) rfl rfl (by kernel_rfl) (by kernel_rfl) (by kernel_rfl) (fun _ _ _ h=>h) ⟨Or.inl ⟨by rfl,?_⟩,fun _=>rfl⟩ ?_
   rotate_left 1
   ·(intro W;go_simp;try with_reducible rfl)
   try simp only [Act.put,List.setIfInBounds_toArray,List.set_cons_zero,List.set_cons_succ]
   refine wpAnyIn_take (i:=1) (oi:={ dst:=some 34,op:=Op.move (Operand.tmp 7),type:=3,pos:=_,after:=_,guard:=none }) (v:=?_) rfl rfl (by kernel_rfl) (by kernel_rfl) (by kernel_rfl) (fun _ _ _ h=>h) ⟨Or.inl ⟨by rfl,?_⟩,fun _=>rfl⟩ ?_
   rotate_left 1
   ·(intro W;go_simp;try with_reducible rfl)
   try simp only [Act.put,List.setIfInBounds_toArray,List.set_cons_zero,List.set_cons_succ]
   refine wpAnyIn_take (i:=6) (oi:={ dst:=some 39,op:=Op.move (Operand.tmp 4),type:=3,pos:=_,after:=_,guard:=none }) (v:=?_) rfl rfl (by kernel_rfl) (by kernel_rfl) (by kernel_rfl) (fun _ _ _ h=>h) ⟨Or.inl ⟨by rfl,?_⟩,fun _=>rfl⟩ ?_
   rotate_left 1
   ·(intro W;go_simp;try with_reducible rfl)
   try simp only [Act.put,List.setIfInBounds_toArray,List.set_cons_zero,List.set_cons_succ]
   refine wpAnyIn_ready (rs:=[2,3]) (by kernel_rfl) (by simp) ?_
   refine AllReadyIn.cons (o:={ dst:=some 35,op:=Op.load 23 (Operand.tmp 2),type:=23,pos:=_,after:=_,guard:=none }) rfl (fun K hK=>?_) ?_
   ·have z0:=(HDK.out y HKY.out).2.1
    have z1:=(HDK.out y HKY.out).2.2
    go_simp
    clear z0 z1
    refine hK _ _ ?_
    clear hK K
    try simp only [Act.put,List.setIfInBounds_toArray,List.set_cons_zero,List.set_cons_succ]
    refine wpAnyIn_ready (rs:=[3]) (by kernel_rfl) (by simp) ?_
    refine AllReadyIn.cons (o:={ dst:=some 36,op:=Op.load 3 (Operand.tmp 1),type:=3,pos:=_,after:=_,guard:=none }) rfl (fun K hK=>?_) AllReadyIn.nil
    have z0:=(HDK.out y HKY.out).2.1
    have z1:=(HDK.out y HKY.out).2.2
    go_simp
    clear z0 z1
    refine hK _ _ ?_
    clear hK K
    try simp only [Act.put,List.setIfInBounds_toArray,List.set_cons_zero,List.set_cons_succ]
    refine wpAnyIn_ready (rs:=[4]) (by kernel_rfl) (by simp) ?_
    refine AllReadyIn.cons (o:={ dst:=some 37,op:=Op.call { callee:=Callee.value (Operand.func 108),args:=#[Operand.tmp 36],argTypes:=#[3] },type:=3,pos:=_,after:=_,guard:=none }) rfl (fun K hK=>?_) AllReadyIn.nil
    go_simp
    refine ⟨trivial,(callsIn_wide.2 (HSH.out _)).mono ?_⟩
    rintro e wx ⟨rfl,rfl⟩
    go_simp
    refine hK _ _ ?_
    clear hK K
    try simp only [Act.put,List.setIfInBounds_toArray,List.set_cons_zero,List.set_cons_succ]
    refine wpAnyIn_take (i:=5) (oi:={ dst:=some 38,op:=Op.binOp BinOp.add 3 (Operand.const (Value.int IntKind.i64 2)) (Operand.tmp 37) 3,type:=3,pos:=_,after:=_,guard:=none }) (v:=?_) rfl rfl (by kernel_rfl) (by kernel_rfl) (by kernel_rfl) (fun _ _ _ h=>h) ⟨Or.inl ⟨by rfl,?_⟩,fun _=>rfl⟩ ?_
    rotate_left 1
    ·(intro W;go_simp;try with_reducible rfl)
    try simp only [Act.put,List.setIfInBounds_toArray,List.set_cons_zero,List.set_cons_succ]
    refine wpAnyIn_take (i:=7) (oi:={ dst:=some 40,op:=Op.binOp BinOp.add 3 (Operand.tmp 38) (Operand.tmp 39) 3,type:=3,pos:=_,after:=_,guard:=none }) (v:=?_) rfl rfl (by kernel_rfl) (by kernel_rfl) (by kernel_rfl) (fun _ _ _ h=>h) ⟨Or.inl ⟨by rfl,?_⟩,fun _=>rfl⟩ ?_
    rotate_left 1
    ·(intro W;go_simp;try with_reducible rfl)
    try simp only [Act.put,List.setIfInBounds_toArray,List.set_cons_zero,List.set_cons_succ]
    refine wpAnyIn_ready (rs:=[8]) (by kernel_rfl) (by simp) ?_
    refine AllReadyIn.cons (o:={ dst:=some 41,op:=Op.call { callee:=Callee.value (Operand.func 63),args:=#[Operand.tmp 35,Operand.tmp 40],argTypes:=#[23,3] },type:=44,pos:=_,after:=_,guard:=none }) rfl (fun K hK=>?_) AllReadyIn.nil
    go_simp
    refine ⟨trivial,HR2.out.mono ?_⟩
    rintro e w2 ⟨A2,n2,c2,rfl,hn2,hr2,hx2,hb2⟩
    rw [HL2.out] at hn2
    subst hn2
    obtain ⟨rfl,rfl,hrow2⟩:=hx2 (by omega)
    have HROW:=Lib.hid hrow2
    have HB2:=Lib.hid hb2
    have HR3:=Lib.hid hr2
    clear hr2 hx2 hb2 hrow2
    go_simp
    refine hK _ _ ?_
    clear hK K
    try simp only [Act.put,List.setIfInBounds_toArray,List.set_cons_zero,List.set_cons_succ]
    refine wpAnyIn_ready (rs:=[9]) (by kernel_rfl) (by simp) ?_
    refine AllReadyIn.cons (o:={ dst:=some 42,op:=Op.call { callee:=Callee.value (Operand.tmp 33),args:=#[Operand.tmp 34,Operand.tmp 41],argTypes:=#[3,44] },type:=4,pos:=_,after:=_,guard:=none }) rfl (fun K hK=>?_) AllReadyIn.nil
    have hyy:=HY.out pre ⟨((iv:Nat):Int),some ⟨y.heap.size,0,none⟩,64,s.read (j:Int)⟩ w2 (HJ.out _ _ _ none (HJY.out) (show y.grownBy w2 none from ⟨HB2.out.os,HB2.out.tape,HB2.out.output,HB2.out.size,fun g hg _=>HB2.out.block g hg⟩) (fun r e=>by cases e)) ⟨HR3.out,HL2.out,y.heap.size,rfl,HKY.out.1,HROW.out⟩ (by have:=HPL.out;omega)
    rw [show tlv ⟨((iv:Nat):Int),some ⟨y.heap.size,0,none⟩,64,s.read (j:Int)⟩=#[.int .i64 (iv:Int),.slice (some ⟨y.heap.size,0,none⟩) 64 64] from rfl] at hyy
    obtain ⟨fn,tmps,assign,bdy,hyr,hR⟩:=hyy
    have HYR:=Lib.hid hR
    clear hR
    go_simp
    refine HYR.out.mono ?_
    rintro e W2 hcase
    obtain ⟨bb,rfl,hc2⟩:∃ bb:Bool,e = .returned (.bool bb)∧(if bb=true then J (pre ++ [⟨((iv:Nat):Int),some ⟨y.heap.size,0,none⟩,64,s.read (j:Int)⟩]) W2∧KpG w G w2 W2 else Jx (pre ++ [⟨((iv:Nat):Int),some ⟨y.heap.size,0,none⟩,64,s.read (j:Int)⟩]) W2):=by
     rcases hcase with ⟨rfl,h1,h2⟩ | ⟨rfl,h1⟩
     ·exact ⟨true,rfl,by rw [if_pos rfl];exact ⟨h1,h2⟩⟩
     ·exact ⟨false,rfl,by rw [if_neg (by decide)];exact h1⟩
    have HCS:=Lib.hid hc2
    clear hc2 hcase HYR hyr
    go_simp
    refine hK _ _ ?_
    clear hK K
    try simp only [Act.put,List.setIfInBounds_toArray,List.set_cons_zero,List.set_cons_succ]
    refine wpAnyIn_take (i:=10) (oi:={ dst:=some 43,op:=Op.unOp UnOp.not 4 (Operand.tmp 42),type:=4,pos:=_,after:=_,guard:=none }) (v:=?_) rfl rfl (by kernel_rfl) (by kernel_rfl) (by kernel_rfl) (fun _ _ _ h=>h) ⟨Or.inl ⟨by rfl,?_⟩,fun _=>rfl⟩ ?_
    rotate_left 1
    ·(intro W;go_simp;try with_reducible rfl)
    try simp only [Act.put,List.setIfInBounds_toArray,List.set_cons_zero,List.set_cons_succ]
    refine wpAnyIn_done (by kernel_rfl) ?_ _
    have HPN:Hid (wv (pre ++ [⟨((iv:Nat):Int),some ⟨y.heap.size,0,none⟩,64,s.read (j:Int)⟩])=(List.range (k+1)).map (s.toldAt n)):=Lib.hid (by
     have h:=HPRE.out
     rw [wv] at h
     rw [List.range_succ,List.map_append,wv,List.map_append,h]
     simp only [List.map_cons,List.map_nil]
     rw [HIV.out]
     rfl)
    rcases bb with _ | _
    ·have HXX:=Lib.hid (show Jx (pre ++ [⟨((iv:Nat):Int),some ⟨y.heap.size,0,none⟩,64,s.read (j:Int)⟩]) W2 from HCS.out)
     clear HCS
     gi_wp2
     exact bodyPost_ret (v:=.tuple #[]) (by simp [results,Tryz.results107,go_sem]) rfl ⟨⟨_,rfl⟩,.inr ⟨_,by rw [HPN.out];exact (range_pre (by omega)).map _,HXX.out⟩⟩
    ·have HXX:=Lib.hid (show J (pre ++ [⟨((iv:Nat):Int),some ⟨y.heap.size,0,none⟩,64,s.read (j:Int)⟩]) W2∧KpG w G w2 W2 from HCS.out)
     have HK9:Hid (KpG w G w W2):=Lib.hid ((HKY.out.trans (KpG.below HKY.out.1 (show Below y.heap.size y w2 from ⟨HB2.out.os,HB2.out.tape,HB2.out.output,HB2.out.size,HB2.out.block⟩))).trans HXX.out.2)
     clear HCS
     gi_wp2
     go_roundw
     case rel=>exact ⟨k+1,_,by omega,by go_num,HPN,HXX.out.1,HK9⟩
     case measure=>simp [intOf];omega
   refine AllReadyIn.cons (o:={ dst:=some 36,op:=Op.load 3 (Operand.tmp 1),type:=3,pos:=_,after:=_,guard:=none }) rfl (fun K hK=>?_) AllReadyIn.nil
   have z0:=(HDK.out y HKY.out).2.1
   have z1:=(HDK.out y HKY.out).2.2
   go_simp
   clear z0 z1
   refine hK _ _ ?_
   clear hK K
   try simp only [Act.put,List.setIfInBounds_toArray,List.set_cons_zero,List.set_cons_succ]
   refine wpAnyIn_ready (rs:=[2,4]) (by kernel_rfl) (by simp) ?_
   refine AllReadyIn.cons (o:={ dst:=some 35,op:=Op.load 23 (Operand.tmp 2),type:=23,pos:=_,after:=_,guard:=none }) rfl (fun K hK=>?_) ?_
   ·have z0:=(HDK.out y HKY.out).2.1
    have z1:=(HDK.out y HKY.out).2.2
    go_simp
    clear z0 z1
    refine hK _ _ ?_
    clear hK K
    try simp only [Act.put,List.setIfInBounds_toArray,List.set_cons_zero,List.set_cons_succ]
    refine wpAnyIn_ready (rs:=[4]) (by kernel_rfl) (by simp) ?_
    refine AllReadyIn.cons (o:={ dst:=some 37,op:=Op.call { callee:=Callee.value (Operand.func 108),args:=#[Operand.tmp 36],argTypes:=#[3] },type:=3,pos:=_,after:=_,guard:=none }) rfl (fun K hK=>?_) AllReadyIn.nil
    go_simp
    refine ⟨trivial,(callsIn_wide.2 (HSH.out _)).mono ?_⟩
    rintro e wx ⟨rfl,rfl⟩
    go_simp
    refine hK _ _ ?_
    clear hK K
    try simp only [Act.put,List.setIfInBounds_toArray,List.set_cons_zero,List.set_cons_succ]
    refine wpAnyIn_take (i:=5) (oi:={ dst:=some 38,op:=Op.binOp BinOp.add 3 (Operand.const (Value.int IntKind.i64 2)) (Operand.tmp 37) 3,type:=3,pos:=_,after:=_,guard:=none }) (v:=?_) rfl rfl (by kernel_rfl) (by kernel_rfl) (by kernel_rfl) (fun _ _ _ h=>h) ⟨Or.inl ⟨by rfl,?_⟩,fun _=>rfl⟩ ?_
    rotate_left 1
    ·(intro W;go_simp;try with_reducible rfl)
    try simp only [Act.put,List.setIfInBounds_toArray,List.set_cons_zero,List.set_cons_succ]
    refine wpAnyIn_take (i:=7) (oi:={ dst:=some 40,op:=Op.binOp BinOp.add 3 (Operand.tmp 38) (Operand.tmp 39) 3,type:=3,pos:=_,after:=_,guard:=none }) (v:=?_) rfl rfl (by kernel_rfl) (by kernel_rfl) (by kernel_rfl) (fun _ _ _ h=>h) ⟨Or.inl ⟨by rfl,?_⟩,fun _=>rfl⟩ ?_
    rotate_left 1
    ·(intro W;go_simp;try with_reducible rfl)
    try simp only [Act.put,List.setIfInBounds_toArray,List.set_cons_zero,List.set_cons_succ]
    refine wpAnyIn_ready (rs:=[8]) (by kernel_rfl) (by simp) ?_
    refine AllReadyIn.cons (o:={ dst:=some 41,op:=Op.call { callee:=Callee.value (Operand.func 63),args:=#[Operand.tmp 35,Operand.tmp 40],argTypes:=#[23,3] },type:=44,pos:=_,after:=_,guard:=none }) rfl (fun K hK=>?_) AllReadyIn.nil
    go_simp
    refine ⟨trivial,HR2.out.mono ?_⟩
    rintro e w2 ⟨A2,n2,c2,rfl,hn2,hr2,hx2,hb2⟩
    rw [HL2.out] at hn2
    subst hn2
    obtain ⟨rfl,rfl,hrow2⟩:=hx2 (by omega)
    have HROW:=Lib.hid hrow2
    have HB2:=Lib.hid hb2
    have HR3:=Lib.hid hr2
    clear hr2 hx2 hb2 hrow2
    go_simp
    refine hK _ _ ?_
    clear hK K
    try simp only [Act.put,List.setIfInBounds_toArray,List.set_cons_zero,List.set_cons_succ]
    refine wpAnyIn_ready (rs:=[9]) (by kernel_rfl) (by simp) ?_
    refine AllReadyIn.cons (o:={ dst:=some 42,op:=Op.call { callee:=Callee.value (Operand.tmp 33),args:=#[Operand.tmp 34,Operand.tmp 41],argTypes:=#[3,44] },type:=4,pos:=_,after:=_,guard:=none }) rfl (fun K hK=>?_) AllReadyIn.nil
    have hyy:=HY.out pre ⟨((iv:Nat):Int),some ⟨y.heap.size,0,none⟩,64,s.read (j:Int)⟩ w2 (HJ.out _ _ _ none (HJY.out) (show y.grownBy w2 none from ⟨HB2.out.os,HB2.out.tape,HB2.out.output,HB2.out.size,fun g hg _=>HB2.out.block g hg⟩) (fun r e=>by cases e)) ⟨HR3.out,HL2.out,y.heap.size,rfl,HKY.out.1,HROW.out⟩ (by have:=HPL.out;omega)
    rw [show tlv ⟨((iv:Nat):Int),some ⟨y.heap.size,0,none⟩,64,s.read (j:Int)⟩=#[.int .i64 (iv:Int),.slice (some ⟨y.heap.size,0,none⟩) 64 64] from rfl] at hyy
    obtain ⟨fn,tmps,assign,bdy,hyr,hR⟩:=hyy
    have HYR:=Lib.hid hR
    clear hR
    go_simp
    refine HYR.out.mono ?_
    rintro e W2 hcase
    obtain ⟨bb,rfl,hc2⟩:∃ bb:Bool,e = .returned (.bool bb)∧(if bb=true then J (pre ++ [⟨((iv:Nat):Int),some ⟨y.heap.size,0,none⟩,64,s.read (j:Int)⟩]) W2∧KpG w G w2 W2 else Jx (pre ++ [⟨((iv:Nat):Int),some ⟨y.heap.size,0,none⟩,64,s.read (j:Int)⟩]) W2):=by
     rcases hcase with ⟨rfl,h1,h2⟩ | ⟨rfl,h1⟩
     ·exact ⟨true,rfl,by rw [if_pos rfl];exact ⟨h1,h2⟩⟩
     ·exact ⟨false,rfl,by rw [if_neg (by decide)];exact h1⟩
    have HCS:=Lib.hid hc2
    clear hc2 hcase HYR hyr
    go_simp
    refine hK _ _ ?_
    clear hK K
    try simp only [Act.put,List.setIfInBounds_toArray,List.set_cons_zero,List.set_cons_succ]
    refine wpAnyIn_take (i:=10) (oi:={ dst:=some 43,op:=Op.unOp UnOp.not 4 (Operand.tmp 42),type:=4,pos:=_,after:=_,guard:=none }) (v:=?_) rfl rfl (by kernel_rfl) (by kernel_rfl) (by kernel_rfl) (fun _ _ _ h=>h) ⟨Or.inl ⟨by rfl,?_⟩,fun _=>rfl⟩ ?_
    rotate_left 1
    ·(intro W;go_simp;try with_reducible rfl)
    try simp only [Act.put,List.setIfInBounds_toArray,List.set_cons_zero,List.set_cons_succ]
    refine wpAnyIn_done (by kernel_rfl) ?_ _
    have HPN:Hid (wv (pre ++ [⟨((iv:Nat):Int),some ⟨y.heap.size,0,none⟩,64,s.read (j:Int)⟩])=(List.range (k+1)).map (s.toldAt n)):=Lib.hid (by
     have h:=HPRE.out
     rw [wv] at h
     rw [List.range_succ,List.map_append,wv,List.map_append,h]
     simp only [List.map_cons,List.map_nil]
     rw [HIV.out]
     rfl)
    rcases bb with _ | _
    ·have HXX:=Lib.hid (show Jx (pre ++ [⟨((iv:Nat):Int),some ⟨y.heap.size,0,none⟩,64,s.read (j:Int)⟩]) W2 from HCS.out)
     clear HCS
     gi_wp2
     exact bodyPost_ret (v:=.tuple #[]) (by simp [results,Tryz.results107,go_sem]) rfl ⟨⟨_,rfl⟩,.inr ⟨_,by rw [HPN.out];exact (range_pre (by omega)).map _,HXX.out⟩⟩
    ·have HXX:=Lib.hid (show J (pre ++ [⟨((iv:Nat):Int),some ⟨y.heap.size,0,none⟩,64,s.read (j:Int)⟩]) W2∧KpG w G w2 W2 from HCS.out)
     have HK9:Hid (KpG w G w W2):=Lib.hid ((HKY.out.trans (KpG.below HKY.out.1 (show Below y.heap.size y w2 from ⟨HB2.out.os,HB2.out.tape,HB2.out.output,HB2.out.size,HB2.out.block⟩))).trans HXX.out.2)
     clear HCS
     gi_wp2
     go_roundw
     case rel=>exact ⟨k+1,_,by omega,by go_num,HPN,HXX.out.1,HK9⟩
     case measure=>simp [intOf];omega
   refine AllReadyIn.cons (o:={ dst:=some 37,op:=Op.call { callee:=Callee.value (Operand.func 108),args:=#[Operand.tmp 36],argTypes:=#[3] },type:=3,pos:=_,after:=_,guard:=none }) rfl (fun K hK=>?_) AllReadyIn.nil
   go_simp
   refine ⟨trivial,(callsIn_wide.2 (HSH.out _)).mono ?_⟩
   rintro e wx ⟨rfl,rfl⟩
   go_simp
   refine hK _ _ ?_
   clear hK K
   try simp only [Act.put,List.setIfInBounds_toArray,List.set_cons_zero,List.set_cons_succ]
   refine wpAnyIn_take (i:=5) (oi:={ dst:=some 38,op:=Op.binOp BinOp.add 3 (Operand.const (Value.int IntKind.i64 2)) (Operand.tmp 37) 3,type:=3,pos:=_,after:=_,guard:=none }) (v:=?_) rfl rfl (by kernel_rfl) (by kernel_rfl) (by kernel_rfl) (fun _ _ _ h=>h) ⟨Or.inl ⟨by rfl,?_⟩,fun _=>rfl⟩ ?_
   rotate_left 1
   ·(intro W;go_simp;try with_reducible rfl)
   try simp only [Act.put,List.setIfInBounds_toArray,List.set_cons_zero,List.set_cons_succ]
   refine wpAnyIn_take (i:=7) (oi:={ dst:=some 40,op:=Op.binOp BinOp.add 3 (Operand.tmp 38) (Operand.tmp 39) 3,type:=3,pos:=_,after:=_,guard:=none }) (v:=?_) rfl rfl (by kernel_rfl) (by kernel_rfl) (by kernel_rfl) (fun _ _ _ h=>h) ⟨Or.inl ⟨by rfl,?_⟩,fun _=>rfl⟩ ?_
   rotate_left 1
   ·(intro W;go_simp;try with_reducible rfl)
   try simp only [Act.put,List.setIfInBounds_toArray,List.set_cons_zero,List.set_cons_succ]
   refine wpAnyIn_ready (rs:=[2]) (by kernel_rfl) (by simp) ?_
   refine AllReadyIn.cons (o:={ dst:=some 35,op:=Op.load 23 (Operand.tmp 2),type:=23,pos:=_,after:=_,guard:=none }) rfl (fun K hK=>?_) AllReadyIn.nil
   have z0:=(HDK.out y HKY.out).2.1
   have z1:=(HDK.out y HKY.out).2.2
   go_simp
   clear z0 z1
   refine hK _ _ ?_
   clear hK K
   try simp only [Act.put,List.setIfInBounds_toArray,List.set_cons_zero,List.set_cons_succ]
   refine wpAnyIn_ready (rs:=[8]) (by kernel_rfl) (by simp) ?_
   refine AllReadyIn.cons (o:={ dst:=some 41,op:=Op.call { callee:=Callee.value (Operand.func 63),args:=#[Operand.tmp 35,Operand.tmp 40],argTypes:=#[23,3] },type:=44,pos:=_,after:=_,guard:=none }) rfl (fun K hK=>?_) AllReadyIn.nil
   go_simp
   refine ⟨trivial,HR2.out.mono ?_⟩
   rintro e w2 ⟨A2,n2,c2,rfl,hn2,hr2,hx2,hb2⟩
   rw [HL2.out] at hn2
   subst hn2
   obtain ⟨rfl,rfl,hrow2⟩:=hx2 (by omega)
   have HROW:=Lib.hid hrow2
   have HB2:=Lib.hid hb2
   have HR3:=Lib.hid hr2
   clear hr2 hx2 hb2 hrow2
   go_simp
   refine hK _ _ ?_
   clear hK K
   try simp only [Act.put,List.setIfInBounds_toArray,List.set_cons_zero,List.set_cons_succ]
   refine wpAnyIn_ready (rs:=[9]) (by kernel_rfl) (by simp) ?_
   refine AllReadyIn.cons (o:={ dst:=some 42,op:=Op.call { callee:=Callee.value (Operand.tmp 33),args:=#[Operand.tmp 34,Operand.tmp 41],argTypes:=#[3,44] },type:=4,pos:=_,after:=_,guard:=none }) rfl (fun K hK=>?_) AllReadyIn.nil
   have hyy:=HY.out pre ⟨((iv:Nat):Int),some ⟨y.heap.size,0,none⟩,64,s.read (j:Int)⟩ w2 (HJ.out _ _ _ none (HJY.out) (show y.grownBy w2 none from ⟨HB2.out.os,HB2.out.tape,HB2.out.output,HB2.out.size,fun g hg _=>HB2.out.block g hg⟩) (fun r e=>by cases e)) ⟨HR3.out,HL2.out,y.heap.size,rfl,HKY.out.1,HROW.out⟩ (by have:=HPL.out;omega)
   rw [show tlv ⟨((iv:Nat):Int),some ⟨y.heap.size,0,none⟩,64,s.read (j:Int)⟩=#[.int .i64 (iv:Int),.slice (some ⟨y.heap.size,0,none⟩) 64 64] from rfl] at hyy
   obtain ⟨fn,tmps,assign,bdy,hyr,hR⟩:=hyy
   have HYR:=Lib.hid hR
   clear hR
   go_simp
   refine HYR.out.mono ?_
   rintro e W2 hcase
   obtain ⟨bb,rfl,hc2⟩:∃ bb:Bool,e = .returned (.bool bb)∧(if bb=true then J (pre ++ [⟨((iv:Nat):Int),some ⟨y.heap.size,0,none⟩,64,s.read (j:Int)⟩]) W2∧KpG w G w2 W2 else Jx (pre ++ [⟨((iv:Nat):Int),some ⟨y.heap.size,0,none⟩,64,s.read (j:Int)⟩]) W2):=by
    rcases hcase with ⟨rfl,h1,h2⟩ | ⟨rfl,h1⟩
    ·exact ⟨true,rfl,by rw [if_pos rfl];exact ⟨h1,h2⟩⟩
    ·exact ⟨false,rfl,by rw [if_neg (by decide)];exact h1⟩
   have HCS:=Lib.hid hc2
   clear hc2 hcase HYR hyr
   go_simp
   refine hK _ _ ?_
   clear hK K
   try simp only [Act.put,List.setIfInBounds_toArray,List.set_cons_zero,List.set_cons_succ]
   refine wpAnyIn_take (i:=10) (oi:={ dst:=some 43,op:=Op.unOp UnOp.not 4 (Operand.tmp 42),type:=4,pos:=_,after:=_,guard:=none }) (v:=?_) rfl rfl (by kernel_rfl) (by kernel_rfl) (by kernel_rfl) (fun _ _ _ h=>h) ⟨Or.inl ⟨by rfl,?_⟩,fun _=>rfl⟩ ?_
   rotate_left 1
   ·(intro W;go_simp;try with_reducible rfl)
   try simp only [Act.put,List.setIfInBounds_toArray,List.set_cons_zero,List.set_cons_succ]
   refine wpAnyIn_done (by kernel_rfl) ?_ _
   have HPN:Hid (wv (pre ++ [⟨((iv:Nat):Int),some ⟨y.heap.size,0,none⟩,64,s.read (j:Int)⟩])=(List.range (k+1)).map (s.toldAt n)):=Lib.hid (by
    have h:=HPRE.out
    rw [wv] at h
    rw [List.range_succ,List.map_append,wv,List.map_append,h]
    simp only [List.map_cons,List.map_nil]
    rw [HIV.out]
    rfl)
   rcases bb with _ | _
   ·have HXX:=Lib.hid (show Jx (pre ++ [⟨((iv:Nat):Int),some ⟨y.heap.size,0,none⟩,64,s.read (j:Int)⟩]) W2 from HCS.out)
    clear HCS
    gi_wp2
    exact bodyPost_ret (v:=.tuple #[]) (by simp [results,Tryz.results107,go_sem]) rfl ⟨⟨_,rfl⟩,.inr ⟨_,by rw [HPN.out];exact (range_pre (by omega)).map _,HXX.out⟩⟩
   ·have HXX:=Lib.hid (show J (pre ++ [⟨((iv:Nat):Int),some ⟨y.heap.size,0,none⟩,64,s.read (j:Int)⟩]) W2∧KpG w G w2 W2 from HCS.out)
    have HK9:Hid (KpG w G w W2):=Lib.hid ((HKY.out.trans (KpG.below HKY.out.1 (show Below y.heap.size y w2 from ⟨HB2.out.os,HB2.out.tape,HB2.out.output,HB2.out.size,HB2.out.block⟩))).trans HXX.out.2)
    clear HCS
    gi_wp2
    go_roundw
    case rel=>exact ⟨k+1,_,by omega,by go_num,HPN,HXX.out.1,HK9⟩
    case measure=>simp [intOf];omega
  case neg =>
   obtain rfl:k=n:=by omega
   have hkI:¬ ((k:Int)<(k:Int)):=by omega
   gi_wp2
   go_end0
   exact ⟨⟨_,rfl⟩,.inl ⟨pre,HPRE.out,hj⟩⟩
end Go.Proofs.YtnedpkhehiijhaaGreat
namespace Go.Proofs.YtnedpkhehiijhaaGreat
open Go.RowKit Go.Shelf
set_option linter.unusedVariables false
set_option linter.unusedSimpArgs false
section
variable {w:World} {F:Nat→Prop} {gd:Nat} {s:Dk}
set_option maxRecDepth 100000 in
set_option maxHeartbeats 4000000 in
theorem open_down (h:Disk w F gd s) (hdn:s.down=true) :
  Calls Tryz.prog 33 #[.pointer (some ⟨gd,0,none⟩)] w fun e w'=>e = .returned (.int .i64 6)∧DJ w F gd s w':=by
 obtain ⟨F',hF'⟩:∃ F',F'=fun k=>F k∧k<w.heap.size:=⟨_,rfl⟩
 have hl:=h.low
 rw [←hF'] at hl
 have hFF:∀ k,F' k→F k∧k<w.heap.size:=fun k hk=>by rw [hF'] at hk;exact hk
 have hb1:Below w.heap.size w ((w.alloc (.cells #[.pointer (some ⟨gd,0,none⟩)] 23)).alloc (.cells #[.int .i64 0] 28)):=((Below.refl _ _).alloc (Nat.le_refl _) _).alloc (by simp) _
 have hbx:=(Holds.fresh w 23 #[.pointer (some ⟨gd,0,none⟩)]).alloc (.cells #[.int .i64 0] 28)
 have hrs:=Holds.fresh (w.alloc (.cells #[.pointer (some ⟨gd,0,none⟩)] 23)) 28 #[.int .i64 0]
 rw [show (w.alloc (.cells #[.pointer (some ⟨gd,0,none⟩)] 23)).heap.size=w.heap.size+1 by simp] at hrs
 have hsz:((w.alloc (.cells #[.pointer (some ⟨gd,0,none⟩)] 23)).alloc (.cells #[.int .i64 0] 28)).heap.size=w.heap.size+2:=by simp
 have hd1:Disk ((w.alloc (.cells #[.pointer (some ⟨gd,0,none⟩)] 23)).alloc (.cells #[.int .i64 0] 28)) F' gd s:=(hl.keep (Only.of_below (F:=fun _=>False) hb1) (fun _ _ e=>e))
 have z0:=hbx.cell 0
 obtain ⟨V,hV⟩:∃ V,V=((w.alloc (.cells #[.pointer (some ⟨gd,0,none⟩)] 23)).alloc (.cells #[.int .i64 0] 28)):=⟨_,rfl⟩
 rw [←hV] at hb1 hbx hrs hsz hd1
 have HV:=Lib.hid hV
 have HST:=Lib.hid (DJ.start hd1)
 have HBX:Hid (∀ (s':Dk) (W:World),DJ V F' gd s' W→W.cell? ⟨w.heap.size,0,none⟩=some (.pointer (some ⟨gd,0,none⟩))∧W.cell? ⟨w.heap.size+1,0,none⟩=some (.int .i64 0)∧W.frozen? ⟨w.heap.size+1,0,none⟩=false):=Lib.hid fun s' W hW=>by
  have k:∀ g,g=w.heap.size∨g=w.heap.size+1→W.heap[g]?=V.heap[g]?:=fun g hg=>hW.2.block g (by omega) fun hF=>by have:=(hFF g hF).2;omega
  have b1:Holds W w.heap.size 23 #[.pointer (some ⟨gd,0,none⟩)]:=(k _ (.inl rfl)).trans hbx
  have b2:Holds W (w.heap.size+1) 28 #[.int .i64 0]:=(k _ (.inr rfl)).trans hrs
  exact ⟨b1.cell 0,b2.cell 0,b2.open_ 0⟩
 have HSET:Hid (∀ (s':Dk) (W:World) (v:Value),DJ V F' gd s' W→DJr V F' (w.heap.size+1) gd s' (W.setCell ⟨w.heap.size+1,0,none⟩ v)):=Lib.hid fun s' W v hW=>by
  have hn:∀ k,grow F' V W k→k≠w.heap.size+1:=fun k hk e=>by
   subst e
   rcases hk with hk | hk
   ·have:=(hFF _ hk).2;omega
   ·omega
  have ho:Only (fun k=>k=w.heap.size+1) W (W.setCell ⟨w.heap.size+1,0,none⟩ v):=(Only.refl (fun k=>k=w.heap.size+1) W).setCell (p:=⟨w.heap.size+1,0,none⟩) (.inl rfl) v
  refine ⟨(hW.1.keep ho fun k a b=>hn k a b).more fun k hk=>?_,(hW.2.more fun k _ hk=>.inl hk).setCell (.inl (.inr rfl)) v⟩
  have h2:=ho.size
  rcases hk with hk | hk
  ·exact .inl hk
  ·exact .inr ⟨hk.1,by omega⟩
 have HOUT:Hid (∀ (s':Dk) (W:World),DJr V F' (w.heap.size+1) gd s' W→DJ w F gd s' W):=Lib.hid fun s' W hW=>by
  refine ⟨hW.1.more fun k hk=>?_,(Only.of_below (F:=F) hb1).trans hW.2 fun k hk hF=>by rcases hF with hF | hF;exact (hFF k hF).1;omega⟩
  rcases hk with hk | hk
  ·exact .inl (hFF k hk).1
  ·exact .inr ⟨by omega,hk.2⟩
 have HFIN:Hid (∀ (s':Dk) (W:World) (v:Value),DJ V F' gd s' W→DJ w F gd s' (W.setCell ⟨w.heap.size+1,0,none⟩ v)):=Lib.hid fun s' W v hW=>HOUT.out _ _ (HSET.out s' W v hW)
 have HDN:=Lib.hid (disk_down hd1)
 rw [hdn] at HDN
 have HM:=Lib.hid (jmany hd1)
 have HRD:=Lib.hid fun (W:World) (hW:DJ V F' gd s W) (i:Int)=>disk_read hW.1 i
 clear h hl hF' hb1 hbx hrs hd1 hV hFF hsz hdn
 generalize s.many=m at *
 obtain ⟨_,k1,k2⟩:=HBX.out _ _ HST.out
 go_enter Tryz.func33,Tryz.ntmps33
 go_wp2_with fail
 rw [←HV.out]
 refine HDN.out.mono ?_
 rintro e w1 ⟨rfl,rfl⟩
 obtain ⟨_,k1,k2⟩:=HBX.out _ _ HST.out
 have hc:=World.cell?_setCell_same' V ⟨w.heap.size+1,0,none⟩ (.int .i64 6) (by rw [k1];rfl)
 go_wp2_with fail
 exact bodyPost_ret (v:=.int .i64 6) (by simp [results,Tryz.results33,go_sem,hc]) rfl ⟨rfl,HFIN.out _ _ _ HST.out⟩
set_option maxRecDepth 100000 in
set_option maxHeartbeats 4000000 in
theorem open_small (h:Disk w F gd s) (hdn:s.down=false) (hm:s.many=0) :
  Calls Tryz.prog 33 #[.pointer (some ⟨gd,0,none⟩)] w fun e w'=>e = .returned (.int .i64 13)∧DJ w F gd s w':=by
 obtain ⟨F',hF'⟩:∃ F',F'=fun k=>F k∧k<w.heap.size:=⟨_,rfl⟩
 have hl:=h.low
 rw [←hF'] at hl
 have hFF:∀ k,F' k→F k∧k<w.heap.size:=fun k hk=>by rw [hF'] at hk;exact hk
 have hb1:Below w.heap.size w ((w.alloc (.cells #[.pointer (some ⟨gd,0,none⟩)] 23)).alloc (.cells #[.int .i64 0] 28)):=((Below.refl _ _).alloc (Nat.le_refl _) _).alloc (by simp) _
 have hbx:=(Holds.fresh w 23 #[.pointer (some ⟨gd,0,none⟩)]).alloc (.cells #[.int .i64 0] 28)
 have hrs:=Holds.fresh (w.alloc (.cells #[.pointer (some ⟨gd,0,none⟩)] 23)) 28 #[.int .i64 0]
 rw [show (w.alloc (.cells #[.pointer (some ⟨gd,0,none⟩)] 23)).heap.size=w.heap.size+1 by simp] at hrs
 have hsz:((w.alloc (.cells #[.pointer (some ⟨gd,0,none⟩)] 23)).alloc (.cells #[.int .i64 0] 28)).heap.size=w.heap.size+2:=by simp
 have hd1:Disk ((w.alloc (.cells #[.pointer (some ⟨gd,0,none⟩)] 23)).alloc (.cells #[.int .i64 0] 28)) F' gd s:=(hl.keep (Only.of_below (F:=fun _=>False) hb1) (fun _ _ e=>e))
 have z0:=hbx.cell 0
 obtain ⟨V,hV⟩:∃ V,V=((w.alloc (.cells #[.pointer (some ⟨gd,0,none⟩)] 23)).alloc (.cells #[.int .i64 0] 28)):=⟨_,rfl⟩
 rw [←hV] at hb1 hbx hrs hsz hd1
 have HV:=Lib.hid hV
 have HST:=Lib.hid (DJ.start hd1)
 have HBX:Hid (∀ (s':Dk) (W:World),DJ V F' gd s' W→W.cell? ⟨w.heap.size,0,none⟩=some (.pointer (some ⟨gd,0,none⟩))∧W.cell? ⟨w.heap.size+1,0,none⟩=some (.int .i64 0)∧W.frozen? ⟨w.heap.size+1,0,none⟩=false):=Lib.hid fun s' W hW=>by
  have k:∀ g,g=w.heap.size∨g=w.heap.size+1→W.heap[g]?=V.heap[g]?:=fun g hg=>hW.2.block g (by omega) fun hF=>by have:=(hFF g hF).2;omega
  have b1:Holds W w.heap.size 23 #[.pointer (some ⟨gd,0,none⟩)]:=(k _ (.inl rfl)).trans hbx
  have b2:Holds W (w.heap.size+1) 28 #[.int .i64 0]:=(k _ (.inr rfl)).trans hrs
  exact ⟨b1.cell 0,b2.cell 0,b2.open_ 0⟩
 have HSET:Hid (∀ (s':Dk) (W:World) (v:Value),DJ V F' gd s' W→DJr V F' (w.heap.size+1) gd s' (W.setCell ⟨w.heap.size+1,0,none⟩ v)):=Lib.hid fun s' W v hW=>by
  have hn:∀ k,grow F' V W k→k≠w.heap.size+1:=fun k hk e=>by
   subst e
   rcases hk with hk | hk
   ·have:=(hFF _ hk).2;omega
   ·omega
  have ho:Only (fun k=>k=w.heap.size+1) W (W.setCell ⟨w.heap.size+1,0,none⟩ v):=(Only.refl (fun k=>k=w.heap.size+1) W).setCell (p:=⟨w.heap.size+1,0,none⟩) (.inl rfl) v
  refine ⟨(hW.1.keep ho fun k a b=>hn k a b).more fun k hk=>?_,(hW.2.more fun k _ hk=>.inl hk).setCell (.inl (.inr rfl)) v⟩
  have h2:=ho.size
  rcases hk with hk | hk
  ·exact .inl hk
  ·exact .inr ⟨hk.1,by omega⟩
 have HOUT:Hid (∀ (s':Dk) (W:World),DJr V F' (w.heap.size+1) gd s' W→DJ w F gd s' W):=Lib.hid fun s' W hW=>by
  refine ⟨hW.1.more fun k hk=>?_,(Only.of_below (F:=F) hb1).trans hW.2 fun k hk hF=>by rcases hF with hF | hF;exact (hFF k hF).1;omega⟩
  rcases hk with hk | hk
  ·exact .inl (hFF k hk).1
  ·exact .inr ⟨by omega,hk.2⟩
 have HFIN:Hid (∀ (s':Dk) (W:World) (v:Value),DJ V F' gd s' W→DJ w F gd s' (W.setCell ⟨w.heap.size+1,0,none⟩ v)):=Lib.hid fun s' W v hW=>HOUT.out _ _ (HSET.out s' W v hW)
 have HDN:=Lib.hid (disk_down hd1)
 rw [hdn] at HDN
 have HM:=Lib.hid (jmany hd1)
 rw [hm] at HM
 have HRD:=Lib.hid fun (W:World) (hW:DJ V F' gd s W) (i:Int)=>disk_read hW.1 i
 clear h hl hF' hb1 hbx hrs hd1 hV hFF hsz hdn
 obtain ⟨_,k1,k2⟩:=HBX.out _ _ HST.out
 go_enter Tryz.func33,Tryz.ntmps33
 go_wp2_with fail
 rw [←HV.out]
 refine HDN.out.mono ?_
 rintro e w1 ⟨rfl,rfl⟩
 obtain ⟨k0,_,_⟩:=HBX.out _ _ HST.out
 go_wp2_with (first | (refine HM.out.mono ?_;rintro e w1 ⟨rfl,rfl⟩) | fail)
 obtain ⟨_,k1,k2⟩:=HBX.out _ _ HST.out
 have hc:=World.cell?_setCell_same' V ⟨w.heap.size+1,0,none⟩ (.int .i64 13) (by rw [k1];rfl)
 go_wp2_with fail
 exact bodyPost_ret (v:=.int .i64 13) (by simp [results,Tryz.results33,go_sem,hc]) rfl ⟨rfl,HFIN.out _ _ _ HST.out⟩
set_option maxRecDepth 100000 in
set_option maxHeartbeats 4000000 in
theorem open_alien (h:Disk w F gd s) (hdn:s.down=false) (hm:0<s.many) (h0:s.read 0≠apstB) (h64:(s.read 0).length=64) (hoc:Oct1 (s.read 0)) :
  Calls Tryz.prog 33 #[.pointer (some ⟨gd,0,none⟩)] w fun e w'=>e = .returned (.int .i64 13)∧DJ w F gd s w':=by
 obtain ⟨F',hF'⟩:∃ F',F'=fun k=>F k∧k<w.heap.size:=⟨_,rfl⟩
 have hl:=h.low
 rw [←hF'] at hl
 have hFF:∀ k,F' k→F k∧k<w.heap.size:=fun k hk=>by rw [hF'] at hk;exact hk
 have hb1:Below w.heap.size w ((w.alloc (.cells #[.pointer (some ⟨gd,0,none⟩)] 23)).alloc (.cells #[.int .i64 0] 28)):=((Below.refl _ _).alloc (Nat.le_refl _) _).alloc (by simp) _
 have hbx:=(Holds.fresh w 23 #[.pointer (some ⟨gd,0,none⟩)]).alloc (.cells #[.int .i64 0] 28)
 have hrs:=Holds.fresh (w.alloc (.cells #[.pointer (some ⟨gd,0,none⟩)] 23)) 28 #[.int .i64 0]
 rw [show (w.alloc (.cells #[.pointer (some ⟨gd,0,none⟩)] 23)).heap.size=w.heap.size+1 by simp] at hrs
 have hsz:((w.alloc (.cells #[.pointer (some ⟨gd,0,none⟩)] 23)).alloc (.cells #[.int .i64 0] 28)).heap.size=w.heap.size+2:=by simp
 have hd1:Disk ((w.alloc (.cells #[.pointer (some ⟨gd,0,none⟩)] 23)).alloc (.cells #[.int .i64 0] 28)) F' gd s:=(hl.keep (Only.of_below (F:=fun _=>False) hb1) (fun _ _ e=>e))
 have z0:=hbx.cell 0
 obtain ⟨V,hV⟩:∃ V,V=((w.alloc (.cells #[.pointer (some ⟨gd,0,none⟩)] 23)).alloc (.cells #[.int .i64 0] 28)):=⟨_,rfl⟩
 rw [←hV] at hb1 hbx hrs hsz hd1
 have HV:=Lib.hid hV
 have HST:=Lib.hid (DJ.start hd1)
 have HBX:Hid (∀ (s':Dk) (W:World),DJ V F' gd s' W→W.cell? ⟨w.heap.size,0,none⟩=some (.pointer (some ⟨gd,0,none⟩))∧W.cell? ⟨w.heap.size+1,0,none⟩=some (.int .i64 0)∧W.frozen? ⟨w.heap.size+1,0,none⟩=false):=Lib.hid fun s' W hW=>by
  have k:∀ g,g=w.heap.size∨g=w.heap.size+1→W.heap[g]?=V.heap[g]?:=fun g hg=>hW.2.block g (by omega) fun hF=>by have:=(hFF g hF).2;omega
  have b1:Holds W w.heap.size 23 #[.pointer (some ⟨gd,0,none⟩)]:=(k _ (.inl rfl)).trans hbx
  have b2:Holds W (w.heap.size+1) 28 #[.int .i64 0]:=(k _ (.inr rfl)).trans hrs
  exact ⟨b1.cell 0,b2.cell 0,b2.open_ 0⟩
 have HSET:Hid (∀ (s':Dk) (W:World) (v:Value),DJ V F' gd s' W→DJr V F' (w.heap.size+1) gd s' (W.setCell ⟨w.heap.size+1,0,none⟩ v)):=Lib.hid fun s' W v hW=>by
  have hn:∀ k,grow F' V W k→k≠w.heap.size+1:=fun k hk e=>by
   subst e
   rcases hk with hk | hk
   ·have:=(hFF _ hk).2;omega
   ·omega
  have ho:Only (fun k=>k=w.heap.size+1) W (W.setCell ⟨w.heap.size+1,0,none⟩ v):=(Only.refl (fun k=>k=w.heap.size+1) W).setCell (p:=⟨w.heap.size+1,0,none⟩) (.inl rfl) v
  refine ⟨(hW.1.keep ho fun k a b=>hn k a b).more fun k hk=>?_,(hW.2.more fun k _ hk=>.inl hk).setCell (.inl (.inr rfl)) v⟩
  have h2:=ho.size
  rcases hk with hk | hk
  ·exact .inl hk
  ·exact .inr ⟨hk.1,by omega⟩
 have HOUT:Hid (∀ (s':Dk) (W:World),DJr V F' (w.heap.size+1) gd s' W→DJ w F gd s' W):=Lib.hid fun s' W hW=>by
  refine ⟨hW.1.more fun k hk=>?_,(Only.of_below (F:=F) hb1).trans hW.2 fun k hk hF=>by rcases hF with hF | hF;exact (hFF k hF).1;omega⟩
  rcases hk with hk | hk
  ·exact .inl (hFF k hk).1
  ·exact .inr ⟨by omega,hk.2⟩
 have HFIN:Hid (∀ (s':Dk) (W:World) (v:Value),DJ V F' gd s' W→DJ w F gd s' (W.setCell ⟨w.heap.size+1,0,none⟩ v)):=Lib.hid fun s' W v hW=>HOUT.out _ _ (HSET.out s' W v hW)
 have HDN:=Lib.hid (disk_down hd1)
 rw [hdn] at HDN
 have HM:=Lib.hid (jmany hd1)
 have hmm:s.many≤2000:=by have:=h.len.2.2;unfold Dk.many;omega
 have HRD:=Lib.hid fun (W:World) (hW:DJ V F' gd s W) (i:Int)=>disk_read hW.1 i
 have HR0:=Lib.hid h0
 have HL0:=Lib.hid h64
 have HO0:=Lib.hid hoc
 clear h hl hF' hb1 hbx hrs hd1 hV hFF hsz hdn h0 h64 hoc
 have d0:((s.many:Int) == 0)=false:=by rw [beq_eq_false_iff_ne];omega
 generalize s.many=m at *
 obtain ⟨_,k1,k2⟩:=HBX.out _ _ HST.out
 go_enter Tryz.func33,Tryz.ntmps33
 go_wp2_with fail
 rw [←HV.out]
 refine HDN.out.mono ?_
 rintro e w1 ⟨rfl,rfl⟩
 obtain ⟨k0,_,_⟩:=HBX.out _ _ HST.out
 go_wp2_with (first | (refine HM.out.mono ?_;rintro e w1 ⟨rfl,rfl⟩) | fail)
 refine (HRD.out V HST.out 0).mono ?_
 rintro e w3 ⟨A3,n3,c3,rfl,hn3,hr3,hx3,hb3⟩
 clear hx3
 have HD3:=Lib.hid (HST.out.below hb3)
 obtain rfl:64=n3:=by rw [←hn3];exact HL0.out.symm
 have HR3:=Lib.hid hr3
 clear hn3 hr3 hb3 HV z0 k0
 go_wp2_with fail
 refine (headed_apst _).mono ?_
 rintro e w4 ⟨rfl,hr4,hb4⟩
 have HD4:=Lib.hid (HD3.out.below hb4)
 have HEQ:=Lib.hid (equalB w4 A3 (some ⟨w3.heap.size,0,none⟩) c3 64 64 64 (s.read 0) apstB HL0.out apst_len ((HR3.out.under hb4).more hb4.size) (Row.rd64 hr4 apst_len) HO0.out apst_oct)
 rw [decide_eq_false HR0.out] at HEQ
 clear hr4 hb4 HR3
 go_wp2_with fail
 refine HEQ.out.mono ?_
 rintro e w5 ⟨rfl,rfl⟩
 obtain ⟨_,k1,k2⟩:=HBX.out _ _ HD4.out
 have hc:=World.cell?_setCell_same' w4 ⟨w.heap.size+1,0,none⟩ (.int .i64 13) (by rw [k1];rfl)
 go_wp2_with fail
 exact bodyPost_ret (v:=.int .i64 13) (by simp [results,Tryz.results33,go_sem,hc]) rfl ⟨rfl,HFIN.out _ _ _ HD4.out⟩
set_option maxRecDepth 100000 in
set_option maxHeartbeats 4000000 in
theorem open_markless (h:Disk w F gd s) (hdn:s.down=false) (hm:0<s.many) (h0:s.read 0=apstB) (h1:begunN (s.read 1)=none) (h64:(s.read 1).length=64) (hoc:Oct1 (s.read 1)) :
  Calls Tryz.prog 33 #[.pointer (some ⟨gd,0,none⟩)] w fun e w'=>e = .returned (.int .i64 13)∧DJ w F gd s w':=by
 obtain ⟨F',hF'⟩:∃ F',F'=fun k=>F k∧k<w.heap.size:=⟨_,rfl⟩
 have hl:=h.low
 rw [←hF'] at hl
 have hFF:∀ k,F' k→F k∧k<w.heap.size:=fun k hk=>by rw [hF'] at hk;exact hk
 have hb1:Below w.heap.size w ((w.alloc (.cells #[.pointer (some ⟨gd,0,none⟩)] 23)).alloc (.cells #[.int .i64 0] 28)):=((Below.refl _ _).alloc (Nat.le_refl _) _).alloc (by simp) _
 have hbx:=(Holds.fresh w 23 #[.pointer (some ⟨gd,0,none⟩)]).alloc (.cells #[.int .i64 0] 28)
 have hrs:=Holds.fresh (w.alloc (.cells #[.pointer (some ⟨gd,0,none⟩)] 23)) 28 #[.int .i64 0]
 rw [show (w.alloc (.cells #[.pointer (some ⟨gd,0,none⟩)] 23)).heap.size=w.heap.size+1 by simp] at hrs
 have hsz:((w.alloc (.cells #[.pointer (some ⟨gd,0,none⟩)] 23)).alloc (.cells #[.int .i64 0] 28)).heap.size=w.heap.size+2:=by simp
 have hd1:Disk ((w.alloc (.cells #[.pointer (some ⟨gd,0,none⟩)] 23)).alloc (.cells #[.int .i64 0] 28)) F' gd s:=(hl.keep (Only.of_below (F:=fun _=>False) hb1) (fun _ _ e=>e))
 have z0:=hbx.cell 0
 obtain ⟨V,hV⟩:∃ V,V=((w.alloc (.cells #[.pointer (some ⟨gd,0,none⟩)] 23)).alloc (.cells #[.int .i64 0] 28)):=⟨_,rfl⟩
 rw [←hV] at hb1 hbx hrs hsz hd1
 have HV:=Lib.hid hV
 have HST:=Lib.hid (DJ.start hd1)
 have HBX:Hid (∀ (s':Dk) (W:World),DJ V F' gd s' W→W.cell? ⟨w.heap.size,0,none⟩=some (.pointer (some ⟨gd,0,none⟩))∧W.cell? ⟨w.heap.size+1,0,none⟩=some (.int .i64 0)∧W.frozen? ⟨w.heap.size+1,0,none⟩=false):=Lib.hid fun s' W hW=>by
  have k:∀ g,g=w.heap.size∨g=w.heap.size+1→W.heap[g]?=V.heap[g]?:=fun g hg=>hW.2.block g (by omega) fun hF=>by have:=(hFF g hF).2;omega
  have b1:Holds W w.heap.size 23 #[.pointer (some ⟨gd,0,none⟩)]:=(k _ (.inl rfl)).trans hbx
  have b2:Holds W (w.heap.size+1) 28 #[.int .i64 0]:=(k _ (.inr rfl)).trans hrs
  exact ⟨b1.cell 0,b2.cell 0,b2.open_ 0⟩
 have HSET:Hid (∀ (s':Dk) (W:World) (v:Value),DJ V F' gd s' W→DJr V F' (w.heap.size+1) gd s' (W.setCell ⟨w.heap.size+1,0,none⟩ v)):=Lib.hid fun s' W v hW=>by
  have hn:∀ k,grow F' V W k→k≠w.heap.size+1:=fun k hk e=>by
   subst e
   rcases hk with hk | hk
   ·have:=(hFF _ hk).2;omega
   ·omega
  have ho:Only (fun k=>k=w.heap.size+1) W (W.setCell ⟨w.heap.size+1,0,none⟩ v):=(Only.refl (fun k=>k=w.heap.size+1) W).setCell (p:=⟨w.heap.size+1,0,none⟩) (.inl rfl) v
  refine ⟨(hW.1.keep ho fun k a b=>hn k a b).more fun k hk=>?_,(hW.2.more fun k _ hk=>.inl hk).setCell (.inl (.inr rfl)) v⟩
  have h2:=ho.size
  rcases hk with hk | hk
  ·exact .inl hk
  ·exact .inr ⟨hk.1,by omega⟩
 have HOUT:Hid (∀ (s':Dk) (W:World),DJr V F' (w.heap.size+1) gd s' W→DJ w F gd s' W):=Lib.hid fun s' W hW=>by
  refine ⟨hW.1.more fun k hk=>?_,(Only.of_below (F:=F) hb1).trans hW.2 fun k hk hF=>by rcases hF with hF | hF;exact (hFF k hF).1;omega⟩
  rcases hk with hk | hk
  ·exact .inl (hFF k hk).1
  ·exact .inr ⟨by omega,hk.2⟩
 have HFIN:Hid (∀ (s':Dk) (W:World) (v:Value),DJ V F' gd s' W→DJ w F gd s' (W.setCell ⟨w.heap.size+1,0,none⟩ v)):=Lib.hid fun s' W v hW=>HOUT.out _ _ (HSET.out s' W v hW)
 have HDN:=Lib.hid (disk_down hd1)
 rw [hdn] at HDN
 have HM:=Lib.hid (jmany hd1)
 have hmm:s.many≤2000:=by have:=h.len.2.2;unfold Dk.many;omega
 have HRD:=Lib.hid fun (W:World) (hW:DJ V F' gd s W) (i:Int)=>disk_read hW.1 i
 have HR0:=Lib.hid h0
 have HR1:=Lib.hid h1
 have HL1:=Lib.hid h64
 have HO1:=Lib.hid hoc
 clear h hl hF' hb1 hbx hrs hd1 hV hFF hsz hdn h0 h1 h64 hoc
 have d0:((s.many:Int) == 0)=false:=by rw [beq_eq_false_iff_ne];omega
 generalize s.many=m at *
 obtain ⟨_,k1,k2⟩:=HBX.out _ _ HST.out
 go_enter Tryz.func33,Tryz.ntmps33
 go_wp2_with fail
 rw [←HV.out]
 refine HDN.out.mono ?_
 rintro e w1 ⟨rfl,rfl⟩
 obtain ⟨k0,_,_⟩:=HBX.out _ _ HST.out
 go_wp2_with (first | (refine HM.out.mono ?_;rintro e w1 ⟨rfl,rfl⟩) | fail)
 refine (HRD.out V HST.out 0).mono ?_
 rintro e w3 ⟨A3,n3,c3,rfl,hn3,hr3,hx3,hb3⟩
 clear hx3
 have HD3:=Lib.hid (HST.out.below hb3)
 rw [HR0.out] at hn3 hr3
 obtain rfl:64=n3:=by rw [←hn3];exact (apst_len).symm
 have HR3:=Lib.hid hr3
 clear hn3 hr3 hb3 HV z0 k0
 go_wp2_with fail
 refine (headed_apst _).mono ?_
 rintro e w4 ⟨rfl,hr4,hb4⟩
 have HD4:=Lib.hid (HD3.out.below hb4)
 have HEQ:=Lib.hid (equalB w4 A3 (some ⟨w3.heap.size,0,none⟩) c3 64 64 64 apstB apstB apst_len apst_len ((HR3.out.under hb4).more hb4.size) (Row.rd64 hr4 apst_len) apst_oct apst_oct)
 rw [decide_eq_true rfl] at HEQ
 clear hr4 hb4 HR3
 go_wp2_with fail
 refine HEQ.out.mono ?_
 rintro e w5 ⟨rfl,rfl⟩
 obtain ⟨k0,_,_⟩:=HBX.out _ _ HD4.out
 go_wp2_with fail
 refine (HRD.out w4 HD4.out 1).mono ?_
 rintro e w6 ⟨A6,n6,c6,rfl,hn6,hr6,hx6,hb6⟩
 clear hx6
 have HD6:=Lib.hid (HD4.out.below hb6)
 obtain rfl:64=n6:=by rw [←hn6];exact HL1.out.symm
 have HBG:=Lib.hid (begun_any w6 A6 c6 (s.read 1) HL1.out hr6 HO1.out)
 rw [HR1.out] at HBG
 clear hn6 hr6 hb6 k0
 go_wp2_with fail
 refine HBG.out.mono ?_
 rintro e w7 ⟨rfl,hb7⟩
 have HD7:=Lib.hid (HD6.out.below hb7)
 clear hb7 HBG
 obtain ⟨_,k1,k2⟩:=HBX.out _ _ HD7.out
 have hc:=World.cell?_setCell_same' w7 ⟨w.heap.size+1,0,none⟩ (.int .i64 13) (by rw [k1];rfl)
 go_wp2_with fail
 exact bodyPost_ret (v:=.int .i64 13) (by simp [results,Tryz.results33,go_sem,hc]) rfl ⟨rfl,HFIN.out _ _ _ HD7.out⟩
end
end Go.Proofs.YtnedpkhehiijhaaGreat
namespace Go.Proofs.YtnedpkhehiijhaaGreat
open Go.RowKit Go.Shelf
set_option linter.unusedVariables false
set_option linter.unusedSimpArgs false
section
variable {V W W':World} {B:Nat} {A:Option Addr} {c:Nat} {l:List Wr}
/-- Whatever turns that is no block of the row, nor of what it tells, nor below V. -/
theorem Wrs.turns (h:Wrs V W B A c l) (hs:W.heap.size≤W'.heap.size) (ho:W'.os=W.os) (ht:W'.tape=W.tape) (hp:W'.output=W.output) (hk:∀ g,g<W.heap.size→(g<V.heap.size∨B≤g∨blockOf A=some g)→(∃ o:Obj,W.heap[g]?=some o∧o.isCells=true)∨g<V.heap.size→W'.heap[g]?=W.heap[g]?):Wrs V W' B A c l:=by
 have hc:∀ (b o:Nat) (v:Value),W.cell? ⟨b,o,none⟩=some v→∃ x:Obj,W.heap[b]?=some x∧x.isCells=true:=fun b o v e=>cells_of e
 refine ⟨h.own.keep fun g hg hlt=>?_,fun x hx=>⟨⟨(h.dat x hx).1.1,(h.dat x hx).1.2.1,fun hn=>?_⟩,fun b o e=>?_⟩,h.blk,⟨ho.trans h.bel.os,ht.trans h.bel.tape,hp.trans h.bel.output,Nat.le_trans h.bel.size hs,fun g hg=>(hk g (Nat.lt_of_lt_of_le hg h.bel.size) (.inl hg) (.inr hg)).trans (h.bel.block g hg)⟩⟩
 ·rcases h.own.2 with ⟨hv,_⟩ | ⟨g',cap,cur,hv,_,hgg,_⟩
  ·injection hv with hv
   rw [hv] at hg
   simp [blockOf] at hg
  ·injection hv with hv
   rw [hv] at hg
   obtain rfl:g'=g:=by simpa [blockOf] using hg
   exact hk g' hlt (.inr (.inr (by rw [hv];rfl))) (.inl ⟨_,hgg,rfl⟩)
 ·obtain ⟨b,off,e,hlt,hcell⟩:=(h.dat x hx).1.2.2 hn
  have hb:=hk b hlt (.inr (.inl ((h.dat x hx).2 b off e).1)) (.inl (hc _ _ _ (hcell 0 hn)))
  exact ⟨b,off,e,Nat.lt_of_lt_of_le hlt hs,fun j hj=>(cell_same hb _).trans (hcell j hj)⟩
 ·have:=(h.dat x hx).2 b o e
  exact ⟨this.1,Nat.lt_of_lt_of_le this.2.1 hs,this.2.2⟩
/-- A store aside of it. -/
theorem Wrs.aside {g i:Nat} {v:Value} (h:Wrs V W B A c l) (hV:V.heap.size≤g) (hB:g<B) (hA:blockOf A≠some g):Wrs V (W.setCell ⟨g,i,none⟩ v) B A c l :=
 h.turns (by simp [World.setCell]) rfl rfl rfl fun k _ hk _=>Below.heap_setCell W ⟨g,i,none⟩ v k (by
  rintro rfl
  rcases hk with hk | hk | hk
  ·omega
  ·omega
  ·exact hA hk)
end
theorem KpG.turn {w W W':World} {G:Nat→Prop} {row:Option Nat} (h:KpG w G w W) (hg:W.grownBy W' row) (hr:∀ q,row=some q→w.heap.size≤q):KpG w G w W' :=
 ⟨Nat.le_trans h.1 hg.size,fun g hlt hG=>(hg.block g (Nat.lt_of_lt_of_le hlt h.1) fun e=>by have:=hr g e.symm;omega).trans (h.2 g hlt hG)⟩
theorem KpG.store {w W:World} {G:Nat→Prop} {g i:Nat} {v:Value} (h:KpG w G w W) (hG:G g∨w.heap.size≤g):KpG w G w (W.setCell ⟨g,i,none⟩ v) :=
 ⟨by simpa [World.setCell] using h.1,fun k hlt hk=>(Below.heap_setCell W ⟨g,i,none⟩ v k (by
  rintro rfl
  rcases hG with hG | hG
  ·exact hk hG
  ·omega)).trans (h.2 k hlt hk)⟩
end Go.Proofs.YtnedpkhehiijhaaGreat
namespace Go.Proofs.YtnedpkhehiijhaaGreat
open Go.RowKit Go.Shelf
set_option linter.unusedVariables false
set_option linter.unusedSimpArgs false

/-- So far: l's block lb holds a row of just what was told; all places are places. w7: ahead of l; w9: as the range begins. -/
def OpI (w7 w9:World) (lb m:Nat) (pre:List Wr) (W:World):Prop :=
 KpG w9 (fun g=>g=lb) w9 W∧(∀ x∈pre,x.at_<(m:Int))∧∃ A c,Holds W lb 97 #[.slice A pre.length c]∧Wrs w7 W w9.heap.size A c pre∧∀ g,blockOf A=some g→w9.heap.size≤g
/-- A place is none: the answer is stored. -/
def OpX (w7:World) (rb m:Nat) (c:Code) (pre:List Wr) (W:World):Prop :=
 c = .ret∧Only (fun g=>g=rb) w7 W∧Holds W rb 28 #[.int .i64 13]∧∃ x∈pre,(m:Int)≤x.at_
theorem Holds.turn {W W':World} {g:Nat} {t:TypeId} {cs:Array Value} {row:Option Nat} (h:Holds W g t cs) (hg:W.grownBy W' row) (hr:∀ q,row=some q→∃ o:Obj,W.heap[q]?=some o∧o.isCells=false):Holds W' g t cs :=
 (hg.block g h.lt fun e=>by
  obtain ⟨o,ho,hc⟩:=hr g e.symm
  have h':W.heap[g]?=some (.cells cs t (0,0)):=h
  rw [h'] at ho
  injection ho with ho
  rw [←ho] at hc
  cases hc).trans h
theorem opI_own {w7 w9:World} {lb m B:Nat} (h79:w7.heap.size≤w9.heap.size) (hB:w9.heap.size≤B):OwnFrom B (OpI w7 w9 lb m):=fun pre W W' row hs hg hr=>by
 obtain ⟨hk,hp,A,c,hh,hw,ha⟩:=hs
 refine ⟨hk.turn hg fun q e=>Nat.le_trans hB (hr q e).1,hp,A,c,hh.turn hg fun q e=>(hr q e).2,hw.turns hg.size hg.os hg.tape hg.output fun g hlt _ h2=>hg.block g hlt fun e=>?_,ha⟩
 obtain ⟨h3,o,ho,hc⟩:=hr g e.symm
 rcases h2 with ⟨x,hx,hxc⟩ | h2
 ·rw [hx] at ho
  injection ho with ho
  rw [ho,hc] at hxc
  cases hxc
 ·omega
theorem opX_own {w7:World} {rb m B:Nat} (hB:w7.heap.size≤B) (c:Code):OwnFrom B (OpX w7 rb m c):=fun pre W W' row hs hg hr=>by
 obtain ⟨hc,hk,hh,hx⟩:=hs
 exact ⟨hc,hk.grown hg fun q e=>.inr (Nat.le_trans hB (hr q e).1),hh.turn hg fun q e=>(hr q e).2,hx⟩
theorem kpG_put {w:World} {G:Nat→Prop} (W:World) (l:Nat) (o o':Obj) (hl:w.heap.size≤l) (h:W.heap[l]?=some o) (_:o.isCells=false):KpG w G W (W.putObj l o') :=
 ⟨(grownBy_putObj' W l o').size,fun g hg _=>World.putObj_heap_other (by omega)⟩
theorem tlM_put {w:World} (x:Wr) (W:World) (l:Nat) (o o':Obj) (hm:TlM w x W) (_:w.heap.size≤l) (h:W.heap[l]?=some o) (hc:o.isCells=false):TlM w x (W.putObj l o'):=by
 refine ⟨⟨hm.1.1,hm.1.2.1,fun hn=>?_⟩,hm.2.1,?_⟩
 rotate_left 1
 ·obtain ⟨b,e,hb,hrow⟩:=hm.2.2
  refine ⟨b,e,hb,(World.putObj_heap_other fun e2=>?_).trans hrow⟩
  have h':W.heap[b]?=some (.cells (vals .u8 x.d).toArray 5 (0,0)):=hrow
  rw [e2,h] at h'
  injection h' with h'
  rw [h'] at hc
  cases hc
 obtain ⟨b,off,e,hlt,hcell⟩:=hm.1.2.2 hn
 have hne:b≠l:=fun e=>by
  subst e
  obtain ⟨y,hy,hyc⟩:=cells_of (hcell 0 hn)
  rw [h] at hy
  injection hy with hy
  rw [hy,hyc] at hc
  cases hc
 exact ⟨b,off,e,Nat.lt_of_lt_of_le hlt (grownBy_putObj' W l o').size,fun j hj=>(cell_same (World.putObj_heap_other hne) _).trans (hcell j hj)⟩
end Go.Proofs.YtnedpkhehiijhaaGreat
namespace Go.Proofs.YtnedpkhehiijhaaGreat
open Go.RowKit Go.Shelf
set_option linter.unusedVariables false
set_option linter.unusedSimpArgs false
theorem opIn_pushV {F:Fence} {n0:Nat} {P:Program} (w:World) {o:Oper} {a:Act} {K:Act→World→Prop} {Q:Exit→Act→World→Prop} (s x:Operand) (t:TypeId)
  (ho:o.op = .call { callee:=.builtin .append,args:=#[s,x],argTypes:=#[t,t] }) (e:TypeId) (z:Value) (sz by_:Nat) (ht:P.underlying t=some (.slice e)) (hi:(P.info? e).map (fun i=>(i.zero,i.size,i.bytes))=some (some z,sz,by_)) (hz:z.cells.size=sz) (hsz0:0<sz) (hby:by_≤100)
  {A:Option Addr} {n c:Nat} {vs:List Value} (hs:a.eval s = .slice A n c) (hw:OwnV e sz w A c n vs)
  {g c2:Nat} {cs:List Value} (hx:a.eval x = .slice (some ⟨g,0,none⟩) 1 c2) (hl:cs.length=sz) (h1:∀ u∈cs,u.oneCell'=true) (hg:Holds w g e cs.toArray) (hn:n≤100000)
  (hK:∀ g' c' w',OwnV e sz w' (some ⟨g',0,none⟩) c' (n+1) (vs ++ cs)→w.grownBy w' (blockOf A)→(blockOf A=some g'∨g'=w.heap.size)→g' < w'.heap.size→K (a.put o.dst (.slice (some ⟨g',0,none⟩) (n+1) c')) w') :
  Oper.wpIn F n0 P o a w K Q:=by
 obtain ⟨i,hi',hz',hsize,hbytes⟩:=info_parts hi
 obtain ⟨g',cap,w',hrun,hown',hgr,hat,hlt⟩:=run_append_lies (P:=P) (w:=w) t o.type 0 e i z sz by_ ht hi' hz' hsize hbytes hz hsz0 (.slice A n c) n vs hw ⟨g,0,none⟩ 1 c2 cs (by omega)
  (fun j u hu=>World.news_of_block (cs:=cs.toArray) hg j u (by simpa using hu)) h1 (by omega) (by unfold maxLen;omega) (Nat.le_trans (Nat.mul_le_mul (show n+1≤100001 by omega) hby) (by omega)) (Nat.zero_le _) w.heap.size rfl
 rw [ownBlock_eq] at hgr hat
 unfold Oper.wpIn
 refine ⟨?_,?_⟩
 ·simp [Oper.about,ho,resolve,Target.leads,Sem.run_pure]
 ·rw [Oper.semAt_plain F _ _ (by rw [ho];intro c hc';cases hc')]
  simp [execOp,ho,resolve,invoke,builtin,hs,hx,hrun,Result.andThen]
  exact hK g' cap w' hown' hgr hat hlt
end Go.Proofs.YtnedpkhehiijhaaGreat
