/- Words and laws for the statement, part 13. -/
import Derived.WalkKit
import Derived.Deep.RegionHeld3
import Derived.Lib.SlBytesConst
import Derived.Test.YtcibjcgipfpniaaGreatDoorG01
import Derived.Test.YtcibjcgipfpniaaGreatDoorG06
import Derived.Test.YtcibjcgipfpniaaGreatDoorG07
import Derived.Test.YtcibjcgipfpniaaGreatDoorG09
import Derived.Test.YtcibjcgipfpniaaGreatDoorG12
namespace Go.Proofs.YtcibjcgipfpniaaGreatDoor
open Go.RowKit BigFrame
set_option linter.unusedVariables false
set_option linter.unusedSimpArgs false
attribute [local go_sem ↓] Go.wp_at_zero Go.wp_at_succ

set_option maxRecDepth 100000 in
set_option maxHeartbeats 2000000 in
theorem digs_any (w:World) (xs:List Nat) (A:Option Addr) (c n B:Nat) (b:List Nat) (hr:Rd .u8 w B A c b) (hn:b.length=n) (hB:B≤w.heap.size) (hmx:n≤900000) (ho:∀ x∈b,x<256) (hxs:∀ x∈xs,x<w.heap.size) :
  Calls Tryz.prog 36 #[.slice A n c] w (MadeT w xs (.mk 3 (0 :: b) [])):=by
 have HO:=Lib.hid ho
 have hZ:=(Holds.fresh w 32 #[.int .u8 0,.slice none 0 0,.slice none 0 0]).alloc (.cells #[.int .u8 0] 5)
 have hs1:(w.alloc (.cells #[.int .u8 0,.slice none 0 0,.slice none 0 0] 32)).heap.size=w.heap.size+1:=by simp
 have HM1:Hid (Mine 5 ((w.alloc (.cells #[.int .u8 0,.slice none 0 0,.slice none 0 0] 32)).alloc (.cells #[.int .u8 0] 5)) (w.heap.size+1) (some ⟨w.heap.size+1,0,none⟩) 1 [0]):=Lib.hid (by
  have h:=Mine.fresh1 (w.alloc (.cells #[.int .u8 0,.slice none 0 0,.slice none 0 0] 32)) (w.heap.size+1) 0 (by omega)
  rw [hs1] at h
  exact h)
 have HQ1:Hid (Below w.heap.size w ((w.alloc (.cells #[.int .u8 0,.slice none 0 0,.slice none 0 0] 32)).alloc (.cells #[.int .u8 0] 5))):=Lib.hid (((Below.refl _ _).alloc (Nat.le_refl _) _).alloc (by omega) _)
 have HR1:Hid (Rd .u8 ((w.alloc (.cells #[.int .u8 0,.slice none 0 0,.slice none 0 0] 32)).alloc (.cells #[.int .u8 0] 5)) B A c b):=Lib.hid (hr.under (HQ1.out.mono hB))
 have HN:=Lib.hid hn
 have HZ:=Lib.hid hZ
 have HS1:Hid (w.heap.size+1≤((w.alloc (.cells #[.int .u8 0,.slice none 0 0,.slice none 0 0] 32)).alloc (.cells #[.int .u8 0] 5)).heap.size):=Lib.hid (by simp)
 have HF5:Hid (∀ W,((w.alloc (.cells #[.int .u8 0,.slice none 0 0,.slice none 0 0] 32)).alloc (.cells #[.int .u8 0] 5)).grownBy W (blk_of (some ⟨w.heap.size+1,0,none⟩))→Holds W w.heap.size 32 #[.int .u8 0,.slice none 0 0,.slice none 0 0]):=Lib.hid fun W hW=>HZ.out.grown hW (by simp [blk_of])
 clear hr hn hZ hs1 ho
 go_enter Tryz.func36,Tryz.ntmps36
 go_wp2_with (first | (refine wpList_mine (B2:=B) _ rfl (.tmp 3) (.tmp 4) 24 rfl 5 Tryz.underlying24 info_u8 rfl HM1.out rfl rfl HR1.out HN.out HS1.out (by omega) ?_;intro A5 c5 W5 hm5 hg5 hat5;have hz5:=HF5.out _ hg5;have z0:=hz5.cell 0;have z1:=hz5.cell 1;have z2:=hz5.cell 2;have y0:=hz5.open_ 0;have y1:=hz5.open_ 1;have y2:=hz5.open_ 2) | fail)
 have HQ5:Hid (Below w.heap.size w W5):=Lib.hid (HQ1.out.trans (below_blk hg5 HQ1.out.size (fun g hg=>by simp [blk_of] at hg;omega)))
 refine ret_one rfl rfl (((hz5.stored 0 _).stored 1 _).stored 2 _) rfl ?_
 refine ⟨.mk 3 A5 c5 (0 :: b) none 0 [],by show _=Ending.returned (.agg #[.int .u8 3,.slice A5 (0 :: b).length c5,.slice none 0 0]);rw [show (0 :: b).length=1+n by simp [HN.out,Nat.add_comm]];rfl,rfl,made_out (off_body (Off.of_mine hm5 fun g hg hx=>?_) (by omega) (fun x hx=>by rcases List.mem_cons.1 hx with rfl | hx;omega;exact HO.out x hx)) _ _ _,below_out HQ5.out _ _ _⟩
 have h1:=(hm5.block hg).1
 rcases List.mem_cons.1 hx with h2 | h2
 ·omega
 ·have:=hxs g h2;omega
set_option maxRecDepth 100000 in
set_option maxHeartbeats 2000000 in
theorem digs'_any (w:World) (xs:List Nat) (A:Option Addr) (c n B:Nat) (b:List Nat) (hr:Rd .u8 w B A c b) (hn:b.length=n) (hB:B≤w.heap.size) (hmx:n≤800000) (ho:∀ x∈b,x<256) (hxs:∀ x∈xs,x<w.heap.size) :
  Calls Tryz.prog 38 #[.slice A n c] w (MadeT w xs (.mk 3 (0 :: b) [])):=by
 have HO:=Lib.hid ho
 have hZ:=(Holds.fresh w 32 #[.int .u8 0,.slice none 0 0,.slice none 0 0]).alloc (.cells #[.int .u8 0] 5)
 have hs1:(w.alloc (.cells #[.int .u8 0,.slice none 0 0,.slice none 0 0] 32)).heap.size=w.heap.size+1:=by simp
 have HM1:Hid (Mine 5 ((w.alloc (.cells #[.int .u8 0,.slice none 0 0,.slice none 0 0] 32)).alloc (.cells #[.int .u8 0] 5)) (w.heap.size+1) (some ⟨w.heap.size+1,0,none⟩) 1 [0]):=Lib.hid (by
  have h:=Mine.fresh1 (w.alloc (.cells #[.int .u8 0,.slice none 0 0,.slice none 0 0] 32)) (w.heap.size+1) 0 (by omega)
  rw [hs1] at h
  exact h)
 have HQ1:Hid (Below w.heap.size w ((w.alloc (.cells #[.int .u8 0,.slice none 0 0,.slice none 0 0] 32)).alloc (.cells #[.int .u8 0] 5))):=Lib.hid (((Below.refl _ _).alloc (Nat.le_refl _) _).alloc (by omega) _)
 have HR1:Hid (Rd .u8 ((w.alloc (.cells #[.int .u8 0,.slice none 0 0,.slice none 0 0] 32)).alloc (.cells #[.int .u8 0] 5)) B A c b):=Lib.hid (hr.under (HQ1.out.mono hB))
 have HN:=Lib.hid hn
 have HZ:=Lib.hid hZ
 have HS1:Hid (w.heap.size+1≤((w.alloc (.cells #[.int .u8 0,.slice none 0 0,.slice none 0 0] 32)).alloc (.cells #[.int .u8 0] 5)).heap.size):=Lib.hid (by simp)
 have HF5:Hid (∀ W,((w.alloc (.cells #[.int .u8 0,.slice none 0 0,.slice none 0 0] 32)).alloc (.cells #[.int .u8 0] 5)).grownBy W (blk_of (some ⟨w.heap.size+1,0,none⟩))→Holds W w.heap.size 32 #[.int .u8 0,.slice none 0 0,.slice none 0 0]):=Lib.hid fun W hW=>HZ.out.grown hW (by simp [blk_of])
 clear hr hn hZ hs1 ho
 go_enter Tryz.func38,Tryz.ntmps38
 go_wp2_with (first | (refine wpList_mine (B2:=B) _ rfl (.tmp 3) (.tmp 4) 24 rfl 5 Tryz.underlying24 info_u8 rfl HM1.out rfl rfl HR1.out HN.out HS1.out (by omega) ?_;intro A5 c5 W5 hm5 hg5 hat5) | fail)
 have hz5:=HF5.out _ hg5
 have hs5:=hz5.lt
 have hq5:Below w.heap.size w W5:=HQ1.out.trans (below_blk hg5 HQ1.out.size (fun g hg=>by simp [blk_of] at hg;omega))
 have HQ5:=Lib.hid hq5
 obtain ⟨m,hm⟩:∃ m,1+n=m:=⟨_,rfl⟩
 have hlen:([0] ++ b).length=m:=by simp [HN.out];omega
 have HC:=Lib.hid (prim'_own W5 m c5 3 _ A5 ([0] ++ b) hm5.rd hlen (Nat.le_refl _) (by omega) (by omega) (fun x hx=>by rcases List.mem_cons.1 hx with rfl | hx;omega;exact HO.out x hx))
 rw [←hm] at HC
 clear hm5 hg5 hat5 hq5 hlen hm
 refine HC.out.mono ?_
 rintro e w2 ⟨v2,rfl,hp2,hb2⟩
 have HQ3:Hid (Below w.heap.size w w2):=Lib.hid (HQ5.out.trans (hb2.mono HQ5.out.size))
 have hz3:=hz5.under hb2 hs5
 obtain ⟨lt,hlt,hltt,hof⟩:=off_prim (xs:=w.heap.size :: xs) hp2 (fun y hy=>by rcases List.mem_cons.1 hy with rfl | hy;exact hs5;have:=hxs y hy;omega)
 have HLT:=Lib.hid hlt
 have HLTT:=Lib.hid hltt
 have HOF:=Lib.hid hof
 obtain ⟨A2,c2,rfl,_⟩:=hp2
 have z0:=hz3.cell 0
 have z1:=hz3.cell 1
 have z2:=hz3.cell 2
 have y0:=hz3.open_ 0
 have y1:=hz3.open_ 1
 have y2:=hz3.open_ 2
 clear hb2 HC hlt hltt hof hz5
 go_wp2_with fail
 refine ret_one rfl rfl (((hz3.stored 0 _).stored 1 _).stored 2 _) rfl ?_
 exact ⟨lt,congrArg Ending.returned HLT.out,HLTT.out,made_out HOF.out _ _ _,below_out HQ3.out _ _ _⟩

/-- A thing's truth. -/
def boolOf (x kn:Nat) (b:List Nat):Option Bool:=if heldOk x kn 1=true∧b=[255] then some true else if heldOk x kn 1=true∧b=[0] then some false else none
def GetBo (w:World) (o:Option Bool) (e:Ending) (w':World):Prop:=e = .returned (.tuple #[.bool (o.getD false),.bool o.isSome])∧Below w.heap.size w w'
end Go.Proofs.YtcibjcgipfpniaaGreatDoor
namespace Go.Proofs.YtcibjcgipfpniaaGreatDoor
open Go.RowKit

theorem wpAnyH_strong {P:Program} {md:Region.Mode} {ops:Array Oper} {Q:Exit→Act→World→Prop} {S S':World→Prop} (hS:∀ w,S' w→S w):∀ (fuel:Nat) (listed:Array Bool) (a:Act) (w:World),wpAnyH P md ops Q S' fuel listed a w→wpAnyH P md ops Q S fuel listed a w
 | 0,_,_,_,h=>h
 | fuel+1,_,_,_,h=>⟨h.1,fun i hi=>wpOp_mono (fun a' w' h'=>⟨hS w' h'.1,wpAnyH_strong hS fuel _ a' w' h'.2⟩) (h.2 i hi)⟩
end Go.Proofs.YtcibjcgipfpniaaGreatDoor
namespace Go.Proofs.YtcibjcgipfpniaaGreatDoor
open Go.RowKit
set_option linter.unusedVariables false
set_option linter.unusedSimpArgs false

/-- An append to bytes that are full. -/
theorem run_grow {P:Program} (w:World) (t tx ty e:TypeId) (ht:P.underlying t=some (.slice e)) (htx:P.underlying tx=some (.slice e)) (hi:(P.info? e).map (fun i=>(i.zero,i.size,i.bytes))=some (some (.int .u8 0),1,1))
  {B B1 B2:Nat} {A A2:Option Addr} {c n c2 m:Nat} {l news:List Nat} (hrd:Rd .u8 w B1 A c l) (hn:l.length=n) (hr:Rd .u8 w B2 A2 c2 news) (hm:news.length=m) (hB:B≤w.heap.size) (hsz:n+m≤1000000) (hroom:¬ n+m≤c) :
  ∃ c' w',(Builtin.append_ #[t,tx] ty #[.slice A n c,.slice A2 m c2]).run P w = .ok (.slice (some ⟨w.heap.size,0,none⟩) (n+m) c') w'∧Mine e w' B (some ⟨w.heap.size,0,none⟩) c' (l ++ news)∧Below w.heap.size w w':=by
 obtain ⟨i,hi',hz,hsize,hbytes⟩:=info_parts hi
 have hsrc:=src_of_rd (P:=P) htx hr hm
 rw [←hsize] at hsrc
 have hold:(Builtin.firstCells i.size n (.slice A n c)).run P w.drew = .ok (bvals l).toArray w.drew:=by
  have:=(src_of_rd (P:=P) (tx:=t) ht (w:=w.drew) (B:=B1) (A:=A) (c:=c) (n:=n) (l:=l) hrd hn).cells
  rw [hsize];exact this
 have hfit:Builtin.nextslicecap (n+m) c*i.bytes≤281474976710656:=growslice_fits (by omega) (by rw [hbytes];omega)
 have hrun:=run_append_grow_src (P:=P) w t tx ty e i (.int .u8 0) ht hi' hz A n c (bvals l) hold _ m (bvals news) hsrc (by omega) (by omega) hfit
 have hge:=grownCap_ge w (n+m) c e
 have hcm:grownCap w (n+m) c e≤maxLen:=grownCap_le_maxLen w (n+m) c e (by unfold maxLen;omega)
 refine ⟨_,_,hrun,.inr ⟨w.heap.size,0,_,rfl,hB,heap_alloc_new w.drew _,by rw [List.length_append];omega,by unfold maxLen at hcm;exact hcm,?_,fun j hj=>?_⟩,⟨rfl,rfl,rfl,by simp,fun k hk=>Go.heap_alloc_old w.drew _ hk⟩⟩
 ·simp only [Array.size_append,List.size_toArray,size_zeroCells,List.length_append,bvals_length]
  rw [show (Value.int IntKind.u8 0).cells.size=1 from rfl,Nat.mul_one]
  omega
 ·rw [List.length_append] at hj
  have e1:bvals l ++ bvals news=bvals (l ++ news):=by simp [bvals]
  rw [Nat.zero_add,e1,Array.getElem?_append_left (by simp [bvals_length];omega),List.getElem?_toArray]
  exact bvals_at _ (by rw [List.length_append];exact hj)
theorem bytes_block {W:World} {g:Nat} {cs:Array Value} {mk:Nat×Nat} {b:List Nat} (h:W.heap[g]?=some (.cells cs 5 mk)) (hc:cs=(bvals b).toArray) (hl:b.length≤100000):Rd .u8 W W.heap.size (some ⟨g,0,none⟩) b.length b :=
 ⟨Nat.le_refl _,by omega,fun _=>⟨g,0,rfl,(Array.getElem?_eq_some_iff.1 h).1,fun j hj=>by
  rw [Nat.zero_add,cell_of_row W g j cs 5 mk h,hc,List.getElem?_toArray]
  exact bvals_at b hj⟩⟩
theorem Att.v_take {l:List Att} {i:Nat} (h:i<l.length):(l.take (i+1)).map atTr=(l.take i).map atTr ++ [atTr (l.getD i default)]:=by
 rw [List.take_succ_eq_append_getElem h,List.map_append]
 simp [List.getD,h]
end Go.Proofs.YtcibjcgipfpniaaGreatDoor
namespace Go.Proofs.YtcibjcgipfpniaaGreatDoor
open Go.RowKit
set_option linter.unusedVariables false
set_option linter.unusedSimpArgs false
attribute [local go_sem ↓] Go.wp_at_zero Go.wp_at_succ

set_option maxRecDepth 100000 in
set_option maxHeartbeats 16000000 in
theorem dnNode_any (w:World) (xs:List Nat) (B:Nat) (A:Option Addr) (c n:Nat) (l:List Att) (hn:l.length=n) (hr:RdA w B A c l) (hB:B≤w.heap.size) (hok:dnOk l=true) (hT:Lib.Utf8Tabs 0 1 w) (hxs:∀ x∈xs,x<w.heap.size) :
  Calls Tryz.prog 40 #[.slice A n c] w (MadeT w xs (dnTr l)):=by
 have hlc:n≤c:=by rw [←hn];exact hr.1
 have hc63:=hr.2.1
 have hn4:n≤4:=by rw [←hn];exact (dnOk_iff.1 hok).2.1
 have hn1:1≤n:=by rw [←hn];exact (dnOk_iff.1 hok).1
 have HOK:=Lib.hid hok
 have HN:=Lib.hid hn
 have HRD:=Lib.hid hr
 have HSZ:Hid (∀ x∈l,(bts x.s).length≤64):=Lib.hid fun x hx=>by
  obtain ⟨j,hj,rfl⟩:=List.getElem_of_mem hx
  have h:=(atOk_iff.1 ((dnOk_iff.1 hok).2.2 j hj)).2.2
  have e:l.getD j default=l[j]:=by simp [List.getD,hj]
  rw [e] at h
  unfold textOk at h
  simp only [Bool.and_eq_true,decide_eq_true_eq] at h
  exact h.1
 obtain ⟨V,hV⟩:∃ V,V=w.alloc (.cells #[.int .u8 0,.slice none 0 0,.slice none 0 0] 32):=⟨_,rfl⟩
 have hz:Holds V w.heap.size 32 #[.int .u8 0,.slice none 0 0,.slice none 0 0]:=by rw [hV];exact Holds.fresh _ _ _
 have HB0:Hid (Below w.heap.size w V):=Lib.hid (by rw [hV];exact (Below.refl _ _).alloc (Nat.le_refl _) _)
 have hVs:w.heap.size<V.heap.size:=hz.lt
 have HXS:Hid (∀ W:World,V.heap.size≤W.heap.size→∀ x∈w.heap.size :: xs,x<W.heap.size):=Lib.hid fun W hW x hx=>by
  rcases List.mem_cons.1 hx with rfl | hx
  ·omega
  ·have:=hxs x hx;omega
 have HIS:=Lib.hid (isDn_any V B A c n l hn (hr.under (HB0.out.mono hB)) (Nat.le_trans hB HB0.out.size) (fun x hx=>by have:=HSZ.out x hx;omega) (Utf8Tabs_below hT HB0.out))
 rw [hok] at HIS
 have HV:=Lib.hid hV
 obtain ⟨g,off,rfl,hg,hcs⟩:=HRD.out.2.2 (by rw [HN.out];omega)
 have HCS:=Lib.hid hcs
 have HZ:=Lib.hid hz
 clear hok hn hr hxs hz hV hcs hT
 go_enter Tryz.func40,Tryz.ntmps40
 go_wp2_with fail
 rw [←HV.out]
 clear HV
 refine HIS.out.mono ?_
 rintro e V2 ⟨rfl,hb⟩
 have HB2:=Lib.hid (HB0.out.trans (hb.mono HB0.out.size))
 have HZ2:=Lib.hid (HZ.out.under hb hVs)
 have HVV:Hid (V.heap.size≤V2.heap.size):=Lib.hid hb.size
 clear hb HIS
 go_wp2_with fail
 go_loopw [3,13] (fun kv iv wr=>∃ (i:Nat) (KA:Option Addr) (d:Nat) (ks:List Lt),i≤n∧iv = .int .i64 (i:Int)∧kv = .slice KA i d∧Kids (w.heap.size :: xs) KA d i ks wr∧Hid (ks.map Lt.t=(l.take i).map atTr)∧Hid (∀ g,blockOf KA=some g→w.heap.size<g)∧Holds wr w.heap.size 32 #[.int .u8 0,.slice none 0 0,.slice none 0 0]∧V.heap.size≤wr.heap.size∧Below w.heap.size w wr) (fun _ iv _=>n - (intOf iv).toNat)
 case atStart=>exact ⟨0,none,0,[],by omega,rfl,rfl,Kids.nil _ _,rfl,fun g hg=>by simp [blockOf] at hg,HZ2.out,HVV.out,HB2.out⟩
 case round =>
  obtain ⟨i,KA,d,ks,hi,rfl,rfl,hK,HT,HG,hZ,hVW,hB'⟩:=hrel
  have HVW:=Lib.hid hVW
  have HB:=Lib.hid hB'
  have HZr:=Lib.hid hZ
  have HK:=Lib.hid hK
  have hwr:w.heap.size<wr.heap.size:=hZ.lt
  clear hVW hB' hZ hK
  by_cases hlt:i<n
  ·obtain ⟨q0,q1⟩:=HCS.out i (by rw [HN.out];exact hlt)
   have c0:=(HB.out.cell (p:=⟨g,off+i*2,none⟩) (by show g<_;omega)).trans q0
   have c1:=(HB.out.cell (p:=⟨g,off+i*2+1,none⟩) (by show g<_;omega)).trans q1
   have hgw:g<wr.heap.size:=by omega
   have HSZ1:=HSZ.out (l.getD i default) (getD_mem (by rw [HN.out];exact hlt))
   have hat:=(dnOk_iff.1 HOK.out).2.2 i (by rw [HN.out];exact hlt)
   have HV1:Hid ((l.take (i+1)).map atTr=(l.take i).map atTr ++ [atTr (l.getD i default)]):=Lib.hid (Att.v_take (by rw [HN.out];exact hlt))
   obtain ⟨a,ha⟩:∃ a,a=l.getD i default:=⟨_,rfl⟩
   rw [←ha] at c0 c1 HSZ1 hat HV1
   clear ha q0 q1
   obtain ⟨kd,s⟩:=a
   dsimp only at c0 c1 HSZ1
   obtain ⟨L,rfl,hoL⟩:=str_all s
   rw [bts_str hoL] at HSZ1
   have HOL:=Lib.hid hoL
   have hkd:0≤kd∧kd<256:=by
    have h:kd=3∨kd=6∨kd=10∨kd=11:=kd_cases (atOk_iff.1 hat).1
    omega
   obtain ⟨m,rfl⟩:∃ m:Nat,kd=(m:Int):=⟨kd.toNat,by omega⟩
   have hm256:m<256:=by omega
   have HTA:Hid (atTr ⟨(m:Int),str L⟩ = .mk 49 [] [.mk 48 [] [.mk 6 [85,4,m] [],.mk 12 L []]]):=Lib.hid (by unfold atTr;rw [bts_str hoL];simp)
   rw [HTA.out] at HV1
   have HBD:Hid (∀ W,Below wr.heap.size wr W→∀ x∈bl KA ++ w.heap.size :: xs,x<W.heap.size):=Lib.hid fun W hW x hx=>by
    have h1:=HK.out.bound (HXS.out wr HVW.out) x hx
    have h2:=hW.size
    omega
   have HNX:Hid (∀ W,Below wr.heap.size wr W→W.heap.size ∉ bl KA ++ w.heap.size :: xs):=Lib.hid fun W hW hx=>by
    have:=HBD.out W hW _ hx
    omega
   clear hoL hat hkd HTA
   have hq0:Below wr.heap.size wr (wr.alloc (.cells #[.int .i64 (m:Int),.string (str L)] 83)):=(Below.refl _ _).alloc (Nat.le_refl _) _
   have hs0:(wr.alloc (.cells #[.int .i64 (m:Int),.string (str L)] 83)).heap.size=wr.heap.size+1:=by simp
   have hs1:((wr.alloc (.cells #[.int .i64 (m:Int),.string (str L)] 83)).alloc (.cells #[.int .u8 85,.int .u8 4] 5 (2,3))).heap.size=wr.heap.size+1+1:=by simp
   have hs2:(((wr.alloc (.cells #[.int .i64 (m:Int),.string (str L)] 83)).alloc (.cells #[.int .u8 85,.int .u8 4] 5 (2,3))).alloc (.cells #[.int .u8 (m:Int)] 5)).heap.size=wr.heap.size+1+1+1:=by simp
   have hcv:(convert 24 24 (.slice (some ⟨wr.heap.size+1,0,none⟩) 2 2)).run Tryz.prog ((wr.alloc (.cells #[.int .i64 (m:Int),.string (str L)] 83)).alloc (.cells #[.int .u8 85,.int .u8 4] 5)) = .ok (.slice (some ⟨wr.heap.size+1,0,none⟩) 2 2) ((wr.alloc (.cells #[.int .i64 (m:Int),.string (str L)] 83)).alloc (.cells #[.int .u8 85,.int .u8 4] 5 (2,3))):=by
    have h:=Lib.run_convert_bytes_const (P:=Tryz.prog) (wr.alloc (.cells #[.int .i64 (m:Int),.string (str L)] 83)) 24 5 #[.int .u8 85,.int .u8 4] 2 2 Tryz.underlying24 Tryz.underlying5
    rw [hs0] at h
    exact h
   have hq2:Below wr.heap.size wr (((wr.alloc (.cells #[.int .i64 (m:Int),.string (str L)] 83)).alloc (.cells #[.int .u8 85,.int .u8 4] 5 (2,3))).alloc (.cells #[.int .u8 (m:Int)] 5)):=(hq0.alloc (by rw [hs0];omega) _).alloc (by rw [hs1];omega) _
   have hHA:Holds (((wr.alloc (.cells #[.int .i64 (m:Int),.string (str L)] 83)).alloc (.cells #[.int .u8 85,.int .u8 4] 5 (2,3))).alloc (.cells #[.int .u8 (m:Int)] 5)) wr.heap.size 83 #[.int .i64 (m:Int),.string (str L)]:=((Holds.fresh wr 83 #[.int .i64 (m:Int),.string (str L)]).alloc _).alloc _
   have hb1:(((wr.alloc (.cells #[.int .i64 (m:Int),.string (str L)] 83)).alloc (.cells #[.int .u8 85,.int .u8 4] 5 (2,3))).alloc (.cells #[.int .u8 (m:Int)] 5)).heap[wr.heap.size+1]?=some (.cells #[.int .u8 85,.int .u8 4] 5 (2,3)):=by
    have h:=heap_alloc_new (wr.alloc (.cells #[.int .i64 (m:Int),.string (str L)] 83)) (.cells #[.int .u8 85,.int .u8 4] 5 (2,3))
    rw [hs0] at h
    exact (Below.heap_alloc ((wr.alloc (.cells #[.int .i64 (m:Int),.string (str L)] 83)).alloc (.cells #[.int .u8 85,.int .u8 4] 5 (2,3))) _ _ (by rw [hs1];omega)).trans h
   have hb2:(((wr.alloc (.cells #[.int .i64 (m:Int),.string (str L)] 83)).alloc (.cells #[.int .u8 85,.int .u8 4] 5 (2,3))).alloc (.cells #[.int .u8 (m:Int)] 5)).heap[wr.heap.size+1+1]?=some (.cells #[.int .u8 (m:Int)] 5 (0,0)):=by
    have h:=heap_alloc_new ((wr.alloc (.cells #[.int .i64 (m:Int),.string (str L)] 83)).alloc (.cells #[.int .u8 85,.int .u8 4] 5 (2,3))) (.cells #[.int .u8 (m:Int)] 5)
    rw [hs1] at h
    exact h
   have hr1:=bytes_block (b:=[85,4]) hb1 (by simp [bvals]) (by simp)
   have hr2:=bytes_block (b:=[m]) hb2 (by simp [bvals]) (by simp)
   obtain ⟨c3,W3,hrun,hm3,hb3⟩:=run_grow (P:=Tryz.prog) (((wr.alloc (.cells #[.int .i64 (m:Int),.string (str L)] 83)).alloc (.cells #[.int .u8 85,.int .u8 4] 5 (2,3))).alloc (.cells #[.int .u8 (m:Int)] 5)) 24 24 24 5 Tryz.underlying24 Tryz.underlying24 info_u8 (B:=wr.heap.size) hr1 rfl hr2 rfl (by rw [hs2];omega) (by simp) (by simp)
   rw [hs2] at hrun hm3
   have Q3:=Lib.hid (hq2.trans (hb3.mono hq2.size))
   have hHA3:=hHA.under hb3 hHA.lt
   have HHA:=Lib.hid hHA3
   have HI:=Lib.hid (id_any W3 (bl KA ++ w.heap.size :: xs) _ c3 3 _ [85,4,m] hm3.rd rfl (Nat.le_refl _) (by omega) (by intro x hx;simp at hx;omega) (HBD.out _ Q3.out))
   have z0:=(Holds.fresh wr 83 #[.int .i64 (m:Int),.string (str L)]).cell 0
   have z1:=(Holds.fresh wr 83 #[.int .i64 (m:Int),.string (str L)]).cell 1
   have y0:=((Holds.fresh wr 83 #[.int .i64 (m:Int),.string (str L)]).alloc (.cells #[.int .u8 85,.int .u8 4] 5 (2,3))).cell 0
   clear hq0 hs0 hs1 hs2 hq2 hHA hb1 hb2 hr1 hr2 hm3 hb3 hHA3
   go_wp2_with (first | (refine wpList_append_run _ rfl (.tmp 18) (.tmp 22) 24 rfl rfl _ _ rfl rfl _ _ hrun ?_) | fail)
   refine HI.out.mono ?_
   rintro e w5 hm5
   obtain ⟨lti,pt,pa,pn,pc,pk,pm,pd,rfl,h6i,hTi,hOi,hb5⟩:=MadeT.six hm5
   have hHi:=Holds.fresh w5 32 #[.int .u8 (pt:Int),.slice pa pn pc,.slice pk pm pd]
   have hq5:Below w5.heap.size w5 (w5.alloc (.cells #[.int .u8 (pt:Int),.slice pa pn pc,.slice pk pm pd] 32)):=(Below.refl _ _).alloc (Nat.le_refl _) _
   have Q6:=Lib.hid (Q3.out.trans ((hb5.trans (hq5.mono hb5.size)).mono Q3.out.size))
   have HHI:=Lib.hid hHi
   have HGI:Hid (wr.heap.size≤w5.heap.size):=Lib.hid (Q3.out.trans (hb5.mono Q3.out.size)).size
   have H6I:=Lib.hid h6i
   have HTI:=Lib.hid hTi
   have HOI:=Lib.hid (hOi.alloc (.cells #[.int .u8 (pt:Int),.slice pa pn pc,.slice pk pm pd] 32))
   have HHA6:=Lib.hid ((HHA.out.under hb5 HHA.out.lt).alloc (.cells #[.int .u8 (pt:Int),.slice pa pn pc,.slice pk pm pd] 32))
   obtain ⟨gi,hgi⟩:∃ gi,w5.heap.size=gi:=⟨_,rfl⟩
   have HGE:=Lib.hid hgi
   generalize hW6:w5.alloc (.cells #[.int .u8 (pt:Int),.slice pa pn pc,.slice pk pm pd] 32)=W6 at *
   rw [hgi] at HHI HGI
   clear hm5 hb5 hq5 h6i hTi hOi hHi HI hgi z0 z1 y0 HHA hcv hrun
   have HW6:=Lib.hid hW6
   clear hW6
   go_wp2_with fail
   rw [HW6.out,HGE.out]
   clear HW6 HGE c0 c1
   have HS:Hid (∀ W,Below W6.heap.size W6 W→(fun W=>W.cell? ⟨gi,0,none⟩=some (.int .u8 (pt:Int))∧W.cell? ⟨gi,1,none⟩=some (.slice pa pn pc)∧W.cell? ⟨gi,2,none⟩=some (.slice pk pm pd)∧W.cell? ⟨wr.heap.size,1,none⟩=some (.string (str L))) W):=Lib.hid fun W hW=>by
    have h:=HHI.out.under hW HHI.out.lt
    exact ⟨h.cell 0,h.cell 1,h.cell 2,(HHA6.out.under hW HHA6.out.lt).cell 1⟩
   refine wp_region_noPanic ?_
   refine wp_region_held_drew (S:=(fun W=>W.cell? ⟨gi,0,none⟩=some (.int .u8 (pt:Int))∧W.cell? ⟨gi,1,none⟩=some (.slice pa pn pc)∧W.cell? ⟨gi,2,none⟩=some (.slice pk pm pd)∧W.cell? ⟨wr.heap.size,1,none⟩=some (.string (str L)))) (by kernel_rfl) (HS.out _ (Below.refl _ W6).drew) (fun hHeld=>?_)
   refine wpAnyH_take (i:=0) (oi:={ dst:=some 25,op:=Op.move (Operand.tmp 3),type:=30,pos:=_,after:=_,guard:=none }) (v:=?_) rfl (by kernel_rfl) (by kernel_rfl) (by kernel_rfl) (fun _ _ _ h=>h) (Or.inl ⟨by rfl,?_⟩) hHeld ?_
   rotate_left 1
   ·(intro W hW;(try dsimp only at hW);go_simp;try with_reducible rfl)
   try simp only [Act.put,List.setIfInBounds_toArray,List.set_cons_zero,List.set_cons_succ]
   refine wpAnyH_take (i:=1) (oi:={ dst:=some 26,op:=Op.load 32 (Operand.tmp 6),type:=32,pos:=_,after:=_,guard:=none }) (v:=?_) rfl (by kernel_rfl) (by kernel_rfl) (by kernel_rfl) (fun _ _ _ h=>h) (Or.inl ⟨by rfl,?_⟩) hHeld ?_
   rotate_left 1
   ·(intro W hW;obtain ⟨k0,k1,k2,_⟩:=hW;(try dsimp only at hW);go_simp;try with_reducible rfl)
   try simp only [Act.put,List.setIfInBounds_toArray,List.set_cons_zero,List.set_cons_succ]
   refine wpAnyH_take (i:=2) (oi:={ dst:=some 27,op:=Op.fieldAddr 83 (Operand.tmp 5) 1,type:=0,pos:=_,after:=_,guard:=none }) (v:=?_) rfl (by kernel_rfl) (by kernel_rfl) (by kernel_rfl) (fun _ _ _ h=>h) (Or.inl ⟨by rfl,?_⟩) hHeld ?_
   rotate_left 1
   ·(intro W hW;(try dsimp only at hW);go_simp;try with_reducible rfl)
   try simp only [Act.put,List.setIfInBounds_toArray,List.set_cons_zero,List.set_cons_succ]
   refine wpAnyH_take (i:=3) (oi:={ dst:=some 28,op:=Op.load 9 (Operand.tmp 27),type:=9,pos:=_,after:=_,guard:=none }) (v:=?_) rfl (by kernel_rfl) (by kernel_rfl) (by kernel_rfl) (fun _ _ _ h=>h) (Or.inl ⟨by rfl,?_⟩) hHeld ?_
   rotate_left 1
   ·(intro W hW;obtain ⟨_,_,_,k3⟩:=hW;(try dsimp only at hW);go_simp;try with_reducible rfl)
   try simp only [Act.put,List.setIfInBounds_toArray,List.set_cons_zero,List.set_cons_succ]
   refine wpAnyH_ready (rs:=[4]) (by kernel_rfl) (by simp) ?_
   refine AllReadyH.cons (o:={ dst:=some 29,op:=Op.call { callee:=Callee.value (Operand.func 66),args:=#[Operand.tmp 28],argTypes:=#[9] },type:=32,pos:=_,after:=_,guard:=none }) rfl (fun K hK=>?_) AllReadyH.nil
   go_simp
   refine (text_any _ (bl KA ++ w.heap.size :: xs) L HOL.out (by omega) (HBD.out _ (Q6.out.trans ((Below.refl _ W6).drew.mono Q6.out.size)))).mono ?_
   intro e w7 hm
   obtain ⟨lt7,t7,a7,n7,c7,k7,m7,d7,rfl,h6,hlt',hoff,hb⟩:=MadeT.six hm
   have b7:Hid (Below W6.heap.size W6 w7):=Lib.hid ((Below.refl _ W6).drew.trans hb)
   have Q7:=Lib.hid (Q6.out.trans (b7.out.mono Q6.out.size))
   have R7:=Lib.hid (b7.out)
   have S7:=Lib.hid (HS.out _ R7.out)
   have HS7:=Lib.hid h6
   have HT7:=Lib.hid hlt'
   have HO7:=Lib.hid hoff
   clear hm hb h6 hlt' hoff
   go_simp
   refine hK.out _ _ (S7.out) (fun _=>?_)
   clear hK K hHeld
   try simp only [Act.put,List.setIfInBounds_toArray,List.set_cons_zero,List.set_cons_succ]
   have hHeld:((fun W=>W.cell? ⟨gi,0,none⟩=some (.int .u8 (pt:Int))∧W.cell? ⟨gi,1,none⟩=some (.slice pa pn pc)∧W.cell? ⟨gi,2,none⟩=some (.slice pk pm pd)∧W.cell? ⟨wr.heap.size,1,none⟩=some (.string (str L)))) w7:=S7.out
   refine wpAnyH_ready (rs:=[5]) (by kernel_rfl) (by simp) ?_
   refine AllReadyH.cons (o:={ dst:=some 30,op:=Op.buildSlice 30 2 #[(0,Operand.tmp 26),(1,Operand.tmp 29)],type:=30,pos:=_,after:=_,guard:=none }) rfl (fun K hK=>?_) AllReadyH.nil
   go_simp
   obtain ⟨w8,hw⟩:∃ W,W=w7.alloc (.cells #[.int .u8 (pt:Int),.slice pa pn pc,.slice pk pm pd,.int .u8 (t7:Int),.slice a7 n7 c7,.slice k7 m7 d7] 32):=⟨_,rfl⟩
   rw [←hw]
   have b8:Hid (Below w7.heap.size w7 w8):=Lib.hid (by rw [hw];exact (Below.refl _ _).alloc (Nat.le_refl _) _)
   have Q8:=Lib.hid (Q7.out.trans (b8.out.mono Q7.out.size))
   have R8:=Lib.hid (R7.out.trans (b8.out.mono R7.out.size))
   have S8:=Lib.hid (HS.out _ R8.out)
   have HP8:Hid (Off (bl KA ++ w.heap.size :: xs) (KiP (some ⟨w7.heap.size,0,none⟩) 2 [lti,lt7]) w8):=Lib.hid (by rw [hw];exact row66 (HOI.out.under R7.out) H6I.out HO7.out HS7.out (HNX.out _ Q7.out))
   clear hw
   refine hK.out _ _ (S8.out) (fun _=>?_)
   clear hK K hHeld
   try simp only [Act.put,List.setIfInBounds_toArray,List.set_cons_zero,List.set_cons_succ]
   have hHeld:((fun W=>W.cell? ⟨gi,0,none⟩=some (.int .u8 (pt:Int))∧W.cell? ⟨gi,1,none⟩=some (.slice pa pn pc)∧W.cell? ⟨gi,2,none⟩=some (.slice pk pm pd)∧W.cell? ⟨wr.heap.size,1,none⟩=some (.string (str L)))) w8:=S8.out
   refine wpAnyH_ready (rs:=[6]) (by kernel_rfl) (by simp) ?_
   refine AllReadyH.cons (o:={ dst:=some 31,op:=Op.call { callee:=Callee.value (Operand.func 35),args:=#[Operand.const (Value.int IntKind.u8 48),Operand.tmp 30],argTypes:=#[5,30] },type:=32,pos:=_,after:=_,guard:=none }) rfl (fun K hK=>?_) AllReadyH.nil
   go_simp
   refine (seq_any _ (bl KA ++ w.heap.size :: xs) 48 2 2 _ [lti,lt7] HP8.out rfl (by omega) (by omega) (HBD.out _ Q8.out)).mono ?_
   intro e w9 hm
   obtain ⟨lt9,t9,a9,n9,c9,k9,m9,d9,rfl,h6,hlt',hoff,hb⟩:=MadeT.six hm
   have b9:Hid (Below w8.heap.size w8 w9):=Lib.hid (hb)
   have Q9:=Lib.hid (Q8.out.trans (b9.out.mono Q8.out.size))
   have R9:=Lib.hid (R8.out.trans (b9.out.mono R8.out.size))
   have S9:=Lib.hid (HS.out _ R9.out)
   have HS9:=Lib.hid h6
   have HT9:=Lib.hid hlt'
   have HO9:=Lib.hid hoff
   clear hm hb h6 hlt' hoff
   go_simp
   refine hK.out _ _ (S9.out) (fun _=>?_)
   clear hK K hHeld
   try simp only [Act.put,List.setIfInBounds_toArray,List.set_cons_zero,List.set_cons_succ]
   have hHeld:((fun W=>W.cell? ⟨gi,0,none⟩=some (.int .u8 (pt:Int))∧W.cell? ⟨gi,1,none⟩=some (.slice pa pn pc)∧W.cell? ⟨gi,2,none⟩=some (.slice pk pm pd)∧W.cell? ⟨wr.heap.size,1,none⟩=some (.string (str L)))) w9:=S9.out
   refine wpAnyH_ready (rs:=[7]) (by kernel_rfl) (by simp) ?_
   refine AllReadyH.cons (o:={ dst:=some 32,op:=Op.buildSlice 30 1 #[(0,Operand.tmp 31)],type:=30,pos:=_,after:=_,guard:=none }) rfl (fun K hK=>?_) AllReadyH.nil
   go_simp
   obtain ⟨w10,hw⟩:∃ W,W=w9.alloc (.cells #[.int .u8 (t9:Int),.slice a9 n9 c9,.slice k9 m9 d9] 32):=⟨_,rfl⟩
   rw [←hw]
   have b10:Hid (Below w9.heap.size w9 w10):=Lib.hid (by rw [hw];exact (Below.refl _ _).alloc (Nat.le_refl _) _)
   have Q10:=Lib.hid (Q9.out.trans (b10.out.mono Q9.out.size))
   have R10:=Lib.hid (R9.out.trans (b10.out.mono R9.out.size))
   have S10:=Lib.hid (HS.out _ R10.out)
   have HP10:Hid (Off (bl KA ++ w.heap.size :: xs) (KiP (some ⟨w9.heap.size,0,none⟩) 1 [lt9]) w10):=Lib.hid (by rw [hw];exact row6 HO9.out HS9.out (HNX.out _ Q9.out))
   clear hw
   refine hK.out _ _ (S10.out) (fun _=>?_)
   clear hK K hHeld
   try simp only [Act.put,List.setIfInBounds_toArray,List.set_cons_zero,List.set_cons_succ]
   have hHeld:((fun W=>W.cell? ⟨gi,0,none⟩=some (.int .u8 (pt:Int))∧W.cell? ⟨gi,1,none⟩=some (.slice pa pn pc)∧W.cell? ⟨gi,2,none⟩=some (.slice pk pm pd)∧W.cell? ⟨wr.heap.size,1,none⟩=some (.string (str L)))) w10:=S10.out
   refine wpAnyH_ready (rs:=[8]) (by kernel_rfl) (by simp) ?_
   refine AllReadyH.cons (o:={ dst:=some 33,op:=Op.call { callee:=Callee.value (Operand.func 35),args:=#[Operand.const (Value.int IntKind.u8 49),Operand.tmp 32],argTypes:=#[5,30] },type:=32,pos:=_,after:=_,guard:=none }) rfl (fun K hK=>?_) AllReadyH.nil
   go_simp
   refine (seq_any _ (bl KA ++ w.heap.size :: xs) 49 1 1 _ [lt9] HP10.out rfl (by omega) (by omega) (HBD.out _ Q10.out)).mono ?_
   intro e w11 hm
   obtain ⟨lt11,t11,a11,n11,c11,k11,m11,d11,rfl,h6,hlt',hoff,hb⟩:=MadeT.six hm
   have b11:Hid (Below w10.heap.size w10 w11):=Lib.hid (hb)
   have Q11:=Lib.hid (Q10.out.trans (b11.out.mono Q10.out.size))
   have R11:=Lib.hid (R10.out.trans (b11.out.mono R10.out.size))
   have S11:=Lib.hid (HS.out _ R11.out)
   have HS11:=Lib.hid h6
   have HT11:=Lib.hid hlt'
   have HO11:=Lib.hid hoff
   clear hm hb h6 hlt' hoff
   go_simp
   refine hK.out _ _ (S11.out) (fun _=>?_)
   clear hK K hHeld
   try simp only [Act.put,List.setIfInBounds_toArray,List.set_cons_zero,List.set_cons_succ]
   have hHeld:((fun W=>W.cell? ⟨gi,0,none⟩=some (.int .u8 (pt:Int))∧W.cell? ⟨gi,1,none⟩=some (.slice pa pn pc)∧W.cell? ⟨gi,2,none⟩=some (.slice pk pm pd)∧W.cell? ⟨wr.heap.size,1,none⟩=some (.string (str L)))) w11:=S11.out
   refine wpAnyH_ready (rs:=[9]) (by kernel_rfl) (by simp) ?_
   refine AllReadyH.cons (o:={ dst:=some 34,op:=Op.buildSlice 30 1 #[(0,Operand.tmp 33)],type:=30,pos:=_,after:=_,guard:=none }) rfl (fun K hK=>?_) AllReadyH.nil
   go_simp
   obtain ⟨w12,hw⟩:∃ W,W=w11.alloc (.cells #[.int .u8 (t11:Int),.slice a11 n11 c11,.slice k11 m11 d11] 32):=⟨_,rfl⟩
   rw [←hw]
   have b12:Hid (Below w11.heap.size w11 w12):=Lib.hid (by rw [hw];exact (Below.refl _ _).alloc (Nat.le_refl _) _)
   have Q12:=Lib.hid (Q11.out.trans (b12.out.mono Q11.out.size))
   have R12:=Lib.hid (R11.out.trans (b12.out.mono R11.out.size))
   have S12:=Lib.hid (HS.out _ R12.out)
   have HF12:Hid (Holds w12 w11.heap.size 32 [.int .u8 (t11:Int),.slice a11 n11 c11,.slice k11 m11 d11].toArray):=Lib.hid (by rw [hw];exact Holds.fresh _ _ _)
   have K12:=Lib.hid (HK.out.under Q12.out)
   have O12:=Lib.hid (HO11.out.under b12.out)
   have OW12:=Lib.hid K12.out.own
   have BX12:=Lib.hid (HXS.out _ (Nat.le_trans HVW.out Q12.out.size))
   have Z12:=Lib.hid (HZr.out.under Q12.out hwr)
   have B12:=Lib.hid (HB.out.trans (Q12.out.mono HB.out.size))
   have V12:=Lib.hid (Nat.le_trans HVW.out Q12.out.size)
   clear hw
   refine hK.out _ _ (S12.out) (fun _=>?_)
   clear hK K hHeld
   try simp only [Act.put,List.setIfInBounds_toArray,List.set_cons_zero,List.set_cons_succ]
   have hHeld:((fun W=>W.cell? ⟨gi,0,none⟩=some (.int .u8 (pt:Int))∧W.cell? ⟨gi,1,none⟩=some (.slice pa pn pc)∧W.cell? ⟨gi,2,none⟩=some (.slice pk pm pd)∧W.cell? ⟨wr.heap.size,1,none⟩=some (.string (str L)))) w12:=S12.out
   refine wpAnyH_ready (rs:=[10]) (by kernel_rfl) (by simp) ?_
   refine AllReadyH.cons (o:={ dst:=some 35,op:=Op.call { callee:=Callee.builtin Builtin.append,args:=#[Operand.tmp 25,Operand.tmp 34],argTypes:=#[30,30] },type:=30,pos:=_,after:=_,guard:=none }) rfl (fun K hK=>?_) AllReadyH.nil
   refine step_pushV _ rfl (.tmp 25) (.tmp 34) 30 rfl 32 _ 3 56 Tryz.underlying30 info_node rfl (by omega) (by omega) rfl OW12.out (cs:=[.int .u8 (t11:Int),.slice a11 n11 c11,.slice k11 m11 d11]) rfl rfl one6 HF12.out (by omega) ?_
   intro g13 c13 w13 ho13 hg13 hat13 hlt13
   have K13:=Lib.hid (K12.out.push6 O12.out HS11.out ho13 hg13 hat13 BX12.out)
   have Z13:=Lib.hid (Z12.out.grown hg13 (fun h=>by have:=HG.out _ h.symm;omega))
   have B13:=Lib.hid (below_own B12.out hg13 (fun g hg=>by have:=HG.out g hg;omega) (Nat.le_refl _))
   have V13:=Lib.hid (Nat.le_trans V12.out hg13.size)
   have G13:Hid (∀ g,blockOf (some (⟨g13,0,none⟩:Addr))=some g→w.heap.size<g):=Lib.hid fun g hg=>by
    rcases hat13 with h | h
    ·exact HG.out g (h.trans (by simpa [blockOf] using hg))
    ·have e:g13=g:=by simpa [blockOf] using hg
     have:=Z12.out.lt
     omega
   have S13:Hid ((fun W=>W.cell? ⟨gi,0,none⟩=some (.int .u8 (pt:Int))∧W.cell? ⟨gi,1,none⟩=some (.slice pa pn pc)∧W.cell? ⟨gi,2,none⟩=some (.slice pk pm pd)∧W.cell? ⟨wr.heap.size,1,none⟩=some (.string (str L))) w13):=Lib.hid (by
    have h12:=HHI.out.under R12.out HHI.out.lt
    have h13:=h12.grown hg13 (fun e=>by have:=HK.out.lt e.symm;have:=HGI.out;omega)
    have ha12:=HHA6.out.under R12.out HHA6.out.lt
    have ha13:=ha12.grown hg13 (fun e=>by have:=HK.out.lt e.symm;omega)
    exact ⟨h13.cell 0,h13.cell 1,h13.cell 2,ha13.cell 1⟩)
   clear ho13 hg13 hat13 OW12 HF12 O12 K12 BX12
   refine hK.out _ _ (S13.out) (fun _=>?_)
   clear hK K hHeld
   try simp only [Act.put,List.setIfInBounds_toArray,List.set_cons_zero,List.set_cons_succ]
   have hHeld:((fun W=>W.cell? ⟨gi,0,none⟩=some (.int .u8 (pt:Int))∧W.cell? ⟨gi,1,none⟩=some (.slice pa pn pc)∧W.cell? ⟨gi,2,none⟩=some (.slice pk pm pd)∧W.cell? ⟨wr.heap.size,1,none⟩=some (.string (str L)))) w13:=S13.out
   refine wpAnyH_take (i:=11) (oi:={ dst:=some 3,op:=Op.assign (Operand.tmp 35),type:=30,pos:=_,after:=_,guard:=none }) (v:=?_) rfl (by kernel_rfl) (by kernel_rfl) (by kernel_rfl) (fun _ _ _ h=>h) (Or.inl ⟨by rfl,?_⟩) hHeld ?_
   rotate_left 1
   ·(intro W hW;(try dsimp only at hW);go_simp;try with_reducible rfl)
   try simp only [Act.put,List.setIfInBounds_toArray,List.set_cons_zero,List.set_cons_succ]
   refine wpAnyH_done (by kernel_rfl) ?_ _
   refine NoPanic.normal ?_
   have HTT:Hid ((ks ++ [lt11]).map Lt.t=(l.take (i+1)).map atTr):=Lib.hid (by
    rw [HV1.out,List.map_append,HT.out]
    simp [HT11.out,HT9.out,HT7.out,HTI.out])
   go_wp2_with fail
   go_roundw
   case rel=>exact ⟨i+1,_,_,_,by omega,by go_num,rfl,K13.out,HTT.out,G13.out,Z13.out,V13.out,B13.out⟩
   case measure=>simp [intOf];omega
  ·obtain rfl:i=n:=by omega
   have HTT:Hid (ks.map Lt.t=l.map atTr):=Lib.hid (by rw [HT.out,List.take_of_length_le (by rw [HN.out];exact Nat.le_refl _)])
   have HSE:=Lib.hid (seq_any wr (w.heap.size :: xs) 48 d i KA ks HK.out.ki HK.out.len (by omega) (by omega) (HXS.out wr HVW.out))
   go_wp2_with fail
   refine HSE.out.mono ?_
   rintro e w2 hm2
   obtain ⟨lt2,pt,pa,pn,pc,pk,pm,pd,rfl,h62,hT2,hO2,hb2⟩:=MadeT.six hm2
   have HQ2:=Lib.hid (HB.out.trans (hb2.mono HB.out.size))
   have hz2:=HZr.out.under hb2 hwr
   have HO2:=Lib.hid hO2
   have z0:=hz2.cell 0
   have z1:=hz2.cell 1
   have z2:=hz2.cell 2
   have y0:=hz2.open_ 0
   have y1:=hz2.open_ 1
   have y2:=hz2.open_ 2
   have HLT:Hid (lt2.val = .agg #[.int .u8 (pt:Int),.slice pa pn pc,.slice pk pm pd]):=Lib.hid (by rw [Lt.val,←lcell_cells,show lcell lt2=_ from h62])
   have HTE:Hid (lt2.t=dnTr l):=Lib.hid (by rw [hT2,HTT.out];rfl)
   clear hm2 hb2 hO2 HSE hT2
   go_wp2_with fail
   refine ret_one rfl rfl (((hz2.stored 0 _).stored 1 _).stored 2 _) rfl ?_
   exact ⟨lt2,by rw [HLT.out];rfl,HTE.out,made_out HO2.out _ _ _,below_out HQ2.out _ _ _⟩
end Go.Proofs.YtcibjcgipfpniaaGreatDoor
namespace Go.Proofs.YtcibjcgipfpniaaGreatDoor
open Go.RowKit
set_option linter.unusedVariables false
set_option linter.unusedSimpArgs false
attribute [local go_sem ↓] Go.wp_at_zero Go.wp_at_succ

set_option maxRecDepth 100000 in
set_option maxHeartbeats 16000000 in
theorem dnNode'_any (w:World) (xs:List Nat) (B:Nat) (A:Option Addr) (c n:Nat) (l:List Att) (hn:l.length=n) (hr:RdA w B A c l) (hB:B≤w.heap.size) (hok:dnOk l=true) (hxs:∀ x∈xs,x<w.heap.size) :
  Calls Tryz.prog 43 #[.slice A n c] w (MadeT w xs (dnTr l)):=by
 have hlc:n≤c:=by rw [←hn];exact hr.1
 have hc63:=hr.2.1
 have hn4:n≤4:=by rw [←hn];exact (dnOk_iff.1 hok).2.1
 have hn1:1≤n:=by rw [←hn];exact (dnOk_iff.1 hok).1
 have HOK:=Lib.hid hok
 have HN:=Lib.hid hn
 have HRD:=Lib.hid hr
 have HSZ:Hid (∀ x∈l,(bts x.s).length≤64):=Lib.hid fun x hx=>by
  obtain ⟨j,hj,rfl⟩:=List.getElem_of_mem hx
  have h:=(atOk_iff.1 ((dnOk_iff.1 hok).2.2 j hj)).2.2
  have e:l.getD j default=l[j]:=by simp [List.getD,hj]
  rw [e] at h
  unfold textOk at h
  simp only [Bool.and_eq_true,decide_eq_true_eq] at h
  exact h.1
 obtain ⟨V,hV⟩:∃ V,V=w.alloc (.cells #[.int .u8 0,.slice none 0 0,.slice none 0 0] 32):=⟨_,rfl⟩
 have hz:Holds V w.heap.size 32 #[.int .u8 0,.slice none 0 0,.slice none 0 0]:=by rw [hV];exact Holds.fresh _ _ _
 have HB0:Hid (Below w.heap.size w V):=Lib.hid (by rw [hV];exact (Below.refl _ _).alloc (Nat.le_refl _) _)
 have hVs:w.heap.size<V.heap.size:=hz.lt
 have HXS:Hid (∀ W:World,V.heap.size≤W.heap.size→∀ x∈w.heap.size :: xs,x<W.heap.size):=Lib.hid fun W hW x hx=>by
  rcases List.mem_cons.1 hx with rfl | hx
  ·omega
  ·have:=hxs x hx;omega
 have HV:=Lib.hid hV
 obtain ⟨g,off,rfl,hg,hcs⟩:=HRD.out.2.2 (by rw [HN.out];omega)
 have HCS:=Lib.hid hcs
 have HZ:=Lib.hid hz
 clear hok hn hr hxs hz hV hcs
 go_enter Tryz.func43,Tryz.ntmps43
 go_wp2_with fail
 rw [←HV.out]
 clear HV
 go_loopw [3,4] (fun kv iv wr=>∃ (i:Nat) (KA:Option Addr) (d:Nat) (ks:List Lt),i≤n∧iv = .int .i64 (i:Int)∧kv = .slice KA i d∧Kids (w.heap.size :: xs) KA d i ks wr∧Hid (ks.map Lt.t=(l.take i).map atTr)∧Hid (∀ g,blockOf KA=some g→w.heap.size<g)∧Holds wr w.heap.size 32 #[.int .u8 0,.slice none 0 0,.slice none 0 0]∧V.heap.size≤wr.heap.size∧Below w.heap.size w wr) (fun _ iv _=>n - (intOf iv).toNat)
 case atStart=>exact ⟨0,none,0,[],by omega,rfl,rfl,Kids.nil _ _,rfl,fun g hg=>by simp [blockOf] at hg,HZ.out,Nat.le_refl _,HB0.out⟩
 case round =>
  obtain ⟨i,KA,d,ks,hi,rfl,rfl,hK,HT,HG,hZ,hVW,hB'⟩:=hrel
  have HVW:=Lib.hid hVW
  have HB:=Lib.hid hB'
  have HZr:=Lib.hid hZ
  have HK:=Lib.hid hK
  have hwr:w.heap.size<wr.heap.size:=hZ.lt
  clear hVW hB' hZ hK
  by_cases hlt:i<n
  ·obtain ⟨q0,q1⟩:=HCS.out i (by rw [HN.out];exact hlt)
   have c0:=(HB.out.cell (p:=⟨g,off+i*2,none⟩) (by show g<_;omega)).trans q0
   have c1:=(HB.out.cell (p:=⟨g,off+i*2+1,none⟩) (by show g<_;omega)).trans q1
   have hgw:g<wr.heap.size:=by omega
   have HSZ1:=HSZ.out (l.getD i default) (getD_mem (by rw [HN.out];exact hlt))
   have hat:=(dnOk_iff.1 HOK.out).2.2 i (by rw [HN.out];exact hlt)
   have HV1:Hid ((l.take (i+1)).map atTr=(l.take i).map atTr ++ [atTr (l.getD i default)]):=Lib.hid (Att.v_take (by rw [HN.out];exact hlt))
   obtain ⟨a,ha⟩:∃ a,a=l.getD i default:=⟨_,rfl⟩
   rw [←ha] at c0 c1 HSZ1 hat HV1
   clear ha q0 q1
   obtain ⟨kd,s⟩:=a
   dsimp only at c0 c1 HSZ1
   obtain ⟨L,rfl,hoL⟩:=str_all s
   rw [bts_str hoL] at HSZ1
   have HOL:=Lib.hid hoL
   have hkd:0≤kd∧kd<256:=by
    have h:kd=3∨kd=6∨kd=10∨kd=11:=kd_cases (atOk_iff.1 hat).1
    omega
   obtain ⟨m,rfl⟩:∃ m:Nat,kd=(m:Int):=⟨kd.toNat,by omega⟩
   have hm256:m<256:=by omega
   have HTA:Hid (atTr ⟨(m:Int),str L⟩ = .mk 49 [] [.mk 48 [] [.mk 6 [85,4,m] [],.mk 12 L []]]):=Lib.hid (by unfold atTr;rw [bts_str hoL];simp)
   rw [HTA.out] at HV1
   have HBD:Hid (∀ W,Below wr.heap.size wr W→∀ x∈bl KA ++ w.heap.size :: xs,x<W.heap.size):=Lib.hid fun W hW x hx=>by
    have h1:=HK.out.bound (HXS.out wr HVW.out) x hx
    have h2:=hW.size
    omega
   have HNX:Hid (∀ W,Below wr.heap.size wr W→W.heap.size ∉ bl KA ++ w.heap.size :: xs):=Lib.hid fun W hW hx=>by
    have:=HBD.out W hW _ hx
    omega
   clear hoL hat hkd HTA
   have hrd:Rd .u8 (wr.alloc (.cells #[.int .u8 85,.int .u8 4,.int .u8 (m:Int)] 5)) (wr.alloc (.cells #[.int .u8 85,.int .u8 4,.int .u8 (m:Int)] 5)).heap.size (some ⟨wr.heap.size,0,none⟩) 3 [85,4,m]:=bytes_block (b:=[85,4,m]) (heap_alloc_new wr _) (by simp [bvals]) (by simp)
   have hq1:Below wr.heap.size wr (wr.alloc (.cells #[.int .u8 85,.int .u8 4,.int .u8 (m:Int)] 5)):=(Below.refl _ _).alloc (Nat.le_refl _) _
   have HI:=Lib.hid (id'_any (wr.alloc (.cells #[.int .u8 85,.int .u8 4,.int .u8 (m:Int)] 5)) (bl KA ++ w.heap.size :: xs) _ 3 3 _ [85,4,m] hrd rfl (Nat.le_refl _) (by omega) (by intro x hx;simp at hx;omega) (HBD.out _ hq1))
   have Q1:=Lib.hid hq1
   clear hrd hq1
   go_wp2_with fail
   refine HI.out.mono ?_
   rintro e w5 hm5
   obtain ⟨lti,pt,pa,pn,pc,pk,pm,pd,rfl,h6i,hTi,hOi,hb5⟩:=MadeT.six hm5
   have hHi:=Holds.fresh w5 32 #[.int .u8 (pt:Int),.slice pa pn pc,.slice pk pm pd]
   have hq5:Below w5.heap.size w5 (w5.alloc (.cells #[.int .u8 (pt:Int),.slice pa pn pc,.slice pk pm pd] 32)):=(Below.refl _ _).alloc (Nat.le_refl _) _
   have Q6:=Lib.hid (Q1.out.trans ((hb5.trans (hq5.mono hb5.size)).mono Q1.out.size))
   have HHI:=Lib.hid hHi
   have HGI:Hid (wr.heap.size≤w5.heap.size):=Lib.hid (Q1.out.trans (hb5.mono Q1.out.size)).size
   have H6I:=Lib.hid h6i
   have HTI:=Lib.hid hTi
   have HOI:=Lib.hid (hOi.alloc (.cells #[.int .u8 (pt:Int),.slice pa pn pc,.slice pk pm pd] 32))
   have hrow:∀ W,Below wr.heap.size wr W→W.cell? ⟨g,off+i*2+1,none⟩=some (.string (str L)):=fun W hW=>(hW.cell (p:=⟨g,_,none⟩) hgw).trans c1
   have HROW:=Lib.hid hrow
   have HROW0:Hid (w.cell? ⟨g,off+i*2+1,none⟩=some (.string (str L))):=Lib.hid ((HB.out.cell (p:=⟨g,off+i*2+1,none⟩) (by show g<_;omega)).symm.trans c1)
   obtain ⟨gi,hgi⟩:∃ gi,w5.heap.size=gi:=⟨_,rfl⟩
   have HGE:=Lib.hid hgi
   generalize hW6:w5.alloc (.cells #[.int .u8 (pt:Int),.slice pa pn pc,.slice pk pm pd] 32)=W6 at *
   rw [hgi] at HHI HGI
   clear hm5 hb5 hq5 h6i hTi hOi hHi HI hgi hrow
   have HW6:=Lib.hid hW6
   clear hW6
   go_wp2_with fail
   rw [HW6.out,HGE.out]
   clear HW6 HGE c0 c1
   have HS:Hid (∀ W,Below W6.heap.size W6 W→(fun W=>W.cell? ⟨gi,0,none⟩=some (.int .u8 (pt:Int))∧W.cell? ⟨gi,1,none⟩=some (.slice pa pn pc)∧W.cell? ⟨gi,2,none⟩=some (.slice pk pm pd)∧W.cell? ⟨g,off+i*2+1,none⟩=some (.string (str L))) W):=Lib.hid fun W hW=>by
    have h:=HHI.out.under hW HHI.out.lt
    exact ⟨h.cell 0,h.cell 1,h.cell 2,HROW.out W (Q6.out.trans (hW.mono Q6.out.size))⟩
   refine wp_region_noPanic ?_
   refine wp_region_held_drew (S:=(fun W=>W.cell? ⟨gi,0,none⟩=some (.int .u8 (pt:Int))∧W.cell? ⟨gi,1,none⟩=some (.slice pa pn pc)∧W.cell? ⟨gi,2,none⟩=some (.slice pk pm pd)∧W.cell? ⟨g,off+i*2+1,none⟩=some (.string (str L)))) (by kernel_rfl) (HS.out _ (Below.refl _ W6).drew) (fun hHeld=>?_)
   refine wpAnyH_take (i:=0) (oi:={ dst:=some 20,op:=Op.move (Operand.tmp 3),type:=30,pos:=_,after:=_,guard:=none }) (v:=?_) rfl (by kernel_rfl) (by kernel_rfl) (by kernel_rfl) (fun _ _ _ h=>h) (Or.inl ⟨by rfl,?_⟩) hHeld ?_
   rotate_left 1
   ·(intro W hW;(try dsimp only at hW);go_simp;try with_reducible rfl)
   try simp only [Act.put,List.setIfInBounds_toArray,List.set_cons_zero,List.set_cons_succ]
   refine wpAnyH_take (i:=1) (oi:={ dst:=some 21,op:=Op.load 32 (Operand.tmp 5),type:=32,pos:=_,after:=_,guard:=none }) (v:=?_) rfl (by kernel_rfl) (by kernel_rfl) (by kernel_rfl) (fun _ _ _ h=>h) (Or.inl ⟨by rfl,?_⟩) hHeld ?_
   rotate_left 1
   ·(intro W hW;obtain ⟨k0,k1,k2,_⟩:=hW;(try dsimp only at hW);go_simp;try with_reducible rfl)
   try simp only [Act.put,List.setIfInBounds_toArray,List.set_cons_zero,List.set_cons_succ]
   refine wpAnyH_take (i:=2) (oi:={ dst:=some 22,op:=Op.move (Operand.tmp 0),type:=22,pos:=_,after:=_,guard:=none }) (v:=?_) rfl (by kernel_rfl) (by kernel_rfl) (by kernel_rfl) (fun _ _ _ h=>h) (Or.inl ⟨by rfl,?_⟩) hHeld ?_
   rotate_left 1
   ·(intro W hW;(try dsimp only at hW);go_simp;try with_reducible rfl)
   try simp only [Act.put,List.setIfInBounds_toArray,List.set_cons_zero,List.set_cons_succ]
   refine wpAnyH_take (i:=3) (oi:={ dst:=some 23,op:=Op.move (Operand.tmp 4),type:=3,pos:=_,after:=_,guard:=none }) (v:=?_) rfl (by kernel_rfl) (by kernel_rfl) (by kernel_rfl) (fun _ _ _ h=>h) (Or.inl ⟨by rfl,?_⟩) hHeld ?_
   rotate_left 1
   ·(intro W hW;(try dsimp only at hW);go_simp;try with_reducible rfl)
   try simp only [Act.put,List.setIfInBounds_toArray,List.set_cons_zero,List.set_cons_succ]
   refine wpAnyH_take (i:=4) (oi:={ dst:=some 24,op:=Op.indexAddr 22 (Operand.tmp 22) (Operand.tmp 23),type:=0,pos:=_,after:=_,guard:=none }) (v:=?_) rfl (by kernel_rfl) (by kernel_rfl) (by kernel_rfl) (fun _ _ _ h=>h) (Or.inl ⟨by rfl,?_⟩) hHeld ?_
   rotate_left 1
   ·(intro W hW;(try dsimp only at hW);go_simp;try with_reducible rfl)
   try simp only [Act.put,List.setIfInBounds_toArray,List.set_cons_zero,List.set_cons_succ]
   refine wpAnyH_take (i:=5) (oi:={ dst:=some 25,op:=Op.fieldAddr 83 (Operand.tmp 24) 1,type:=0,pos:=_,after:=_,guard:=none }) (v:=?_) rfl (by kernel_rfl) (by kernel_rfl) (by kernel_rfl) (fun _ _ _ h=>h) (Or.inl ⟨by rfl,?_⟩) hHeld ?_
   rotate_left 1
   ·(intro W hW;(try dsimp only at hW);go_simp;try with_reducible rfl)
   try simp only [Act.put,List.setIfInBounds_toArray,List.set_cons_zero,List.set_cons_succ]
   refine wpAnyH_take (i:=6) (oi:={ dst:=some 26,op:=Op.load 9 (Operand.tmp 25),type:=9,pos:=_,after:=_,guard:=none }) (v:=?_) rfl (by kernel_rfl) (by kernel_rfl) (by kernel_rfl) (fun _ _ _ h=>h) (Or.inl ⟨by rfl,?_⟩) hHeld ?_
   rotate_left 1
   ·(intro W hW;obtain ⟨_,_,_,k3⟩:=hW;(try dsimp only at hW);go_simp;try with_reducible rfl)
   try simp only [Act.put,List.setIfInBounds_toArray,List.set_cons_zero,List.set_cons_succ]
   refine wpAnyH_ready (rs:=[7]) (by kernel_rfl) (by simp) ?_
   refine AllReadyH.cons (o:={ dst:=some 27,op:=Op.call { callee:=Callee.value (Operand.func 89),args:=#[Operand.tmp 26],argTypes:=#[9] },type:=32,pos:=_,after:=_,guard:=none }) rfl (fun K hK=>?_) AllReadyH.nil
   go_simp
   refine (text'_any _ (bl KA ++ w.heap.size :: xs) L HOL.out (by omega) (HBD.out _ (Q6.out.trans ((Below.refl _ W6).drew.mono Q6.out.size)))).mono ?_
   intro e w7 hm
   obtain ⟨lt7,t7,a7,n7,c7,k7,m7,d7,rfl,h6,hlt',hoff,hb⟩:=MadeT.six hm
   have b7:Hid (Below W6.heap.size W6 w7):=Lib.hid ((Below.refl _ W6).drew.trans hb)
   have Q7:=Lib.hid (Q6.out.trans (b7.out.mono Q6.out.size))
   have R7:=Lib.hid (b7.out)
   have S7:=Lib.hid (HS.out _ R7.out)
   have HS7:=Lib.hid h6
   have HT7:=Lib.hid hlt'
   have HO7:=Lib.hid hoff
   clear hm hb h6 hlt' hoff
   go_simp
   refine hK.out _ _ (S7.out) (fun _=>?_)
   clear hK K hHeld
   try simp only [Act.put,List.setIfInBounds_toArray,List.set_cons_zero,List.set_cons_succ]
   have hHeld:((fun W=>W.cell? ⟨gi,0,none⟩=some (.int .u8 (pt:Int))∧W.cell? ⟨gi,1,none⟩=some (.slice pa pn pc)∧W.cell? ⟨gi,2,none⟩=some (.slice pk pm pd)∧W.cell? ⟨g,off+i*2+1,none⟩=some (.string (str L)))) w7:=S7.out
   refine wpAnyH_ready (rs:=[8]) (by kernel_rfl) (by simp) ?_
   refine AllReadyH.cons (o:={ dst:=some 28,op:=Op.buildSlice 30 2 #[(0,Operand.tmp 21),(1,Operand.tmp 27)],type:=30,pos:=_,after:=_,guard:=none }) rfl (fun K hK=>?_) AllReadyH.nil
   go_simp
   obtain ⟨w8,hw⟩:∃ W,W=w7.alloc (.cells #[.int .u8 (pt:Int),.slice pa pn pc,.slice pk pm pd,.int .u8 (t7:Int),.slice a7 n7 c7,.slice k7 m7 d7] 32):=⟨_,rfl⟩
   rw [←hw]
   have b8:Hid (Below w7.heap.size w7 w8):=Lib.hid (by rw [hw];exact (Below.refl _ _).alloc (Nat.le_refl _) _)
   have Q8:=Lib.hid (Q7.out.trans (b8.out.mono Q7.out.size))
   have R8:=Lib.hid (R7.out.trans (b8.out.mono R7.out.size))
   have S8:=Lib.hid (HS.out _ R8.out)
   have HP8:Hid (Off (bl KA ++ w.heap.size :: xs) (KiP (some ⟨w7.heap.size,0,none⟩) 2 [lti,lt7]) w8):=Lib.hid (by rw [hw];exact row66 (HOI.out.under R7.out) H6I.out HO7.out HS7.out (HNX.out _ Q7.out))
   clear hw
   refine hK.out _ _ (S8.out) (fun _=>?_)
   clear hK K hHeld
   try simp only [Act.put,List.setIfInBounds_toArray,List.set_cons_zero,List.set_cons_succ]
   have hHeld:((fun W=>W.cell? ⟨gi,0,none⟩=some (.int .u8 (pt:Int))∧W.cell? ⟨gi,1,none⟩=some (.slice pa pn pc)∧W.cell? ⟨gi,2,none⟩=some (.slice pk pm pd)∧W.cell? ⟨g,off+i*2+1,none⟩=some (.string (str L)))) w8:=S8.out
   refine wpAnyH_ready (rs:=[9]) (by kernel_rfl) (by simp) ?_
   refine AllReadyH.cons (o:={ dst:=some 29,op:=Op.call { callee:=Callee.value (Operand.func 37),args:=#[Operand.const (Value.int IntKind.u8 48),Operand.tmp 28],argTypes:=#[5,30] },type:=32,pos:=_,after:=_,guard:=none }) rfl (fun K hK=>?_) AllReadyH.nil
   go_simp
   refine (seq'_any _ (bl KA ++ w.heap.size :: xs) 48 2 2 _ [lti,lt7] HP8.out rfl (by omega)).mono ?_
   intro e w9 hm
   obtain ⟨lt9,t9,a9,n9,c9,k9,m9,d9,rfl,h6,hlt',hoff,hb⟩:=MadeT.six hm
   have b9:Hid (Below w8.heap.size w8 w9):=Lib.hid (hb)
   have Q9:=Lib.hid (Q8.out.trans (b9.out.mono Q8.out.size))
   have R9:=Lib.hid (R8.out.trans (b9.out.mono R8.out.size))
   have S9:=Lib.hid (HS.out _ R9.out)
   have HS9:=Lib.hid h6
   have HT9:=Lib.hid hlt'
   have HO9:=Lib.hid hoff
   clear hm hb h6 hlt' hoff
   go_simp
   refine hK.out _ _ (S9.out) (fun _=>?_)
   clear hK K hHeld
   try simp only [Act.put,List.setIfInBounds_toArray,List.set_cons_zero,List.set_cons_succ]
   have hHeld:((fun W=>W.cell? ⟨gi,0,none⟩=some (.int .u8 (pt:Int))∧W.cell? ⟨gi,1,none⟩=some (.slice pa pn pc)∧W.cell? ⟨gi,2,none⟩=some (.slice pk pm pd)∧W.cell? ⟨g,off+i*2+1,none⟩=some (.string (str L)))) w9:=S9.out
   refine wpAnyH_ready (rs:=[10]) (by kernel_rfl) (by simp) ?_
   refine AllReadyH.cons (o:={ dst:=some 30,op:=Op.buildSlice 30 1 #[(0,Operand.tmp 29)],type:=30,pos:=_,after:=_,guard:=none }) rfl (fun K hK=>?_) AllReadyH.nil
   go_simp
   obtain ⟨w10,hw⟩:∃ W,W=w9.alloc (.cells #[.int .u8 (t9:Int),.slice a9 n9 c9,.slice k9 m9 d9] 32):=⟨_,rfl⟩
   rw [←hw]
   have b10:Hid (Below w9.heap.size w9 w10):=Lib.hid (by rw [hw];exact (Below.refl _ _).alloc (Nat.le_refl _) _)
   have Q10:=Lib.hid (Q9.out.trans (b10.out.mono Q9.out.size))
   have R10:=Lib.hid (R9.out.trans (b10.out.mono R9.out.size))
   have S10:=Lib.hid (HS.out _ R10.out)
   have HP10:Hid (Off (bl KA ++ w.heap.size :: xs) (KiP (some ⟨w9.heap.size,0,none⟩) 1 [lt9]) w10):=Lib.hid (by rw [hw];exact row6 HO9.out HS9.out (HNX.out _ Q9.out))
   clear hw
   refine hK.out _ _ (S10.out) (fun _=>?_)
   clear hK K hHeld
   try simp only [Act.put,List.setIfInBounds_toArray,List.set_cons_zero,List.set_cons_succ]
   have hHeld:((fun W=>W.cell? ⟨gi,0,none⟩=some (.int .u8 (pt:Int))∧W.cell? ⟨gi,1,none⟩=some (.slice pa pn pc)∧W.cell? ⟨gi,2,none⟩=some (.slice pk pm pd)∧W.cell? ⟨g,off+i*2+1,none⟩=some (.string (str L)))) w10:=S10.out
   refine wpAnyH_ready (rs:=[11]) (by kernel_rfl) (by simp) ?_
   refine AllReadyH.cons (o:={ dst:=some 31,op:=Op.call { callee:=Callee.value (Operand.func 37),args:=#[Operand.const (Value.int IntKind.u8 49),Operand.tmp 30],argTypes:=#[5,30] },type:=32,pos:=_,after:=_,guard:=none }) rfl (fun K hK=>?_) AllReadyH.nil
   go_simp
   refine (seq'_any _ (bl KA ++ w.heap.size :: xs) 49 1 1 _ [lt9] HP10.out rfl (by omega)).mono ?_
   intro e w11 hm
   obtain ⟨lt11,t11,a11,n11,c11,k11,m11,d11,rfl,h6,hlt',hoff,hb⟩:=MadeT.six hm
   have b11:Hid (Below w10.heap.size w10 w11):=Lib.hid (hb)
   have Q11:=Lib.hid (Q10.out.trans (b11.out.mono Q10.out.size))
   have R11:=Lib.hid (R10.out.trans (b11.out.mono R10.out.size))
   have S11:=Lib.hid (HS.out _ R11.out)
   have HS11:=Lib.hid h6
   have HT11:=Lib.hid hlt'
   have HO11:=Lib.hid hoff
   clear hm hb h6 hlt' hoff
   go_simp
   refine hK.out _ _ (S11.out) (fun _=>?_)
   clear hK K hHeld
   try simp only [Act.put,List.setIfInBounds_toArray,List.set_cons_zero,List.set_cons_succ]
   have hHeld:((fun W=>W.cell? ⟨gi,0,none⟩=some (.int .u8 (pt:Int))∧W.cell? ⟨gi,1,none⟩=some (.slice pa pn pc)∧W.cell? ⟨gi,2,none⟩=some (.slice pk pm pd)∧W.cell? ⟨g,off+i*2+1,none⟩=some (.string (str L)))) w11:=S11.out
   refine wpAnyH_ready (rs:=[12]) (by kernel_rfl) (by simp) ?_
   refine AllReadyH.cons (o:={ dst:=some 32,op:=Op.buildSlice 30 1 #[(0,Operand.tmp 31)],type:=30,pos:=_,after:=_,guard:=none }) rfl (fun K hK=>?_) AllReadyH.nil
   go_simp
   obtain ⟨w12,hw⟩:∃ W,W=w11.alloc (.cells #[.int .u8 (t11:Int),.slice a11 n11 c11,.slice k11 m11 d11] 32):=⟨_,rfl⟩
   rw [←hw]
   have b12:Hid (Below w11.heap.size w11 w12):=Lib.hid (by rw [hw];exact (Below.refl _ _).alloc (Nat.le_refl _) _)
   have Q12:=Lib.hid (Q11.out.trans (b12.out.mono Q11.out.size))
   have R12:=Lib.hid (R11.out.trans (b12.out.mono R11.out.size))
   have S12:=Lib.hid (HS.out _ R12.out)
   have HF12:Hid (Holds w12 w11.heap.size 32 [.int .u8 (t11:Int),.slice a11 n11 c11,.slice k11 m11 d11].toArray):=Lib.hid (by rw [hw];exact Holds.fresh _ _ _)
   have K12:=Lib.hid (HK.out.under Q12.out)
   have O12:=Lib.hid (HO11.out.under b12.out)
   have OW12:=Lib.hid K12.out.own
   have BX12:=Lib.hid (HXS.out _ (Nat.le_trans HVW.out Q12.out.size))
   have Z12:=Lib.hid (HZr.out.under Q12.out hwr)
   have B12:=Lib.hid (HB.out.trans (Q12.out.mono HB.out.size))
   have V12:=Lib.hid (Nat.le_trans HVW.out Q12.out.size)
   clear hw
   refine hK.out _ _ (S12.out) (fun _=>?_)
   clear hK K hHeld
   try simp only [Act.put,List.setIfInBounds_toArray,List.set_cons_zero,List.set_cons_succ]
   have hHeld:((fun W=>W.cell? ⟨gi,0,none⟩=some (.int .u8 (pt:Int))∧W.cell? ⟨gi,1,none⟩=some (.slice pa pn pc)∧W.cell? ⟨gi,2,none⟩=some (.slice pk pm pd)∧W.cell? ⟨g,off+i*2+1,none⟩=some (.string (str L)))) w12:=S12.out
   refine wpAnyH_ready (rs:=[13]) (by kernel_rfl) (by simp) ?_
   refine AllReadyH.cons (o:={ dst:=some 33,op:=Op.call { callee:=Callee.builtin Builtin.append,args:=#[Operand.tmp 20,Operand.tmp 32],argTypes:=#[30,30] },type:=30,pos:=_,after:=_,guard:=none }) rfl (fun K hK=>?_) AllReadyH.nil
   refine step_pushV _ rfl (.tmp 20) (.tmp 32) 30 rfl 32 _ 3 56 Tryz.underlying30 info_node rfl (by omega) (by omega) rfl OW12.out (cs:=[.int .u8 (t11:Int),.slice a11 n11 c11,.slice k11 m11 d11]) rfl rfl one6 HF12.out (by omega) ?_
   intro g13 c13 w13 ho13 hg13 hat13 hlt13
   have K13:=Lib.hid (K12.out.push6 O12.out HS11.out ho13 hg13 hat13 BX12.out)
   have Z13:=Lib.hid (Z12.out.grown hg13 (fun h=>by have:=HG.out _ h.symm;omega))
   have B13:=Lib.hid (below_own B12.out hg13 (fun g hg=>by have:=HG.out g hg;omega) (Nat.le_refl _))
   have V13:=Lib.hid (Nat.le_trans V12.out hg13.size)
   have G13:Hid (∀ g,blockOf (some (⟨g13,0,none⟩:Addr))=some g→w.heap.size<g):=Lib.hid fun g hg=>by
    rcases hat13 with h | h
    ·exact HG.out g (h.trans (by simpa [blockOf] using hg))
    ·have e:g13=g:=by simpa [blockOf] using hg
     have:=Z12.out.lt
     omega
   have S13:Hid ((fun W=>W.cell? ⟨gi,0,none⟩=some (.int .u8 (pt:Int))∧W.cell? ⟨gi,1,none⟩=some (.slice pa pn pc)∧W.cell? ⟨gi,2,none⟩=some (.slice pk pm pd)∧W.cell? ⟨g,off+i*2+1,none⟩=some (.string (str L))) w13):=Lib.hid (by
    have h12:=HHI.out.under R12.out HHI.out.lt
    have h13:=h12.grown hg13 (fun e=>by have:=HK.out.lt e.symm;have:=HGI.out;omega)
    exact ⟨h13.cell 0,h13.cell 1,h13.cell 2,(B13.out.cell (p:=⟨g,off+i*2+1,none⟩) (by show g<_;omega)).trans (HROW0.out)⟩)
   clear ho13 hg13 hat13 OW12 HF12 O12 K12 BX12
   refine hK.out _ _ (S13.out) (fun _=>?_)
   clear hK K hHeld
   try simp only [Act.put,List.setIfInBounds_toArray,List.set_cons_zero,List.set_cons_succ]
   have hHeld:((fun W=>W.cell? ⟨gi,0,none⟩=some (.int .u8 (pt:Int))∧W.cell? ⟨gi,1,none⟩=some (.slice pa pn pc)∧W.cell? ⟨gi,2,none⟩=some (.slice pk pm pd)∧W.cell? ⟨g,off+i*2+1,none⟩=some (.string (str L)))) w13:=S13.out
   refine wpAnyH_take (i:=14) (oi:={ dst:=some 3,op:=Op.assign (Operand.tmp 33),type:=30,pos:=_,after:=_,guard:=none }) (v:=?_) rfl (by kernel_rfl) (by kernel_rfl) (by kernel_rfl) (fun _ _ _ h=>h) (Or.inl ⟨by rfl,?_⟩) hHeld ?_
   rotate_left 1
   ·(intro W hW;(try dsimp only at hW);go_simp;try with_reducible rfl)
   try simp only [Act.put,List.setIfInBounds_toArray,List.set_cons_zero,List.set_cons_succ]
   refine wpAnyH_done (by kernel_rfl) ?_ _
   refine NoPanic.normal ?_
   have HTT:Hid ((ks ++ [lt11]).map Lt.t=(l.take (i+1)).map atTr):=Lib.hid (by
    rw [HV1.out,List.map_append,HT.out]
    simp [HT11.out,HT9.out,HT7.out,HTI.out])
   go_wp2_with fail
   go_roundw
   case rel=>exact ⟨i+1,_,_,_,by omega,by go_num,rfl,K13.out,HTT.out,G13.out,Z13.out,V13.out,B13.out⟩
   case measure=>simp [intOf];omega
  ·obtain rfl:i=n:=by omega
   have HTT:Hid (ks.map Lt.t=l.map atTr):=Lib.hid (by rw [HT.out,List.take_of_length_le (by rw [HN.out];exact Nat.le_refl _)])
   have HSE:=Lib.hid (seq'_any wr (w.heap.size :: xs) 48 d i KA ks HK.out.ki HK.out.len (by omega))
   go_wp2_with fail
   refine HSE.out.mono ?_
   rintro e w2 hm2
   obtain ⟨lt2,pt,pa,pn,pc,pk,pm,pd,rfl,h62,hT2,hO2,hb2⟩:=MadeT.six hm2
   have HQ2:=Lib.hid (HB.out.trans (hb2.mono HB.out.size))
   have hz2:=HZr.out.under hb2 hwr
   have HO2:=Lib.hid hO2
   have z0:=hz2.cell 0
   have z1:=hz2.cell 1
   have z2:=hz2.cell 2
   have y0:=hz2.open_ 0
   have y1:=hz2.open_ 1
   have y2:=hz2.open_ 2
   have HLT:Hid (lt2.val = .agg #[.int .u8 (pt:Int),.slice pa pn pc,.slice pk pm pd]):=Lib.hid (by rw [Lt.val,←lcell_cells,show lcell lt2=_ from h62])
   have HTE:Hid (lt2.t=dnTr l):=Lib.hid (by rw [hT2,HTT.out];rfl)
   clear hm2 hb2 hO2 HSE hT2
   go_wp2_with fail
   refine ret_one rfl rfl (((hz2.stored 0 _).stored 1 _).stored 2 _) rfl ?_
   exact ⟨lt2,by rw [HLT.out];rfl,HTE.out,made_out HO2.out _ _ _,below_out HQ2.out _ _ _⟩
end Go.Proofs.YtcibjcgipfpniaaGreatDoor
namespace Go.Proofs.YtcibjcgipfpniaaGreatDoor
open Go.RowKit
set_option linter.unusedVariables false
set_option linter.unusedSimpArgs false

noncomputable def gnTr (g:GV):Tr:=.mk 48 [] [.mk 2 (intB g.ser) [],timeTr g.tm]
noncomputable def clBody (v:CV):Tr:=.mk 48 [] [dnTr v.iss,.mk 48 [] [timeTr v.at_,timeTr v.next],.mk 48 [] (v.gone.map gnTr)]
noncomputable def clTr (v:CV):Tr:=.mk 48 [] [clBody v,.mk 3 (0 :: v.sig) []]
theorem crlOk_parts {v:CV} (h:crlOk v=true):dnOk v.iss=true∧(-631152000≤v.at_∧v.at_≤253402300799)∧(-631152000≤v.next∧v.next≤253402300799)∧v.at_≤v.next∧v.gone.length≤16∧(1≤v.sig.length∧v.sig.length≤600)∧∀ g∈v.gone,(okN g.ser=true∧0<g.ser.length∧nb g.ser<160)∧(-631152000≤g.tm∧g.tm≤253402300799):=by
 unfold crlOk at h
 simp only [Bool.and_eq_true,decide_eq_true_eq] at h
 obtain ⟨⟨⟨⟨⟨⟨h1,h2⟩,h3⟩,h4⟩,h5⟩,h6⟩,h7⟩:=h
 refine ⟨h1,whenOk_iff.1 h2,whenOk_iff.1 h3,h4,h5,h6,fun g hg=>?_⟩
 obtain ⟨i,hi,rfl⟩:=List.getElem_of_mem hg
 have h8:=gonesOk_iff.1 h7 i hi
 unfold gnOk at h8
 simp only [Bool.and_eq_true] at h8
 have h9:=serOk_iff.1 h8.1.1
 have h10:=whenOk_iff.1 h8.1.2
 rw [show v.gone.getD i default=v.gone[i] by simp [List.getD,hi]] at h9 h10
 exact ⟨h9,h10⟩
theorem gn_take {l:List Gn} {i:Nat} (h:i<l.length):((l.map Gn.v).take (i+1)).map gnTr=((l.map Gn.v).take i).map gnTr ++ [gnTr (l.getD i default).v]:=by
 rw [List.take_succ_eq_append_getElem (by simpa using h),List.map_append]
 simp [List.getD,h]
theorem made_outG {xs:List Nat} {g:Nat} {w':World} {lt:Lt} (h:Off (g :: xs) (ThP lt) w') (a b c:Value) :
  Off xs (ThP lt) (((w'.setCell ⟨g,0,none⟩ a).setCell ⟨g,1,none⟩ b).setCell ⟨g,2,none⟩ c) :=
 (((h.store (p:=⟨g,0,none⟩) (by simp) a).store (p:=⟨g,1,none⟩) (by simp) b).store (p:=⟨g,2,none⟩) (by simp) c).less (fun g hg=>by simp [hg])
theorem below_outG {B g:Nat} {w w':World} (h:Below B w w') (hg:B≤g) (a b c:Value):Below B w (((w'.setCell ⟨g,0,none⟩ a).setCell ⟨g,1,none⟩ b).setCell ⟨g,2,none⟩ c) :=
 ((h.setCell (p:=⟨g,0,none⟩) hg _).setCell (p:=⟨g,1,none⟩) hg _).setCell (p:=⟨g,2,none⟩) hg _
theorem cell_ne {W:World} {g h j k:Nat} {u:Value} (hn:h≠g):(W.setCell ⟨g,j,none⟩ u).cell? ⟨h,k,none⟩=W.cell? ⟨h,k,none⟩:=by
 simp only [World.cell?];rw [Below.heap_setCell W ⟨g,j,none⟩ u h hn]
end Go.Proofs.YtcibjcgipfpniaaGreatDoor
namespace Go.Proofs.YtcibjcgipfpniaaGreatDoor
open Go.RowKit
set_option linter.unusedVariables false
set_option linter.unusedSimpArgs false
attribute [local go_sem ↓] Go.wp_at_zero Go.wp_at_succ

def RelEN (n:Nat) (l l':List Nat) (W:World) (i:Value) (wr:World):Prop :=
 ∃ k q:Nat,k≤n∧i = .int .i64 k∧Hid (∀ j,j<k→l.getD j 0=l'.getD j 0)∧wr=W.drewN q
set_option maxRecDepth 100000 in
set_option maxHeartbeats 1000000 in
theorem equalN_any (w:World) (B B':Nat) (A A':Option Addr) (c c' n n':Nat) (l l':List Nat) (hn:l.length=n) (hn':l'.length=n') (hr:Rd .u32 w B A c l) (hr':Rd .u32 w B' A' c' l') :
  Calls Tryz.prog 51 #[.slice A n c,.slice A' n' c'] w fun e w'=>e = .returned (.bool (decide (l=l')))∧∃ q,w'=w.drewN q:=by
 obtain ⟨v,hv0⟩:∃ v,v=decide (l=l'):=⟨_,rfl⟩
 rw [←hv0]
 have HV:Hid (v=true↔l=l'):=Lib.hid (by rw [hv0];simp)
 have HN:=Lib.hid hn
 have HN':=Lib.hid hn'
 have hlc:=hr.1
 have hc63:=hr.2.1
 have hlc':=hr'.1
 have hc63':=hr'.2.1
 clear hv0
 by_cases hnn:n=n'
 case neg =>
  have q1:((n:Int) != (n':Int))=true:=by rw [bne_iff_ne];omega
  have HF:Hid (v=false):=Lib.hid (by
   cases v
   ·rfl
   ·exact absurd (HV.out.1 rfl) (fun e=>hnn (by rw [←HN.out,←HN'.out,e])))
  go_enter Tryz.func51,Tryz.ntmps51
  go_wp2_with fail
  go_ret
  exact ⟨by rw [HF.out];rfl,0,rfl⟩
 case pos =>
 subst hnn
 go_enter Tryz.func51,Tryz.ntmps51
 go_wp2_with fail
 go_loopw [13] (fun i wr=>RelEN n l l' w i wr) (fun i _=>n - (intOf i).toNat)
 case atStart=>exact ⟨0,0,Nat.zero_le _,rfl,Lib.hid (fun i h=>by omega),rfl⟩
 case round =>
  obtain ⟨k,q,hk,rfl,HD,rfl⟩:=hrel
  have hrb:=hr.drewN q
  have hrb':=hr'.drewN q
  have HDD:=Lib.hid (fun m=>World.drewN_drewN w q m)
  obtain ⟨V,HV2⟩:∃ V,Hid (V=w.drewN q):=⟨_,rfl⟩
  rw [←HV2.out] at hrb hrb' ⊢
  by_cases hkn:k<n
  case neg =>
   obtain rfl:k=n:=by omega
   have hf:decide ((k:Int)<(k:Int))=false:=decide_eq_false (by omega)
   have hf2:decide (k<k)=false:=decide_eq_false (by omega)
   have hE:l=l':=by
    apply List.ext_getElem (by rw [HN.out,HN'.out])
    intro i h1 h2
    have:=HD.out i (by have:=HN.out;omega)
    simpa [List.getD,h1,h2] using this
   have HT:=Lib.hid (HV.out.2 hE)
   clear hE
   go_wp2_with fail
   go_ret
   exact ⟨by rw [HT.out];rfl,q,HV2.out⟩
  case pos =>
  obtain ⟨b,off,rfl,hb,hx⟩:=hrb.2.2 (by have:=HN.out;omega)
  obtain ⟨b',off',rfl,hb',hy⟩:=hrb'.2.2 (by have:=HN'.out;omega)
  have hx1:=hx k (by have:=HN.out;omega)
  have hy1:=hy k (by have:=HN'.out;omega)
  obtain ⟨a,Ha⟩:∃ a,Hid (l.getD k 0=a):=⟨_,rfl⟩
  obtain ⟨a',Ha'⟩:∃ a,Hid (l'.getD k 0=a):=⟨_,rfl⟩
  rw [Ha.out] at hx1
  rw [Ha'.out] at hy1
  have hk0:(0:Int)≤(k:Int):=by omega
  have hkI:(k:Int)<(n:Int):=by omega
  clear hx hy
  by_cases hab:a=a'
  case neg =>
   have q2:((a:Int) != (a':Int))=true:=by rw [bne_iff_ne];omega
   have HF:Hid (v=false):=Lib.hid (by
    cases v
    ·rfl
    ·exfalso
     apply hab
     rw [←Ha.out,←Ha'.out,HV.out.1 rfl])
   clear hab
   go_wp2_with fail
   go_quiet (fail)
   go_wp2_with fail
   go_ret
   exact ⟨by rw [HF.out];rfl,q+nq,by rw [HV2.out,HDD.out]⟩
  case pos =>
   have q2:((a:Int) != (a':Int))=false:=by rw [hab];simp
   have HD2:Hid (∀ j,j<k+1→l.getD j 0=l'.getD j 0):=Lib.hid (fun j h=>by
    rcases Nat.lt_or_ge j k with h' | h'
    ·exact HD.out j h'
    ·obtain rfl:j=k:=by omega
     rw [Ha.out,Ha'.out,hab])
   clear hab
   go_wp2_with fail
   go_quiet (fail)
   go_wp2_with fail
   go_roundw
   case rel=>exact ⟨k+1,q+nq,by omega,by go_num,HD2,by rw [HV2.out,HDD.out]⟩
   case measure=>simp [intOf];omega
theorem goneS_yes {l:List GV} {s:List Nat} {t:Int} {g:GV} (h:g∈l) (h1:g.ser=s) (h2:g.tm≤t):goneS l s t=true:=List.any_eq_true.2 ⟨g,h,by rw [decide_eq_true h1,decide_eq_true h2];rfl⟩
theorem goneS_no {l:List GV} {s:List Nat} {t:Int} (h:∀ j,j<l.length→(decide ((l.getD j default).ser=s) && decide ((l.getD j default).tm≤t))=false):goneS l s t=false:=by
 unfold goneS
 rw [List.any_eq_false]
 intro x hx
 obtain ⟨j,hj,rfl⟩:=List.getElem_of_mem hx
 have h2:=h j hj
 rw [show l.getD j default=l[j] by simp only [List.getD,List.getElem?_eq_getElem hj,Option.getD_some]] at h2
 rw [h2];simp
set_option maxRecDepth 100000 in
set_option maxHeartbeats 8000000 in
theorem gone_any (w:World) (cl:Cl) (h:Off [] (GsP cl.ga cl.gc cl.gone) w) (B2:Nat) (A2:Option Addr) (c2 n2:Nat) (s:List Nat) (hs:Off [] (fun w=>Rd .u32 w w.heap.size A2 c2 s) w) (hn2:s.length=n2) (t:Int) :
  Calls Tryz.prog 44 #[.agg (ccell cl).toArray,.slice A2 n2 c2,.int .i64 t] w fun e w'=>e = .returned (.bool (goneS (cl.gone.map Gn.v) s t))∧Below w.heap.size w w':=by
 obtain ⟨r,HR⟩:∃ r,Hid (r=goneS (cl.gone.map Gn.v) s t):=⟨_,rfl⟩
 rw [←HR.out]
 have hq0:Below w.heap.size w (w.alloc (.cells (ccell cl).toArray 26)):=(Below.refl _ _).alloc (Nat.le_refl _) _
 have hH0:=Holds.fresh w 26 (ccell cl).toArray
 obtain ⟨ia,ic,iss,tat,tnx,ga,gc,gone,sa,sc,sig⟩:=cl
 dsimp only at h HR
 simp only [ccell] at hq0 hH0 ⊢
 obtain ⟨isn,hisn⟩:∃ k,iss.length=k:=⟨_,rfl⟩
 obtain ⟨gn,hgn⟩:∃ k,gone.length=k:=⟨_,rfl⟩
 obtain ⟨sn,hsn⟩:∃ k,sig.length=k:=⟨_,rfl⟩
 rw [hisn,hgn,hsn] at hq0 hH0 ⊢
 have HX:=Lib.hid (h.under hq0)
 have HS:=Lib.hid (hs.under hq0)
 have HB0:=Lib.hid hq0
 have HN2:=Lib.hid hn2
 have HGN:=Lib.hid hgn
 have hgc:=HX.out.at_.1.1
 have hgc63:=HX.out.at_.1.2.1
 rw [hgn] at hgc
 have c3:=hH0.cell 3
 clear h hs hn2 hq0 hH0 hgn hisn hsn
 go_enter Tryz.func44,Tryz.ntmps44
 go_wp2_with fail
 clear c3
 go_loopw [12] (fun iv wr=>∃ i:Nat,i≤gn∧iv = .int .i64 (i:Int)∧Hid (∀ j,j<i→(decide (((gone.map Gn.v).getD j default).ser=s) && decide (((gone.map Gn.v).getD j default).tm≤t))=false)∧Below (w.alloc (.cells #[.slice ia isn ic,.int .i64 tat,.int .i64 tnx,.slice ga gn gc,.slice sa sn sc] 26)).heap.size (w.alloc (.cells #[.slice ia isn ic,.int .i64 tat,.int .i64 tnx,.slice ga gn gc,.slice sa sn sc] 26)) wr) (fun iv _=>gn - (intOf iv).toNat)
 case atStart=>exact ⟨0,by omega,rfl,fun j hj=>by omega,Below.refl _ _⟩
 case round =>
  obtain ⟨i,hi,rfl,HA,hB⟩:=hrel
  by_cases hlt:i<gn
  ·have hx:=(HX.out.under hB).at_
   obtain ⟨g,off,rfl,hg,hcs⟩:=hx.1.2.2 (by rw [HGN.out];omega)
   obtain ⟨c0,c1⟩:=hcs i (by rw [HGN.out];exact hlt)
   have hxe:=hx.at_ (by rw [HGN.out];exact hlt)
   have HV:Hid ((gone.map Gn.v).getD i default=(gone.getD i default).v):=Lib.hid (gv_at (by rw [HGN.out];exact hlt))
   have HMM:Hid ((gone.getD i default).v∈gone.map Gn.v):=Lib.hid (List.mem_map_of_mem (getD_mem (by rw [HGN.out];exact hlt)))
   obtain ⟨e,he⟩:∃ e,e=gone.getD i default:=⟨_,rfl⟩
   rw [←he] at c0 c1 hxe HV HMM
   clear he hcs
   obtain ⟨ea,ec,ser,tm⟩:=e
   obtain ⟨hr1,hd1⟩:=hxe
   dsimp only at c0 c1 hr1 hd1
   obtain ⟨n1,hn1⟩:∃ n1,ser.length=n1:=⟨_,rfl⟩
   rw [hn1] at c0
   have hq1:Below wr.heap.size wr (wr.alloc (.cells #[.slice ea n1 ec,.int .i64 tm] 44)):=(Below.refl _ _).alloc (Nat.le_refl _) _
   have HB2:=Lib.hid (hB.trans (hq1.mono hB.size))
   have hH1:=Holds.fresh wr 44 #[.slice ea n1 ec,.int .i64 tm]
   have HH1:=Lib.hid hH1
   have z0:=hH1.cell 0
   have z1:=hH1.cell 1
   have HEQ:=Lib.hid (equalN_any (wr.alloc (.cells #[.slice ea n1 ec,.int .i64 tm] 44)) _ _ ea A2 ec c2 n1 n2 ser s hn1 HN2.out (hr1.under hq1) (HS.out.under HB2.out).at_)
   have HBB:=Lib.hid (HB0.out.trans (HB2.out.mono HB0.out.size))
   have HNX:Hid ((decide (ser=s) && decide (tm≤t))=false→∀ j,j<i+1→(decide (((gone.map Gn.v).getD j default).ser=s) && decide (((gone.map Gn.v).getD j default).tm≤t))=false):=Lib.hid fun hc j hj=>by
    rcases Nat.lt_or_ge j i with h3 | h3
    ·exact HA.out j h3
    ·obtain rfl:j=i:=by omega
     rw [HV.out];exact hc
   clear hx hr1 hn1 hq1 hB hH1 hd1
   go_wp2_with fail
   refine HEQ.out.mono ?_
   rintro ex w5 ⟨rfl,q,hw5⟩
   have HB5:Hid (Below (w.alloc (.cells #[.slice ia isn ic,.int .i64 tat,.int .i64 tnx,.slice (some ⟨g,off,none⟩) gn gc,.slice sa sn sc] 26)).heap.size (w.alloc (.cells #[.slice ia isn ic,.int .i64 tat,.int .i64 tnx,.slice (some ⟨g,off,none⟩) gn gc,.slice sa sn sc] 26)) w5):=Lib.hid (by rw [hw5];exact below_drewN HB2.out _)
   have HBF:Hid (Below w.heap.size w w5):=Lib.hid (by rw [hw5];exact below_drewN HBB.out _)
   have hH5:Holds w5 wr.heap.size 44 #[.slice ea n1 ec,.int .i64 tm]:=by rw [hw5];exact HH1.out.drewN _
   have x1:=hH5.cell 1
   clear hw5 HEQ z0 z1 hH5
   by_cases hes:ser=s
   case neg =>
    rw [decide_eq_false hes]
    have HC:=Lib.hid (HNX.out (by rw [decide_eq_false hes];rfl))
    clear hes HNX
    go_wp2_with fail
    go_roundw
    case rel=>exact ⟨i+1,by omega,by go_num,HC,HB5.out⟩
    case measure=>simp [intOf];omega
   rw [decide_eq_true hes]
   by_cases htm:tm≤t
   ·have HE:Hid (r=true):=Lib.hid (by rw [HR.out];exact goneS_yes HMM.out hes htm)
    have d:decide (tm≤t)=true:=decide_eq_true htm
    clear hes HNX
    go_wp2_with fail
    go_ret
    exact ⟨by rw [HE.out];rfl,HBF.out⟩
   ·have d:decide (tm≤t)=false:=decide_eq_false htm
    have HC:=Lib.hid (HNX.out (by rw [d,Bool.and_false]))
    clear hes HNX
    go_wp2_with fail
    go_roundw
    case rel=>exact ⟨i+1,by omega,by go_num,HC,HB5.out⟩
    case measure=>simp [intOf];omega
  ·obtain rfl:i=gn:=by omega
   have HE:Hid (r=false):=Lib.hid (by rw [HR.out];exact goneS_no fun j hj=>HA.out j (by rw [List.length_map,HGN.out] at hj;exact hj))
   have HBB:=Lib.hid (HB0.out.trans (hB.mono HB0.out.size))
   go_wp2_with fail
   go_ret
   exact ⟨by rw [HE.out];rfl,HBB.out⟩
end Go.Proofs.YtcibjcgipfpniaaGreatDoor
namespace Go.Proofs.YtcibjcgipfpniaaGreatDoor
open Go.RowKit
set_option linter.unusedVariables false

end Go.Proofs.YtcibjcgipfpniaaGreatDoor
namespace Go.Proofs.YtcibjcgipfpniaaGreatDoor
open Go.RowKit
set_option linter.unusedVariables false
set_option linter.unusedSimpArgs false
attribute [local go_sem ↓] Go.wp_at_zero Go.wp_at_succ

instance:DecidableEq GV:=fun a b=>if h:a.ser=b.ser∧a.tm=b.tm then .isTrue (by cases a;cases b;obtain ⟨h1,h2⟩:=h;dsimp only at h1 h2;rw [h1,h2]) else .isFalse (fun e=>h (by rw [e];exact ⟨rfl,rfl⟩))
theorem gn_eq {a b:Gn}:a.v=b.v↔a.ser=b.ser∧a.tm=b.tm:=by
 unfold Gn.v
 constructor
 ·intro h;injection h with h1 h2;exact ⟨h1,h2⟩
 ·rintro ⟨h1,h2⟩;rw [h1,h2]
theorem gv_at' {l:List Gn} {j:Nat} (h:j<l.length):(l.map Gn.v).getD j default=(l.getD j default).v:=gv_at h
theorem gmap_ne {l l2:List Gn} {j:Nat} (hj:j<l.length) (h:(l.getD j default).v≠(l2.getD j default).v) (hl:l.length=l2.length):l.map Gn.v≠l2.map Gn.v:=fun e=>by
 apply h
 rw [←gv_at' hj,←gv_at' (by omega:j<l2.length),e]
theorem gmap_eq {l l2:List Gn} (hl:l.length=l2.length) (h:∀ j,j<l.length→(l.getD j default).v=(l2.getD j default).v):l.map Gn.v=l2.map Gn.v:=by
 apply List.ext_getElem (by simp [hl])
 intro i h1 h2
 have hi:i<l.length:=by simpa using h1
 have:=h i hi
 simpa [List.getD,hi,show i<l2.length by omega] using this
end Go.Proofs.YtcibjcgipfpniaaGreatDoor
namespace Go.Proofs.YtcibjcgipfpniaaGreatDoor
open Go.RowKit
set_option linter.unusedVariables false
set_option linter.unusedSimpArgs false
attribute [local go_sem ↓] Go.wp_at_zero Go.wp_at_succ

theorem bool_of (P:Prop):∃ d:Bool,d=true↔P:=⟨@decide P (Classical.propDecidable P),@decide_eq_true_iff P (Classical.propDecidable P)⟩
theorem bool_same {a b:Bool} {P:Prop} (ha:a=true↔P) (hb:b=true↔P):a=b:=by
 rw [Bool.eq_iff_iff,ha,hb]
theorem cv_eq {a b:CV}:a=b↔a.iss=b.iss∧a.at_=b.at_∧a.next=b.next∧a.gone=b.gone∧a.sig=b.sig:=by
 constructor
 ·rintro rfl;exact ⟨rfl,rfl,rfl,rfl,rfl⟩
 ·rintro ⟨h1,h2,h3,h4,h5⟩
  cases a;cases b
  dsimp only at h1 h2 h3 h4 h5
  rw [h1,h2,h3,h4,h5]
end Go.Proofs.YtcibjcgipfpniaaGreatDoor
namespace Go.Proofs.YtcibjcgipfpniaaGreatDoor
open Go.RowKit
set_option linter.unusedVariables false
set_option linter.unusedSimpArgs false
attribute [local go_sem ↓] Go.wp_at_zero Go.wp_at_succ

set_option maxRecDepth 100000 in
set_option maxHeartbeats 2000000 in
theorem getText'_any (w:World) (x n c kn kc B:Nat) (A K:Option Addr) (b:List Nat) (hr:Rd .u8 w B A c b) (hn:b.length=n) (hB:B≤w.heap.size) (ho:∀ y∈b,y<256) (hmx:n≤900000) :
  Calls Tryz.prog 125 #[.agg #[.int .u8 (x:Int),.slice A n c,.slice K kn kc]] w (GetTx w (txOf x kn b)):=by
 have hH:=Holds.fresh w 32 #[.int .u8 (x:Int),.slice A n c,.slice K kn kc]
 have hq1:Below w.heap.size w (w.alloc (.cells #[.int .u8 (x:Int),.slice A n c,.slice K kn kc] 32)):=(Below.refl _ _).alloc (Nat.le_refl _) _
 have HB0:=Lib.hid hq1
 have c0:=hH.cell 0
 have c1:=hH.cell 1
 have c2:=hH.cell 2
 have HK:=Lib.hid (held'_any (w.alloc (.cells #[.int .u8 (x:Int),.slice A n c,.slice K kn kc] 32)) x n c kn kc 12 B A K b (hr.under (hq1.mono hB)) hn (Nat.le_trans hB hq1.size) hmx)
 have HN:=Lib.hid hn
 have HO:=Lib.hid ho
 clear hr hn ho hq1
 obtain ⟨o,HOO⟩:∃ o,Hid (o=txOf x kn b):=⟨_,rfl⟩
 rw [←HOO.out]
 rcases hok:heldOk x kn 12 with _ | _
 case false =>
  have HE:Hid (o=none):=Lib.hid (by rw [HOO.out];unfold txOf;rw [hok];rfl)
  rw [hok] at HK
  go_enter Tryz.func125,Tryz.ntmps125
  go_wp2_with fail
  refine HK.out.mono ?_
  rintro e w2 ⟨rfl,hb2⟩
  have HQ:=Lib.hid (HB0.out.trans (hb2.mono HB0.out.size))
  clear hb2 HK
  go_wp2_with fail
  go_ret2
  rw [HE.out]
  exact ⟨rfl,HQ.out⟩
 obtain ⟨tk,htk⟩:∃ tk,textOk b=tk:=⟨_,rfl⟩
 have HE:Hid (o=if tk=true then some b else none):=Lib.hid (by rw [HOO.out];unfold txOf;rw [htk];cases tk <;> simp [hok])
 have HTK:=Lib.hid htk
 rw [hok] at HK
 clear htk hok HOO
 go_enter Tryz.func125,Tryz.ntmps125
 go_wp2_with fail
 refine HK.out.mono ?_
 rintro e w2 ⟨A2,c2,rfl,hm2,hb2⟩
 have HQ:=Lib.hid (HB0.out.trans (hb2.mono HB0.out.size))
 have hcv:=conv_str (w:=w2) hm2.rd HN.out HO.out
 have HM2:=Lib.hid hm2
 have hit:=isText'_any w2 b HO.out
 rw [HTK.out] at hit
 have HIT:=Lib.hid hit
 clear hb2 HK hm2 hit
 go_wp2_with fail
 refine HIT.out.mono ?_
 rintro e w3 ⟨rfl,hb3⟩
 have HQ3:=Lib.hid (HQ.out.trans (hb3.mono HQ.out.size))
 have hcv3:=conv_str (w:=w3) (HM2.out.under hb3).rd HN.out HO.out
 clear hb3 HIT hcv
 cases tk
 ·go_wp2_with fail
  go_ret2
  rw [HE.out]
  exact ⟨rfl,HQ3.out⟩
 ·go_wp2_with fail
  go_ret2
  rw [HE.out]
  exact ⟨rfl,HQ3.out⟩
theorem ret_att {R:Ending→World→Prop} {tmps:Array Value} {w:World} {g:Nat} {t:TypeId} {cs:Array Value} {v:Value} {fn:Func} {p u:Tmp}
  (hr:fn.results=#[.cell p 83,.tmp u]) (hp:tmps.getD p undef = .pointer (some ⟨g,0,none⟩)) (hu:tmps.getD u undef=v) (hg:Holds w g t cs) (hcs:cs.size=2) (hR:R (.returned (.tuple #[.agg cs,v])) w) :
  bodyPost Tryz.prog fn R .ret { tmps:=tmps,defers:=[] } w:=by
 have hi:(Tryz.prog.info? 83).map (·.size)=some cs.size:=by rw [hcs];kernel_rfl
 refine bodyPost_ret (v:=.tuple #[.agg cs,v]) ?_ rfl hR
 rw [results_cell_tmp hr]
 have hp':tmps[p]?.getD undef = .pointer (some ⟨g,0,none⟩):=by simpa using hp
 have hu':tmps[u]?.getD undef=v:=by simpa using hu
 simp [hp',hu',asAddr,run_loadVar_row w g t _ cs (0,0) _ hg Tryz.underlying83 rfl hi,Result.andThen]
/-- The things of a Seq of a tag; none of another thing. -/
def seqK (k:Nat) (t:Tr):List Tr:=if seqOk t.tag t.body.length k=true then t.kids else []
def seqL (k:Nat) (t:Lt):List Lt:=if seqOk t.tag t.body.length k=true then t.kids else []
theorem t_parts (t:Lt):t.t.tag=t.tag∧t.t.body=t.body∧t.t.kids=t.kids.map Lt.t:=by
 rcases t with ⟨tag,ba,bc,body,ka,kc,kids⟩
 rw [Lt.t_mk]
 exact ⟨rfl,rfl,rfl⟩
theorem seq_map (k:Nat) (t:Lt):seqK k t.t=(seqL k t).map Lt.t:=by
 obtain ⟨h1,h2,h3⟩:=t_parts t
 unfold seqK seqL
 rw [h1,h2,h3]
 split <;> rfl
theorem seqL_mem {k:Nat} {t x:Lt} (h:x∈seqL k t):x∈t.kids:=by
 unfold seqL at h
 split at h
 ·exact h
 ·cases h
def idB (p:Tr):List Nat:=if (heldOk p.tag p.kids.length 6 && idOk p.body)=true then p.body else []
def txB (p:Tr):Option (List Nat):=txOf p.tag p.kids.length p.body
/-- Are so many too few, or (strictly) not so many? -/
def bad (s:Bool) (k n:Nat):Bool:=if s=true then decide (n≠k) else decide (n<k)
/-- A thing as a part of a name. -/
def attrT (s:Bool) (t:Tr):Option Att :=
 if bad s 1 (seqK 49 t).length=true then none
 else if bad s 2 (seqK 48 ((seqK 49 t).getD 0 default)).length=true then none
 else if (txB ((seqK 48 ((seqK 49 t).getD 0 default)).getD 1 default)).isSome=true∧(idB ((seqK 48 ((seqK 49 t).getD 0 default)).getD 0 default)).length=3 then
  some ⟨((idB ((seqK 48 ((seqK 49 t).getD 0 default)).getD 0 default)).getD 2 0:Nat),str ((seqK 48 ((seqK 49 t).getD 0 default)).getD 1 default).body⟩
 else none
def AttrP (w:World):Option Att→Ending→World→Prop
 | none,e,w'=>∃ k s,e = .returned (.tuple #[.agg #[.int .i64 k,.string s],.bool false])∧Below w.heap.size w w'
 | some a,e,w'=>e = .returned (.tuple #[.agg #[.int .i64 a.k,.string a.s],.bool true])∧Below w.heap.size w w'
theorem SeqPost.one {w:World} {xs:List Nat} {ks:List Lt} {b:Bool} {e:Ending} {w':World} (h:SeqPost w xs ks b e w'):∃ A c,e = .returned (.tuple #[.slice A (if b=true then ks else []).length c,.bool b])∧Off xs (KiP A c (if b=true then ks else [])) w'∧Below w.heap.size w w':=by
 rcases b with _ | _
 ·exact ⟨none,0,h.1,off_none _ _,h.2⟩
 ·exact h
/-- A thing that is small enough. -/
def FitA (t:Tr):Prop:=t.kids.length≤12000∧∀ k∈t.kids,k.kids.length≤12000∧∀ p∈k.kids,p.body.length≤12000
theorem below_att {w w':World} {h:Nat} (hb:Below w.heap.size w w') (hh:w.heap.size≤h) (a b:Value):Below w.heap.size w ((w'.setCell ⟨h,0,none⟩ a).setCell ⟨h,1,none⟩ b) :=
 (hb.setCell (p:=⟨h,0,none⟩) hh _).setCell (p:=⟨h,1,none⟩) hh _
theorem lt_at {l:List Lt} {j:Nat} (h:j<l.length):(l.map Lt.t).getD j default=(l.getD j default).t:=by simp [List.getD,h]
/-- A thing in a row: its cells, and itself. -/
theorem KiP.cells {w:World} {A:Option Addr} {c j:Nat} {l:List Lt} (h:Off [] (KiP A c l) w) (hj:j<l.length):∃ g off,A=some ⟨g,off,none⟩∧g<w.heap.size ∧
  (∀ W,Below w.heap.size w W→W.cell? ⟨g,off+j*3,none⟩=some (.int .u8 ((l.getD j default).tag:Int))∧W.cell? ⟨g,off+j*3+1,none⟩=some (.slice (l.getD j default).ba (l.getD j default).body.length (l.getD j default).bc)∧W.cell? ⟨g,off+j*3+2,none⟩=some (.slice (l.getD j default).ka (l.getD j default).kids.length (l.getD j default).kc)):=by
 obtain ⟨g,off,e,hg,hc⟩:=h.at_.1.2.2 (by omega)
 obtain ⟨q0,q1,q2⟩:=hc j hj
 exact ⟨g,off,e,hg,fun W hW=>⟨(hW.cell (p:=⟨g,_,none⟩) hg).trans q0,(hW.cell (p:=⟨g,_,none⟩) hg).trans q1,(hW.cell (p:=⟨g,_,none⟩) hg).trans q2⟩⟩
end Go.Proofs.YtcibjcgipfpniaaGreatDoor
namespace Go.Proofs.YtcibjcgipfpniaaGreatDoor
open Go.RowKit
set_option linter.unusedVariables false
set_option linter.unusedSimpArgs false
attribute [local go_sem ↓] Go.wp_at_zero Go.wp_at_succ

theorem info_att:(Tryz.prog.info? 83).map (fun i=>(i.zero,i.size,i.bytes))=some (some (.agg #[.int .i64 0,.string ⟨#[]⟩]),2,24):=by kernel_rfl
def acell (a:Att):List Value:=[.int .i64 a.k,.string a.s]
theorem oneA {k:Int} {s:ByteArray}:∀ u∈[Value.int .i64 k,.string s],u.oneCell'=true:=by
 intro u hu
 simp only [List.mem_cons,List.not_mem_nil,or_false] at hu
 rcases hu with rfl | rfl <;> rfl
/-- A row of one's own of parts. -/
structure Ats (A:Option Addr) (c n:Nat) (l:List Att) (w:World):Prop where
 len:l.length=n
 own:OwnV 83 2 w A c n (l.flatMap acell)
theorem RdA.of_own {w:World} {A:Option Addr} {c n:Nat} {l:List Att} (hl:l.length=n) (h:OwnV 83 2 w A c n (l.flatMap acell)):RdA w w.heap.size A c l:=by
 subst hl
 refine ⟨h.le.1,h.le.2,fun hn=>?_⟩
 have at3:∀ j,j<l.length→∀ t,t<2→∀ v,(acell (l.getD j default))[t]?=some v→∃ g,A=some ⟨g,0,none⟩∧g<w.heap.size∧w.cell? ⟨g,2*j+t,none⟩=some v:=fun j hj t ht v hv=>by
  have e:l[j]?=some (l.getD j default):=by simp [List.getD,hj]
  have f:=flat_at (f:=acell) (m:=2) (L:=l) (fun _ _=>rfl) e (j:=t) ht
  obtain ⟨g,hA,hlt,hc,_⟩:=h.at_ (j:=2*j+t) (v:=v) (by rw [f];exact hv)
  exact ⟨g,hA,hlt,hc⟩
 obtain ⟨g,rfl,hlt,_⟩:=at3 0 hn 0 (by omega) _ rfl
 refine ⟨g,0,rfl,hlt,fun j hj=>?_⟩
 have k:∀ t,t<2→∀ v,(acell (l.getD j default))[t]?=some v→w.cell? ⟨g,2*j+t,none⟩=some v:=fun t ht v hv=>by
  obtain ⟨g',e,_,hc⟩:=at3 j hj t ht v hv
  injection e with e
  obtain rfl:g=g':=by injection e
  exact hc
 exact ⟨by rw [show 0+j*2=2*j+0 by omega];exact k 0 (by omega) _ rfl,by rw [show 0+j*2+1=2*j+1 by omega];exact k 1 (by omega) _ rfl⟩
theorem Ats.nil (w:World):Ats none 0 0 [] w:=⟨rfl,OwnV.nil _ _ _⟩
theorem Ats.under {A:Option Addr} {c n:Nat} {l:List Att} {w w':World} (h:Ats A c n l w) (hb:Below w.heap.size w w'):Ats A c n l w':=⟨h.len,h.own.keep fun g _ hg=>hb.block g hg⟩
theorem Ats.rd {A:Option Addr} {c n:Nat} {l:List Att} {w:World} (h:Ats A c n l w):RdA w w.heap.size A c l:=RdA.of_own h.len h.own
theorem Ats.push {n:Nat} {l:List Att} {w':World} {a:Att} {g' c':Nat} (h:l.length=n) (ho:OwnV 83 2 w' (some ⟨g',0,none⟩) c' (n+1) (l.flatMap acell ++ [.int .i64 a.k,.string a.s])):Ats (some ⟨g',0,none⟩) c' (n+1) (l ++ [a]) w' :=
 ⟨by simp [h],by rw [List.flatMap_append];simpa [acell] using ho⟩
/-- A part's thing read is that part. -/
theorem attr_back {s:Bool} {a:Att} (h:atOk a=true):attrT s (atTr a)=some a:=by
 obtain ⟨hk,hl,ht⟩:=atOk_iff.1 h
 obtain ⟨k,t⟩:=a
 have hk4:k=3∨k=6∨k=10∨k=11:=kd_cases hk
 have p1:parted 49=true:=rfl
 have p2:parted 48=true:=rfl
 have e1:seqK 49 (atTr ⟨k,t⟩)=[.mk 48 [] [.mk 6 [85,4,k.toNat] [],.mk 12 (bts t) []]]:=by simp [seqK,atTr,Tr.tag,Tr.body,Tr.kids,seqOk,p1]
 have e2:seqK 48 (.mk 48 [] [.mk 6 [85,4,k.toNat] [],.mk 12 (bts t) []])=[.mk 6 [85,4,k.toNat] [],.mk 12 (bts t) []]:=by simp [seqK,Tr.tag,Tr.body,Tr.kids,seqOk,p2]
 have e3:txB (.mk 12 (bts t) [])=some (bts t):=by
  show txOf 12 0 (bts t)=_
  rw [tx_back,if_pos ht]
 have e4:idB (.mk 6 [85,4,k.toNat] [])=[85,4,k.toNat]:=by
  unfold idB
  show (if (heldOk 6 0 6 && idOk [85,4,k.toNat])=true then [85,4,k.toNat] else [])=_
  rw [if_pos]
  rcases hk4 with rfl | rfl | rfl | rfl <;> decide +kernel
 have e5:((k.toNat:Nat):Int)=k:=by omega
 unfold attrT
 rw [e1]
 rw [if_neg (by cases s <;> simp [bad])]
 rw [show ([Tr.mk 48 [] [.mk 6 [85,4,k.toNat] [],.mk 12 (bts t) []]]:List Tr).getD 0 default = .mk 48 [] [.mk 6 [85,4,k.toNat] [],.mk 12 (bts t) []] from rfl,e2]
 rw [if_neg (by cases s <;> simp [bad])]
 rw [show ([Tr.mk 6 [85,4,k.toNat] [],.mk 12 (bts t) []]:List Tr).getD 0 default = .mk 6 [85,4,k.toNat] [] from rfl,show ([Tr.mk 6 [85,4,k.toNat] [],.mk 12 (bts t) []]:List Tr).getD 1 default = .mk 12 (bts t) [] from rfl,e3,e4]
 rw [if_pos ⟨rfl,rfl⟩]
 show some (⟨((k.toNat:Nat):Int),str (bts t)⟩:Att)=_
 rw [e5,str_bts]
theorem attr_len {s:Bool} {t:Tr} {a:Att} (h:attrT s t=some a):(bts a.s).length≤64:=by
 unfold attrT at h
 split at h
 ·cases h
 ·split at h
  ·cases h
  ·split at h
   ·rename_i h3
    injection h with h
    subst h
    have h4:=h3.1
    unfold txB txOf at h4
    split at h4
    ·rename_i h5
     have h6:=h5.2
     unfold textOk at h6
     simp only [Bool.and_eq_true,decide_eq_true_eq] at h6
     rw [bts_len,str_len]
     exact h6.1
    ·cases h4
   ·cases h
theorem dn_parts {l:List Att} {T:Tr} (h:dnTr l=T):seqOk T.tag T.body.length 48=true∧T.kids=l.map atTr:=by
 subst h
 exact ⟨rfl,rfl⟩
/-- What is read of a thing that is a name's is that name. -/
theorem dn_read {s:Bool} {l l0:List Att} (h:dnOk l=true) {ks:List Tr} (hk:ks=l.map atTr) (hl:l0.length=ks.length) (ho:∀ j,j<ks.length→attrT s (ks.getD j default)=some (l0.getD j default)):l0=l:=by
 subst hk
 rw [List.length_map] at hl ho
 refine List.ext_getElem hl fun j h1 h2=>?_
 have h3:=ho j h2
 rw [show (l.map atTr).getD j default=atTr (l.getD j default) by simp [List.getD,h2],attr_back ((dnOk_iff.1 h).2.2 j h2)] at h3
 injection h3 with h3
 simpa [List.getD,h1,h2] using h3.symm
theorem dnTr_inj {l l':List Att} (h:dnOk l=true) (h':dnOk l'=true) (e:dnTr l=dnTr l'):l=l':=by
 have h2:l.map atTr=l'.map atTr:=by
  simp only [dnTr] at e
  injection e
 have hl:=congrArg List.length h2
 rw [List.length_map,List.length_map] at hl
 refine dn_read (s:=true) h' h2 (by rw [List.length_map]) fun j hj=>?_
 rw [List.length_map] at hj
 rw [show (l.map atTr).getD j default=atTr (l.getD j default) by simp [List.getD,hj],attr_back ((dnOk_iff.1 h).2.2 j hj)]
def GetDPost (w:World) (T:Tr) (e:Ending) (w':World):Prop :=
 (∃ A c,∃ l:List Att,e = .returned (.tuple #[.slice A l.length c,.bool true])∧RdA w' w'.heap.size A c l∧dnOk l=true∧dnTr l=T∧Below w.heap.size w w') ∨
 (e = .returned (.tuple #[.slice none 0 0,.bool false])∧(∀ l:List Att,dnOk l=true→dnTr l≠T)∧Below w.heap.size w w')
theorem getD_no {w w':World} {T:Tr} (h:∀ l:List Att,dnOk l=true→dnTr l≠T) (hb:Below w.heap.size w w'):GetDPost w T (.returned (.tuple #[.slice none 0 0,.bool false])) w':=.inr ⟨rfl,h,hb⟩
/-- A name's thing that is small enough. -/
def FitG (t:Tr):Prop:=t.kids.length≤12000∧∀ k∈t.kids,FitA k
end Go.Proofs.YtcibjcgipfpniaaGreatDoor
