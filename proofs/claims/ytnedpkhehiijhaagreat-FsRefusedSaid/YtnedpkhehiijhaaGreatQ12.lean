/- Words and laws for the statement, part 12. -/
import Derived.Test.YtnedpkhehiijhaaGreatQ10
import Derived.Test.YtnedpkhehiijhaaGreatQ11
namespace Go.Proofs.YtnedpkhehiijhaaGreat
open Go.RowKit Go.WideMaps Go.Maps
set_option linter.unusedVariables false
set_option linter.unusedSimpArgs false
attribute [local go_sem ↓] Go.wp_at_zero Go.wp_at_succ

def hasN (ns:List Nd) (s:ByteArray):Bool:=(slotO (nvOf ns) s).isSome
theorem nodeOk_named {s:ByteArray}:NodeOk s 0 []↔NameOk s:=⟨fun h=>h.name,fun h=>⟨h,by omega,by omega,rfl,(fun i hi=>nomatch hi),fun i j _ hj=>nomatch hj⟩⟩
/-- What fates answers. -/
def FatesP (w:World) (n:Nat) (r:Nat ⊕ FateF) (e:Ending) (w':World):Prop :=
 Below w.heap.size w w'∧match r with
 | .inl k=>e = .returned (.tuple #[.map none,.int .i64 (k:Int)])
 | .inr fs=>∃ b nn D vf,e = .returned (.tuple #[.map (some b),.int .i64 0])∧nn≤n∧MapF w' b nn D vf∧FateR w' w.heap.size fs vf∧w.heap.size≤b
def RelFa (w W1:World) (b:Nat) (has:ByteArray→Bool) (L:List OpA) (r:Nat ⊕ FateF) (si:Value) (wr:World):Prop :=
 ∃ (k nn:Nat) (D:DataW Value) (vf:ByteArray→Option FV) (fs:FateF),k≤L.length∧si = .int .i64 (k:Int)∧nn≤k∧MapF wr b nn D vf∧FateR wr w.heap.size fs vf∧r=fateS has ((L.drop k).map OpA.v) fs∧Below w.heap.size w wr
section
variable {w:World} {gf gd:Nat} {ns:List Nd}
set_option maxRecDepth 100000 in
set_option maxHeartbeats 8000000 in
theorem fates_any (h:FsAt w gf gd ns) {m:Nat} (hn:NvOk (nvOf ns) m) (A:Option Addr) (c n:Nat) (L:List OpA) (hl:L.length=n) (hr:RdOp w w.heap.size A c L) (hn1:n≤100000) :
  Calls Tryz.prog 46 #[.pointer (some ⟨gf,0,none⟩),.slice A n c] w (FatesP w n (fateS (hasN ns) (L.map OpA.v) (fun _=>none))):=by
 obtain ⟨r,hr0⟩:∃ r,r=fateS (hasN ns) (L.map OpA.v) (fun _=>none):=⟨_,rfl⟩
 rw [←hr0]
 obtain ⟨W1,hW1⟩:∃ W1,W1=w.alloc (.map #[] 0):=⟨_,rfl⟩
 have hb1:Below w.heap.size w W1:=by rw [hW1];exact (Below.refl _ _).alloc (Nat.le_refl _) _
 have hm1:MapF W1 w.heap.size 0 (.map []) (fun _=>none):=by rw [hW1];exact MapF.made w
 have HSL:Hid (∀ W s,Below w.heap.size w W→Calls Tryz.prog 82 #[.pointer (some ⟨gf,0,none⟩),.string s] W fun e w'=>e = .returned (.int .i64 (slotI (slotO (nvOf ns) s)))∧Below W.heap.size W w'):=Lib.hid fun W s hW=>slot_any (h.under hW) hn s
 have HIS:Hid (∀ W s v,s.size≤9223372036854775807→(v=true↔NameOk s)→Calls Tryz.prog 72 #[.agg #[.string s,.int .i64 0,.slice none 0 0]] W fun e w'=>e = .returned (.bool v)∧Below W.heap.size W w'):=Lib.hid fun W s v hs hv=>is_any W s hs 0 (by omega) 0 none 0 0 [] rfl ⟨Nat.le_refl _,by omega,fun h=>nomatch h⟩ (Nat.zero_le _) v (hv.trans nodeOk_named.symm)
 have HRD:Hid (∀ W,Below w.heap.size w W→RdOp W w.heap.size A c L):=Lib.hid fun W hW=>hr.under hW
 have HLN:=Lib.hid hl
 have HR0:=Lib.hid hr0
 have HB1:=Lib.hid hb1
 have HW1:=Lib.hid hW1
 have HM1:=Lib.hid hm1
 clear h hn hl hr hr0 hb1 hW1 hm1
 have hmm:=@run_makeMap Tryz.prog
 go_enter Tryz.func46,Tryz.ntmps46
 go_wp2_with (first | (rw [←HW1.out]) | fail)
 go_loopw [16] (fun si wr=>RelFa w W1 w.heap.size (hasN ns) L r si wr) (fun si _=>n - (intOf si).toNat)
 case atStart=>exact ⟨0,0,.map [],fun _=>none,fun _=>none,Nat.zero_le _,rfl,Nat.le_refl _,HM1.out,FateR.start _ _,by rw [List.drop_zero];exact HR0.out,HB1.out⟩
 case round =>
  obtain ⟨k,nn,D,vf,fs,hk,rfl,hnn,hm,hfr,hrr,hq⟩:=hrel
  obtain ⟨V,hV⟩:∃ V,V=wr:=⟨_,rfl⟩
  subst hV
  rw [HLN.out] at hk
  have HM:=Lib.hid hm
  have HFR:=Lib.hid hfr
  have HRR:=Lib.hid hrr
  have HQ:=Lib.hid hq
  clear hm hfr hrr hq
  by_cases hlt:k<n
  case pos =>
   have hkI:(k:Int)<(n:Int):=by omega
   have hk0:(0:Int)≤(k:Int):=by omega
   have hkn:((k:Int)).toNat=k:=by omega
   have hkw:IntKind.i64.wrap ((k:Int)+1)=(k:Int)+1:=IntWalk.i64_in _ (by omega)
   have hkL:k<L.length:=by rw [HLN.out];exact hlt
   have HDR:Hid (r=fateS (hasN ns) (L[k].v :: (L.drop (k+1)).map OpA.v) fs):=Lib.hid (by rw [HRR.out,List.drop_eq_getElem_cons hkL];rfl)
   obtain ⟨bb,off,rfl,hbb,hcc⟩:=(HRD.out V HQ.out).2.2.2 (by omega)
   obtain ⟨c0,c1,c2⟩:=hcc k hkL
   obtain ⟨hro,hns⟩:=(HRD.out V HQ.out).2.2.1 L[k] (List.getElem_mem hkL)
   generalize L[k]=o at HDR c0 c1 c2 hro hns
   obtain ⟨dr,nm,da,dc,d⟩:=o
   obtain ⟨dn,hdn⟩:∃ dn,d.length=dn:=⟨_,rfl⟩
   have HDN:=Lib.hid hdn
   have HRO:=Lib.hid hro
   dsimp only at c0 c1 c2 hns hro HRO
   rw [hdn] at c2
   have hdcL:dn≤9223372036854775807:=by have h1:=hro.1;have h2:=hro.2.1;omega
   clear hcc hdn hro
   have hvl:=HQ.out.size
   have HBB:=Lib.hid hbb
   clear hbb
   obtain ⟨V2,hV2⟩:∃ V2,V2=V.alloc (.cells #[.bool dr,.string nm,.slice da dn dc] 58):=⟨_,rfl⟩
   have hb2:Below V.heap.size V V2:=by rw [hV2];exact (Below.refl _ _).alloc (Nat.le_refl _) _
   have HO2:Hid (Holds V2 V.heap.size 58 #[.bool dr,.string nm,.slice da dn dc]):=Lib.hid (by rw [hV2];exact Holds.fresh _ _ _)
   have HV2:=Lib.hid hV2
   have HB2:=Lib.hid hb2
   have HQ2:Hid (Below w.heap.size w V2):=Lib.hid (HQ.out.trans (HB2.out.mono HQ.out.size))
   have HM2:Hid (MapF V2 w.heap.size nn D vf):=Lib.hid (HM.out.under HB2.out HM.out.lt)
   clear hV2 hb2
   go_wp2_with (first | (rw [←HV2.out]) | fail)
   refine wp_region_noPanic ?_
   refine wp_region_held_drew (S:=fun W=>Holds W V.heap.size 58 #[.bool dr,.string nm,.slice da dn dc]) (by kernel_rfl) ((show Holds V2.drew _ _ _ from HO2.out)) (fun hHeld=>?_)
   refine wpAnyH_take (i:=0) (oi:={ dst:=some 20,op:=Op.fieldAddr 58 (Operand.tmp 8) 1,type:=0,pos:=_,after:=_,guard:=none }) (v:=?_) rfl (by kernel_rfl) (by kernel_rfl) (by kernel_rfl) (fun _ _ _ h=>h) (Or.inl ⟨by rfl,?_⟩) hHeld ?_
   rotate_left 1
   ·(intro W hW;(try dsimp only at hW);go_simp;try with_reducible rfl)
   try simp only [Act.put,List.setIfInBounds_toArray,List.set_cons_zero,List.set_cons_succ]
   refine wpAnyH_take (i:=1) (oi:={ dst:=some 21,op:=Op.fieldAddr 56 (Operand.tmp 20) 0,type:=0,pos:=_,after:=_,guard:=none }) (v:=?_) rfl (by kernel_rfl) (by kernel_rfl) (by kernel_rfl) (fun _ _ _ h=>h) (Or.inl ⟨by rfl,?_⟩) hHeld ?_
   rotate_left 1
   ·(intro W hW;(try dsimp only at hW);go_simp;try with_reducible rfl)
   try simp only [Act.put,List.setIfInBounds_toArray,List.set_cons_zero,List.set_cons_succ]
   refine wpAnyH_take (i:=2) (oi:={ dst:=some 22,op:=Op.load 9 (Operand.tmp 21),type:=9,pos:=_,after:=_,guard:=none }) (v:=?_) rfl (by kernel_rfl) (by kernel_rfl) (by kernel_rfl) (fun _ _ _ h=>h) (Or.inl ⟨by rfl,?_⟩) hHeld ?_
   rotate_left 1
   ·(intro W hW;have q1:=hW.cell 1;(try dsimp only at hW);go_simp;try with_reducible rfl)
   try simp only [Act.put,List.setIfInBounds_toArray,List.set_cons_zero,List.set_cons_succ]
   refine wpAnyH_take (i:=3) (oi:={ dst:=some 23,op:=Op.fieldAddr 58 (Operand.tmp 8) 1,type:=0,pos:=_,after:=_,guard:=none }) (v:=?_) rfl (by kernel_rfl) (by kernel_rfl) (by kernel_rfl) (fun _ _ _ h=>h) (Or.inl ⟨by rfl,?_⟩) hHeld ?_
   rotate_left 1
   ·(intro W hW;(try dsimp only at hW);go_simp;try with_reducible rfl)
   try simp only [Act.put,List.setIfInBounds_toArray,List.set_cons_zero,List.set_cons_succ]
   refine wpAnyH_take (i:=4) (oi:={ dst:=some 24,op:=Op.fieldAddr 56 (Operand.tmp 23) 1,type:=0,pos:=_,after:=_,guard:=none }) (v:=?_) rfl (by kernel_rfl) (by kernel_rfl) (by kernel_rfl) (fun _ _ _ h=>h) (Or.inl ⟨by rfl,?_⟩) hHeld ?_
   rotate_left 1
   ·(intro W hW;(try dsimp only at hW);go_simp;try with_reducible rfl)
   try simp only [Act.put,List.setIfInBounds_toArray,List.set_cons_zero,List.set_cons_succ]
   refine wpAnyH_take (i:=5) (oi:={ dst:=some 25,op:=Op.load 44 (Operand.tmp 24),type:=44,pos:=_,after:=_,guard:=none }) (v:=?_) rfl (by kernel_rfl) (by kernel_rfl) (by kernel_rfl) (fun _ _ _ h=>h) (Or.inl ⟨by rfl,?_⟩) hHeld ?_
   rotate_left 1
   ·(intro W hW;have q2:=hW.cell 2;(try dsimp only at hW);go_simp;try with_reducible rfl)
   try simp only [Act.put,List.setIfInBounds_toArray,List.set_cons_zero,List.set_cons_succ]
   refine wpAnyH_take (i:=6) (oi:={ dst:=some 9,op:=Op.assign (Operand.tmp 22),type:=9,pos:=_,after:=_,guard:=none }) (v:=?_) rfl (by kernel_rfl) (by kernel_rfl) (by kernel_rfl) (fun _ _ _ h=>h) (Or.inl ⟨by rfl,?_⟩) hHeld ?_
   rotate_left 1
   ·(intro W hW;(try dsimp only at hW);go_simp;try with_reducible rfl)
   try simp only [Act.put,List.setIfInBounds_toArray,List.set_cons_zero,List.set_cons_succ]
   refine wpAnyH_take (i:=7) (oi:={ dst:=some 10,op:=Op.assign (Operand.tmp 25),type:=44,pos:=_,after:=_,guard:=none }) (v:=?_) rfl (by kernel_rfl) (by kernel_rfl) (by kernel_rfl) (fun _ _ _ h=>h) (Or.inl ⟨by rfl,?_⟩) hHeld ?_
   rotate_left 1
   ·(intro W hW;(try dsimp only at hW);go_simp;try with_reducible rfl)
   try simp only [Act.put,List.setIfInBounds_toArray,List.set_cons_zero,List.set_cons_succ]
   refine wpAnyH_done (by kernel_rfl) ?_ _
   refine NoPanic.normal ?_
   clear hHeld c0 c1 c2
   have HQ3:Hid (Below w.heap.size w V2.drew):=Lib.hid HQ2.out.drew
   have HQV:Hid (Below w.heap.size V V2.drew):=Lib.hid (HB2.out.mono HQ.out.size).drew
   have HM3:Hid (MapF V2.drew w.heap.size nn D vf):=HM2
   have HO3:Hid (Holds V2.drew V.heap.size 58 #[.bool dr,.string nm,.slice da dn dc]):=HO2
   generalize V2.drew=V3 at *
   have c0:V3.cell? ⟨V.heap.size,0,none⟩=some (.bool dr):=HO3.out.cell 0
   have HKEY:Hid (keyOf Tryz.prog 9 (.string nm)=some (.string nm.data.toList)):=Lib.hid (keyOf_string_mk Tryz.underlying9 (s:=nm) (by unfold maxLen;omega))
   cases dr with
   | false =>
    by_cases hok:NameOk nm
    ·have HI:=Lib.hid (HIS.out V3 nm true hns ⟨fun _=>hok,fun _=>rfl⟩)
     by_cases h6:dn≤600
     ·have h6I:¬ ((600:Int)<(dn:Int)):=by omega
      go_wp2_with (first | (refine HI.out.mono ?_;rintro e V4 ⟨rfl,hb4⟩) | (at_mapUpdate;refine wpList_mapUpdate_own _ rfl _ _ _ 93 rfl 9 144 law Tryz.underlying93 heldV w.heap.size nn D rfl (HM3.out.under hb4 HM3.out.lt).1 (by unfold maxLen;omega) _ _ _ rfl rfl HKEY.out _ [] (heldV_val (FV.mk _ _ _ _)) ?_;intro W5 ho5 hg5) | fail)
      have hm5:=(HM3.out.under hb4 HM3.out.lt).put nm ⟨true,da,dn,dc⟩ ho5
      have hg35:Below w.heap.size V3 W5:=(hb4.mono HQ3.out.size).trans (grown_belowF hg5 (fun g e=>by injection e with e;omega) (Nat.le_trans HQ3.out.size hb4.size))
      have hv5:=HQV.out.trans hg35
      go_roundw
      case rel =>
       refine ⟨k+1,nn+1,_,setV vf nm ⟨true,da,dn,dc⟩,setF fs nm (some d),by rw [HLN.out];omega,by go_num,by omega,hm5,by have:=(HFR.out.under hv5).put nm (HRO.out.under hv5);rw [HDN.out] at this;exact this,?_,HQ3.out.trans hg35⟩
       rw [HDR.out]
       show fateS _ (⟨_,_,_⟩ :: _) _=_
       simp only [fateS]
       rw [if_neg (by decide),if_pos ⟨hok,by rw [HDN.out];exact h6⟩]
      case measure=>simp [intOf];omega
     ·have h6I:((600:Int)<(dn:Int)):=by omega
      go_wp2_with (first | (refine HI.out.mono ?_;rintro e V4 ⟨rfl,hb4⟩) | fail)
      go_ret2
      have hre:r = .inl 1:=by
       rw [HDR.out]
       show fateS _ (⟨_,_,_⟩ :: _) _=_
       simp only [fateS]
       rw [if_neg (by decide),if_neg (fun e=>h6 (by rw [←HDN.out];exact e.2))]
      rw [hre]
      exact ⟨HQ3.out.trans (hb4.mono HQ3.out.size),rfl⟩
    ·have HI:=Lib.hid (HIS.out V3 nm false hns ⟨(fun e=>nomatch e),fun e=>absurd e hok⟩)
     go_wp2_with (first | (refine HI.out.mono ?_;rintro e V4 ⟨rfl,hb4⟩) | fail)
     go_ret2
     have hre:r = .inl 1:=by
      rw [HDR.out]
      show fateS _ (⟨_,_,_⟩ :: _) _=_
      simp only [fateS]
      rw [if_neg (by decide),if_neg (fun e=>hok e.1)]
     rw [hre]
     exact ⟨HQ3.out.trans (hb4.mono HQ3.out.size),rfl⟩
   | true =>
    have hlk:=HM3.out.look_ok nm hns
    have hfn:=HFR.out nm
    cases hfs:fs nm with
    | none =>
     rw [hfs] at hfn
     rw [show vf nm=none from hfn] at hlk
     replace hlk:(Instr.lookup 93 (.map (some w.heap.size)) (.string nm) true).run Tryz.prog V3 = .ok (.tuple #[.agg #[.bool false,.slice none 0 0],.bool false]) V3:=hlk
     have HFS2:=Lib.hid hfs
     clear hfn hfs
     have hb4:Below V3.heap.size V3 (V3.alloc (.cells #[.bool false,.slice none 0 0] 144)):=by exact (Below.refl _ _).alloc (Nat.le_refl _) _
     have HS4:=Lib.hid (HSL.out (V3.alloc (.cells #[.bool false,.slice none 0 0] 144)) nm (HQ3.out.trans (hb4.mono HQ3.out.size)))
     have HHN:Hid (hasN ns nm=(slotO (nvOf ns) nm).isSome):=Lib.hid rfl
     cases hso:slotO (nvOf ns) nm with
     | none =>
      rw [hso] at HS4 HHN
      dsimp only [slotI] at HS4
      go_wp2_with (first | (refine HS4.out.mono ?_;rintro e V5 ⟨rfl,hb5⟩) | fail)
      go_ret2
      have hre:r = .inl 7:=by
       rw [HDR.out]
       show fateS _ (⟨_,_,_⟩ :: _) _=_
       simp only [fateS]
       rw [if_pos trivial,HFS2.out,if_pos (by show hasN ns nm=false;rw [HHN.out];rfl)]
      rw [hre]
      exact ⟨HQ3.out.trans ((hb4.trans (hb5.mono hb4.size)).mono HQ3.out.size),rfl⟩
     | some i =>
      rw [hso] at HS4 HHN
      dsimp only [slotI] at HS4
      have hi0:¬ ((i:Int)<0):=by omega
      go_wp2_with (first | (refine HS4.out.mono ?_;rintro e V5 ⟨rfl,hb5⟩;have hb35:=hb4.trans (hb5.mono hb4.size)) | (at_mapUpdate;refine wpList_mapUpdate_own _ rfl _ _ _ 93 rfl 9 144 law Tryz.underlying93 heldV w.heap.size nn D rfl (HM3.out.under hb35 HM3.out.lt).1 (by unfold maxLen;omega) _ _ _ rfl rfl HKEY.out _ [] (heldV_val (FV.mk _ _ _ _)) ?_;intro W5 ho5 hg5) | fail)
      have hm5:=(HM3.out.under hb35 HM3.out.lt).put nm zFV ho5
      have hg35:Below w.heap.size V3 W5:=(hb35.mono HQ3.out.size).trans (grown_belowF hg5 (fun g e=>by injection e with e;omega) (Nat.le_trans HQ3.out.size hb35.size))
      have hv5:=HQV.out.trans hg35
      go_roundw
      case rel =>
       refine ⟨k+1,nn+1,_,setV vf nm zFV,setF fs nm none,by rw [HLN.out];omega,by go_num,by omega,hm5,(HFR.out.under hv5).drop nm,?_,HQ3.out.trans hg35⟩
       rw [HDR.out]
       show fateS _ (⟨_,_,_⟩ :: _) _=_
       simp only [fateS]
       rw [if_pos trivial,HFS2.out,if_neg (by show ¬ hasN ns nm=false;rw [HHN.out];simp)]
      case measure=>simp [intOf];omega
    | some x =>
     cases x with
     | none =>
      rw [hfs] at hfn
      rw [show vf nm=some zFV from hfn] at hlk
      replace hlk:(Instr.lookup 93 (.map (some w.heap.size)) (.string nm) true).run Tryz.prog V3 = .ok (.tuple #[.agg #[.bool false,.slice none 0 0],.bool true]) V3:=hlk
      have HFS2:=Lib.hid hfs
      clear hfn hfs
      have hb4:Below V3.heap.size V3 (V3.alloc (.cells #[.bool false,.slice none 0 0] 144)):=by exact (Below.refl _ _).alloc (Nat.le_refl _) _
      have hh4:Holds (V3.alloc (.cells #[.bool false,.slice none 0 0] 144)) V3.heap.size 144 #[.bool false,.slice none 0 0]:=by exact Holds.fresh _ _ _
      have h40:(V3.alloc (.cells #[.bool false,.slice none 0 0] 144)).cell? ⟨V3.heap.size,0,none⟩=some (.bool false):=hh4.cell 0
      clear hh4
      go_wp2_with fail
      go_ret2
      have hre:r = .inl 7:=by
       rw [HDR.out]
       show fateS _ (⟨_,_,_⟩ :: _) _=_
       simp only [fateS]
       rw [if_pos trivial,HFS2.out,if_pos trivial]
      rw [hre]
      exact ⟨HQ3.out.trans (hb4.mono HQ3.out.size),rfl⟩
     | some d0 =>
      rw [hfs] at hfn
      obtain ⟨A0,c0',hv0,_⟩:=hfn
      rw [hv0] at hlk
      obtain ⟨n0,hn0⟩:∃ n0,n0=d0.length:=⟨_,rfl⟩
      replace hlk:(Instr.lookup 93 (.map (some w.heap.size)) (.string nm) true).run Tryz.prog V3 = .ok (.tuple #[.agg #[.bool true,.slice A0 n0 c0'],.bool true]) V3:=by rw [hn0];exact hlk
      have HFS2:=Lib.hid hfs
      clear hfs hv0 hn0
      obtain ⟨V4,hV4⟩:∃ V4,V4=V3.alloc (.cells #[.bool true,.slice A0 n0 c0'] 144):=⟨_,rfl⟩
      have hb4:Below V3.heap.size V3 V4:=by rw [hV4];exact (Below.refl _ _).alloc (Nat.le_refl _) _
      have hh4:Holds V4 V3.heap.size 144 #[.bool true,.slice A0 n0 c0']:=by rw [hV4];exact Holds.fresh _ _ _
      have h40:V4.cell? ⟨V3.heap.size,0,none⟩=some (.bool true):=hh4.cell 0
      have HV4:=Lib.hid hV4
      clear hV4 hh4
      go_wp2_with (first | (rw [←HV4.out]) | (at_mapUpdate;refine wpList_mapUpdate_own _ rfl _ _ _ 93 rfl 9 144 law Tryz.underlying93 heldV w.heap.size nn D rfl (HM3.out.under hb4 HM3.out.lt).1 (by unfold maxLen;omega) _ _ _ rfl rfl HKEY.out _ [] (heldV_val (FV.mk _ _ _ _)) ?_;intro W5 ho5 hg5) | fail)
      have hm5:=(HM3.out.under hb4 HM3.out.lt).put nm zFV ho5
      have hg35:Below w.heap.size V3 W5:=(hb4.mono HQ3.out.size).trans (grown_belowF hg5 (fun g e=>by injection e with e;omega) (Nat.le_trans HQ3.out.size hb4.size))
      have hv5:=HQV.out.trans hg35
      go_roundw
      case rel =>
       refine ⟨k+1,nn+1,_,setV vf nm zFV,setF fs nm none,by rw [HLN.out];omega,by go_num,by omega,hm5,(HFR.out.under hv5).drop nm,?_,HQ3.out.trans hg35⟩
       rw [HDR.out]
       show fateS _ (⟨_,_,_⟩ :: _) _=_
       simp only [fateS]
       rw [if_pos trivial,HFS2.out,if_neg (fun h=>h)]
      case measure=>simp [intOf];omega
  case neg =>
   obtain rfl:k=n:=by omega
   have hkI:¬ ((k:Int)<(k:Int)):=by omega
   go_wp2_with fail
   go_ret2
   have hre:r = .inr fs:=by rw [HRR.out,List.drop_of_length_le (by rw [HLN.out];exact Nat.le_refl _)];rfl
   rw [hre]
   exact ⟨HQ.out,w.heap.size,nn,D,vf,rfl,hnn,HM.out,HFR.out,Nat.le_refl _⟩
end
end Go.Proofs.YtnedpkhehiijhaaGreat
namespace Go.Proofs.YtnedpkhehiijhaaGreat
open Go.RowKit
set_option linter.unusedVariables false
set_option linter.unusedSimpArgs false

/-- The plan stands so in memory; G: blocks that are others'. -/
structure PlSt (O:Nat→Prop) (w0:World) (gp:Nat) (G:Nat→Prop) (p:Pln) (ns:List Nd) (fA:Option Addr) (fc:Nat) (wA:Option Addr) (wc:Nat) (l:List Wr) (W:World):Prop where
 at_:PlanAt W gp ns p.us fA p.fr.length fc wA l.length wc
 nv:∀ i,i<40→nvOf ns i=p.nv i
 pl:∀ d∈ns,RdI .i64 W W.heap.size d.pa d.pc d.pl∧(0<d.pl.length→∀ g,blockOf d.pa=some g→g≠gp∧blockOf wA≠some g∧¬ G g)
 fr:Rd .i64 W W.heap.size fA fc p.fr∧(0<p.fr.length→∀ g,blockOf fA=some g→g≠gp∧blockOf wA≠some g∧¬ G g)
 own:OwnV 132 2 W wA wc l.length (l.flatMap wrCells)
 wnew:∀ g,blockOf wA=some g→w0.heap.size≤g∧g≠gp∧¬ G g
 ws:wv l=p.ws
 rd:∀ x∈l,Rd .u8 W W.heap.size x.da x.dc x.d∧(0<x.d.length→∀ g,blockOf x.da=some g→w0.heap.size≤g∧g≠gp∧blockOf wA≠some g∧¬ G g)
 only:Only (fun k=>k=gp) w0 W
 g0:gp<w0.heap.size
 gg:∀ k,G k→w0.heap.size≤k∧k<W.heap.size
 pn:∀ d∈ns,0<d.pl.length→∀ g,blockOf d.pa=some g→g<w0.heap.size→O g
theorem RdI.onB {k:IntKind} {w w':World} {B:Nat} {A:Option Addr} {c:Nat} {l:List Int} (h:RdI k w B A c l) (hk:0<l.length→∀ g,blockOf A=some g→g<B→w'.heap[g]?=w.heap[g]?):RdI k w' B A c l :=
 ⟨h.1,h.2.1,fun hn=>by
  obtain ⟨b,off,e,hb,hc⟩:=h.2.2 hn
  exact ⟨b,off,e,hb,fun j hj=>(cell_same (hk hn b (by rw [e];rfl) hb) _).trans (hc j hj)⟩⟩
theorem RdI.block_lt {k:IntKind} {w:World} {B:Nat} {A:Option Addr} {c:Nat} {l:List Int} (h:RdI k w B A c l) (hn:0<l.length) {g:Nat} (hg:blockOf A=some g):g<B:=by
 obtain ⟨b,off,e,hb,_⟩:=h.2.2 hn
 rw [e] at hg
 injection hg with hg
 have hg:b=g:=hg
 omega
section
variable {O:Nat→Prop} {w0:World} {gp:Nat} {G G':Nat→Prop} {p:Pln} {ns:List Nd} {fA:Option Addr} {fc:Nat} {wA:Option Addr} {wc:Nat} {l:List Wr} {W W':World}
/-- What turns others' blocks alone leaves the plan. -/
theorem PlSt.other (h:PlSt O w0 gp G p ns fA fc wA wc l W) (ho:Only G W W') (hG:∀ k,G' k→(G k∨W.heap.size≤k)∧k<W'.heap.size):PlSt O w0 gp G' p ns fA fc wA wc l W':=by
 have hs:=h.only.size
 have hgp:¬ G gp:=fun e=>by have:=(h.gg gp e).1;have:=h.g0;omega
 have n':∀ g,g<W.heap.size→¬ G g→¬ G' g:=fun g hg hn e=>by
  rcases (hG g e).1 with e | e
  ·exact hn e
  ·omega
 have hz:=ho.size
 have hgw:=h.g0
 refine ⟨⟨h.at_.n40,h.at_.u40,(ho.block gp (by omega) hgp).trans h.at_.hd⟩,h.nv,fun d hd=>⟨((h.pl d hd).1.onB fun hn g hg hlt=>ho.block g hlt ((h.pl d hd).2 hn g hg).2.2).more hz,fun hn g hg=>?_⟩,⟨(h.fr.1.onB fun hn g hg hlt=>ho.block g hlt (h.fr.2 hn g hg).2.2).more hz,fun hn g hg=>?_⟩,h.own.keep fun g hg hlt=>ho.block g hlt (h.wnew g hg).2.2,fun g hg=>?_,h.ws,fun x hx=>⟨((h.rd x hx).1.onB fun hn g hg hlt=>ho.block g hlt ((h.rd x hx).2 hn g hg).2.2.2).more hz,fun hn g hg=>?_⟩,?_,h.g0,fun k hk=>?_,h.pn⟩
 ·obtain ⟨a,b,c⟩:=(h.pl d hd).2 hn g hg
  exact ⟨a,b,n' g ((h.pl d hd).1.block_lt hn hg) c⟩
 ·obtain ⟨a,b,c⟩:=h.fr.2 hn g hg
  exact ⟨a,b,n' g (h.fr.1.block_lt hn hg) c⟩
 ·obtain ⟨a,b,c⟩:=h.wnew g hg
  exact ⟨a,b,n' g (h.own.lt hg) c⟩
 ·obtain ⟨a,b,c,d⟩:=(h.rd x hx).2 hn g hg
  exact ⟨a,b,c,n' g ((h.rd x hx).1.block_lt hn hg) d⟩
 ·exact h.only.trans ho fun k hk e=>by have:=(h.gg k e).1;omega
 ·refine ⟨?_,(hG k hk).2⟩
  rcases (hG k hk).1 with e | e
  ·exact (h.gg k e).1
  ·omega
/-- A write more. -/
theorem PlSt.wrote (h:PlSt O w0 gp G p ns fA fc wA wc l W) {at_:Int} {b:List Nat} {e:Ending} (hw:WrP W gp ns p.us fA p.fr.length fc wA l.length l at_ b e W') :
  e = .returned (.tuple #[])∧∃ g' c' x,PlSt O w0 gp G { p with ws:=p.ws ++ [(at_,secOf b)] } ns fA fc (some ⟨g',0,none⟩) c' (l ++ [x]) W'∧∀ g,g<W.heap.size→g≠gp→blockOf wA≠some g→W'.heap[g]?=W.heap[g]?∧g'≠g:=by
 obtain ⟨he,g',c',g,hpa,hgn,hrow,hown,hg',hgg,hgp',ho⟩:=hw
 have hz:=ho.size
 have hs:=h.only.size
 have keep:∀ k,k<W.heap.size→k≠gp→blockOf wA≠some k→W'.heap[k]?=W.heap[k]?:=fun k h1 h2 h3=>ho.block k h1 fun e=>e.elim h2 h3
 have ne':∀ k,k<W.heap.size→blockOf wA≠some k→(blockOf (some ⟨g',0,none⟩):Option Nat)≠some k:=fun k h1 h2 e=>by
  have e:g'=k:=by simpa [blockOf] using e
  subst e
  rcases hg' with e | e
  ·exact h2 e
  ·omega
 have hglt:=hrow.lt
 refine ⟨he,g',c',⟨at_,some ⟨g,0,none⟩,64,secOf b⟩,⟨?_,h.nv,fun d hd=>⟨((h.pl d hd).1.onB fun hn k hk hlt=>?_).more hz,fun hn k hk=>?_⟩,⟨(h.fr.1.onB fun hn k hk hlt=>?_).more hz,fun hn k hk=>?_⟩,?_,fun k hk=>?_,?_,fun x hx=>?_,?_,h.g0,fun k hk=>⟨(h.gg k hk).1,by have:=(h.gg k hk).2;omega⟩,h.pn⟩,fun k h1 h2 h3=>⟨keep k h1 h2 h3,fun e=>ne' k h1 h3 (by rw [e];rfl)⟩⟩
 ·rw [List.length_append];exact hpa
 ·obtain ⟨a,b,_⟩:=(h.pl d hd).2 hn k hk
  exact keep k hlt a b
 ·obtain ⟨a,b,c⟩:=(h.pl d hd).2 hn k hk
  exact ⟨a,ne' k ((h.pl d hd).1.block_lt hn hk) b,c⟩
 ·obtain ⟨a,b,_⟩:=h.fr.2 hn k hk
  exact keep k hlt a b
 ·obtain ⟨a,b,c⟩:=h.fr.2 hn k hk
  exact ⟨a,ne' k (h.fr.1.block_lt hn hk) b,c⟩
 ·rw [List.length_append];exact hown
 ·obtain rfl:g'=k:=by simpa [blockOf] using hk
  rcases hg' with e | e
  ·exact h.wnew _ e
  ·exact ⟨by omega,hgp',fun e2=>by have:=(h.gg _ e2).2;omega⟩
 ·unfold wv
  rw [List.map_append]
  show wv l ++ _=_
  rw [h.ws]
  rfl
 ·rcases List.mem_append.1 hx with hx | hx
  ·refine ⟨((h.rd x hx).1.onB fun hn k hk hlt=>?_).more hz,fun hn k hk=>?_⟩
   ·obtain ⟨_,a,b,_⟩:=(h.rd x hx).2 hn k hk
    exact keep k hlt a b
   ·obtain ⟨a,b,c,d⟩:=(h.rd x hx).2 hn k hk
    exact ⟨a,b,ne' k ((h.rd x hx).1.block_lt hn hk) c,d⟩
  ·rw [List.mem_singleton.1 hx]
   refine ⟨(Row.rd64 hrow (secOf_length _)),fun hn k hk=>?_⟩
   obtain rfl:g=k:=by simpa [blockOf] using hk
   have hgb:=h.g0
   exact ⟨by omega,by omega,fun e=>hgg (by simpa [blockOf] using e),fun e=>by have:=(h.gg _ e).2;omega⟩
 ·refine h.only.trans ho fun k hk e=>?_
  rcases e with e | e
  ·exact e
  ·have:=(h.wnew k e).1;omega
end
end Go.Proofs.YtnedpkhehiijhaaGreat
namespace Go.Proofs.YtnedpkhehiijhaaGreat
open Go.RowKit
set_option linter.unusedVariables false
set_option linter.unusedSimpArgs false

section
variable {O:Nat→Prop} {w0:World} {gp:Nat} {G G':Nat→Prop} {p:Pln} {ns:List Nd} {fA:Option Addr} {fc:Nat} {wA:Option Addr} {wc:Nat} {l:List Wr} {W W':World}
/-- What turns the plan's own block alone. -/
theorem PlSt.own_block (h:PlSt O w0 gp G p ns fA fc wA wc l W) (ho:Only (fun k=>k=gp) W W') {us:List Bool} (hp:PlanAt W' gp ns us fA p.fr.length fc wA l.length wc):PlSt O w0 gp G { p with us:=us } ns fA fc wA wc l W':=by
 have hz:=ho.size
 have kp:∀ g,g<W.heap.size→g≠gp→W'.heap[g]?=W.heap[g]?:=fun g h1 h2=>ho.block g h1 h2
 exact ⟨hp,h.nv,fun d hd=>⟨((h.pl d hd).1.onB fun hn g hg hlt=>kp g hlt ((h.pl d hd).2 hn g hg).1).more hz,(h.pl d hd).2⟩,⟨(h.fr.1.onB fun hn g hg hlt=>kp g hlt (h.fr.2 hn g hg).1).more hz,h.fr.2⟩,h.own.keep fun g hg hlt=>kp g hlt (h.wnew g hg).2.1,h.wnew,h.ws,
  fun x hx=>⟨((h.rd x hx).1.onB fun hn g hg hlt=>kp g hlt ((h.rd x hx).2 hn g hg).2.1).more hz,(h.rd x hx).2⟩,h.only.trans ho (fun k _ e=>e),h.g0,fun k hk=>⟨(h.gg k hk).1,Nat.lt_of_lt_of_le (h.gg k hk).2 hz⟩,h.pn⟩
theorem PlSt.gave (h:PlSt O w0 gp G p ns fA fc wA wc l W) (i:Nat) (hi:i<40):PlSt O w0 gp G { p with us:=p.us.set i true } ns fA fc wA wc l (W.setCell ⟨gp,120+i,none⟩ (.bool true)) :=
 h.own_block ((Only.refl (fun k=>k=gp) W).setCell (p:=⟨gp,120+i,none⟩) (.inl rfl) _) (h.at_.give i hi)
theorem Rd.tailP {k:IntKind} {w:World} {B b off c:Nat} {l:List Nat} (h:Rd k w B (some ⟨b,off,none⟩) c l) (hl:0<l.length):Rd k w B (some ⟨b,off+1,none⟩) (c - 1) (l.drop 1):=by
 refine ⟨by have:=h.1;rw [List.length_drop];omega,by have:=h.2.1;omega,fun hn=>?_⟩
 obtain ⟨b',off',e,hb,hc⟩:=h.2.2 hl
 injection e with e
 injection e with e1 e2
 subst e1;subst e2
 refine ⟨_,_,rfl,hb,fun j hj=>?_⟩
 rw [List.length_drop] at hj
 have:=hc (j+1) (by omega)
 rw [show off+(j+1)=off+1+j by omega] at this
 rw [this]
 simp [List.getD,Nat.add_comm]
/-- The first free place is taken. -/
theorem PlSt.freed (h:PlSt O w0 gp G p ns fA fc wA wc l W) {A':Option Addr} {c' n':Nat} (hn':n'=p.fr.length - 1) (hr:Rd .i64 W W.heap.size A' c' (p.fr.drop 1)) (hb:blockOf A'=blockOf fA) :
  PlSt O w0 gp G { p with fr:=p.fr.drop 1 } ns A' c' wA wc l (W.setCell ⟨gp,160,none⟩ (.slice A' n' c')):=by
 have ho:Only (fun k=>k=gp) W (W.setCell ⟨gp,160,none⟩ (.slice A' n' c')):=(Only.refl (fun k=>k=gp) W).setCell (p:=⟨gp,160,none⟩) (.inl rfl) _
 have hz:=ho.size
 have kp:∀ g,g<W.heap.size→g≠gp→(W.setCell ⟨gp,160,none⟩ (.slice A' n' c')).heap[g]?=W.heap[g]?:=fun g h1 h2=>ho.block g h1 h2
 have hfb:0<(p.fr.drop 1).length→∀ g,blockOf A'=some g→g≠gp∧blockOf wA≠some g∧¬ G g:=fun hn g hg=>h.fr.2 (by rw [List.length_drop] at hn;omega) g (by rw [←hb];exact hg)
 refine ⟨?_,h.nv,fun d hd=>⟨((h.pl d hd).1.onB fun hn g hg hlt=>kp g hlt ((h.pl d hd).2 hn g hg).1).more hz,(h.pl d hd).2⟩,⟨(hr.onB fun hn g hg hlt=>kp g hlt (hfb hn g hg).1).more hz,hfb⟩,h.own.keep fun g hg hlt=>kp g hlt (h.wnew g hg).2.1,h.wnew,h.ws,
  fun x hx=>⟨((h.rd x hx).1.onB fun hn g hg hlt=>kp g hlt ((h.rd x hx).2 hn g hg).2.1).more hz,(h.rd x hx).2⟩,h.only.trans ho (fun k _ e=>e),h.g0,fun k hk=>⟨(h.gg k hk).1,Nat.lt_of_lt_of_le (h.gg k hk).2 hz⟩,h.pn⟩
 have:=h.at_.freed A' n' c'
 rw [hn'] at this ⊢
 show PlanAt _ gp ns p.us _ (p.fr.drop 1).length _ _ _ _
 rw [List.length_drop]
 exact this
theorem PlSt.drew (h:PlSt O w0 gp G p ns fA fc wA wc l W):PlSt O w0 gp G p ns fA fc wA wc l W.drew:=h.other (Only.refl _ W).drew fun k hk=>⟨.inl hk,(h.gg k hk).2⟩
/-- A part of a row. -/
theorem Rd.part {k:IntKind} {w:World} {B b off c:Nat} {d:List Nat} (h:Rd k w B (some ⟨b,off,none⟩) c d) (i n:Nat) (hi:i≤d.length):Rd k w B (some ⟨b,off+i,none⟩) (c - i) ((d.drop i).take n):=by
 have h1:=h.1
 have h2:=h.2.1
 refine ⟨by rw [List.length_take,List.length_drop];omega,by omega,fun hn=>?_⟩
 rw [List.length_take,List.length_drop] at hn
 obtain ⟨b',off',e,hb,hc⟩:=h.2.2 (by omega)
 injection e with e
 injection e with e1 e2
 subst e1;subst e2
 refine ⟨_,_,rfl,hb,fun j hj=>?_⟩
 rw [List.length_take,List.length_drop] at hj
 have:=hc (i+j) (by omega)
 rw [show off+(i+j)=off+i+j by omega] at this
 rw [this]
 simp only [List.getD]
 rw [List.getElem?_take_of_lt (by omega),List.getElem?_drop]
theorem nvOf_set {ns:List Nd} {i:Nat} (hi:i<ns.length) (d:Nd) {k:Nat}:nvOf (ns.set i d) k=if k=i then d.v else nvOf ns k:=by
 unfold nvOf
 by_cases e:k=i
 ·subst e;simp [List.getD,hi]
 ·rw [if_neg e]
  simp only [List.getD]
  rw [List.getElem?_set_ne (Ne.symm e)]
/-- A node is put into its slot. -/
theorem PlSt.node (h:PlSt O w0 gp G p ns fA fc wA wc l W) {i:Nat} (hi:i<40) {d:Nd} (hd:RdI .i64 W W.heap.size d.pa d.pc d.pl) (hg:0<d.pl.length→∀ g,blockOf d.pa=some g→g≠gp∧blockOf wA≠some g) (hG:∀ k,G' k→G k) (hg2:0<d.pl.length→∀ g,blockOf d.pa=some g→¬ G' g) (hg3:0<d.pl.length→∀ g,blockOf d.pa=some g→w0.heap.size≤g) :
  PlSt O w0 gp G' { p with nv:=updV p.nv i d.v } (ns.set i d) fA fc wA wc l (W.setCells gp (i*3) (ncell d)):=by
 have ho:Only (fun k=>k=gp) W (W.setCells gp (i*3) (ncell d)):=⟨rfl,rfl,rfl,Nat.le_of_eq (setCells_size _ _ _ _).symm,fun k _ hk=>setCells_aside hk _ _ _⟩
 have hz:=ho.size
 have kp:∀ g,g<W.heap.size→g≠gp→(W.setCells gp (i*3) (ncell d)).heap[g]?=W.heap[g]?:=fun g h1 h2=>ho.block g h1 h2
 have nG:∀ g,¬ G g→¬ G' g:=fun g h1 h2=>h1 (hG g h2)
 refine ⟨h.at_.put i hi d,fun k hk=>?_,fun d' hd'=>?_,⟨(h.fr.1.onB fun hn g hg hlt=>kp g hlt (h.fr.2 hn g hg).1).more hz,fun hn g hg=>⟨(h.fr.2 hn g hg).1,(h.fr.2 hn g hg).2.1,nG _ (h.fr.2 hn g hg).2.2⟩⟩,h.own.keep fun g hg hlt=>kp g hlt (h.wnew g hg).2.1,fun g hg=>⟨(h.wnew g hg).1,(h.wnew g hg).2.1,nG _ (h.wnew g hg).2.2⟩,h.ws,
  fun x hx=>⟨((h.rd x hx).1.onB fun hn g hg hlt=>kp g hlt ((h.rd x hx).2 hn g hg).2.1).more hz,fun hn g hg=>⟨((h.rd x hx).2 hn g hg).1,((h.rd x hx).2 hn g hg).2.1,((h.rd x hx).2 hn g hg).2.2.1,nG _ ((h.rd x hx).2 hn g hg).2.2.2⟩⟩,h.only.trans ho (fun k _ e=>e),h.g0,fun k hk=>⟨(h.gg k (hG k hk)).1,Nat.lt_of_lt_of_le (h.gg k (hG k hk)).2 hz⟩,fun d' hd' hn g hgb hlt=>?_⟩
 ·rw [nvOf_set (by rw [h.at_.n40];exact hi)]
  show _=updV p.nv i d.v k
  unfold updV
  split
  ·rfl
  ·exact h.nv k hk
 ·rcases List.mem_or_eq_of_mem_set hd' with hd' | rfl
  ·exact ⟨((h.pl d' hd').1.onB fun hn g hg hlt=>kp g hlt ((h.pl d' hd').2 hn g hg).1).more hz,fun hn g hg=>⟨((h.pl d' hd').2 hn g hg).1,((h.pl d' hd').2 hn g hg).2.1,nG _ ((h.pl d' hd').2 hn g hg).2.2⟩⟩
  ·exact ⟨(hd.onB fun hn g hgb hlt=>kp g hlt (hg hn g hgb).1).more hz,fun hn g hgb=>⟨(hg hn g hgb).1,(hg hn g hgb).2,hg2 hn g hgb⟩⟩
 ·rcases List.mem_or_eq_of_mem_set hd' with hd' | rfl
  ·exact h.pn d' hd' hn g hgb hlt
  ·have:=hg3 hn g hgb;omega
end
/-- A plan while a file's sectors are written. -/
def Pln.mid (p:Pln) (us:List Bool) (d:List Nat) (k:Nat):Pln:={ p with us:=us,fr:=p.fr.drop k,ws:=p.ws ++ putWs p.fr d k }
theorem Pln.mid_zero (p:Pln) (us:List Bool) (d:List Nat):p.mid us d 0={ p with us:=us }:=by
 unfold Pln.mid putWs
 simp
theorem putWs_succ (fr d:List Nat) (k:Nat):putWs fr d (k+1)=putWs fr d k ++ [((fr.getD k 0:Int),partK d k)]:=by
 unfold putWs
 rw [List.range_succ,List.map_append]
 rfl
theorem Pln.mid_succ (p:Pln) (us:List Bool) (d:List Nat) (k:Nat):p.mid us d (k+1)={ ({ p.mid us d k with ws:=(p.mid us d k).ws ++ [((p.fr.getD k 0:Int),partK d k)] }:Pln) with fr:=(p.mid us d k).fr.drop 1 }:=by
 unfold Pln.mid
 rw [putWs_succ,←List.append_assoc,List.drop_drop]
theorem Pln.mid_into (p:Pln) (us:List Bool) (s:ByteArray) (d:List Nat) (i:Nat) :
  ({ ({ p.mid us d (needN d) with nv:=updV p.nv i (s,(d.length:Int),placesI p.fr (needN d)) }:Pln) with ws:=(p.mid us d (needN d)).ws ++ [((i:Int),enc s d.length (p.fr.take (needN d)))] }:Pln)=p.into i us s d:=rfl
theorem secOf_64 {b:List Nat} (h:b.length=64):secOf b=b:=by
 rw [secOf_short (by omega),h]
 have:zsec.drop 64=[]:=List.drop_of_length_le (by rw [zsec_len];omega)
 rw [this,List.append_nil]
end Go.Proofs.YtnedpkhehiijhaaGreat
