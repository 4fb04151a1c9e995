/- Words and laws for the statement, part 8. -/
import Derived.Deep.RegionLaw
import Derived.Deep.DrawnRows
import Derived.Test.YtnedpkhehiijhaaGreatChecked
import Derived.WalkKit
import Derived.WalkSpells
import Derived.WalkLawsBesides
import Derived.Outline
import Derived.BigQuiet
import Derived.Deep.QuietTactic
import Derived.IntWalk
import Derived.Laws.IdiomStrings
import Derived.Laws.BytesArg
import Derived.Lib.Strings
import Derived.Test.YtnedpkhehiijhaaGreatQ01
import Derived.Test.YtnedpkhehiijhaaGreatQ02
import Derived.Test.YtnedpkhehiijhaaGreatQ05
import Derived.Test.YtnedpkhehiijhaaGreatQ06
import Derived.Test.YtnedpkhehiijhaaGreatQ07
namespace Go.Proofs.YtnedpkhehiijhaaGreat
open Go.RowKit Go.Shelf
set_option linter.unusedVariables false
set_option linter.unusedSimpArgs false
section
variable {w:World} {F:Nat→Prop} {gd:Nat} {s:Dk}
set_option maxRecDepth 100000 in
set_option maxHeartbeats 4000000 in
theorem open_down (h:Disk w F gd s) (hdn:s.down=true) :
  Calls Tryz.prog 33 #[.pointer (some ⟨gd,0,none⟩)] w fun e w'=>e = .returned (.int .i64 6)∧DJ w F gd s w':=by
 obtain ⟨F',hF'⟩:∃ F',F'=fun k=>F k∧k<w.heap.size:=⟨_,rfl⟩
 have hl:=h.low
 rw [←hF'] at hl
 have hFF:∀ k,F' k→F k∧k<w.heap.size:=fun k hk=>by rw [hF'] at hk;exact hk
 have hb1:Below w.heap.size w ((w.alloc (.cells #[.pointer (some ⟨gd,0,none⟩)] 23)).alloc (.cells #[.int .i64 0] 28)):=((Below.refl _ _).alloc (Nat.le_refl _) _).alloc (by simp) _
 have hbx:=(Holds.fresh w 23 #[.pointer (some ⟨gd,0,none⟩)]).alloc (.cells #[.int .i64 0] 28)
 have hrs:=Holds.fresh (w.alloc (.cells #[.pointer (some ⟨gd,0,none⟩)] 23)) 28 #[.int .i64 0]
 rw [show (w.alloc (.cells #[.pointer (some ⟨gd,0,none⟩)] 23)).heap.size=w.heap.size+1 by simp] at hrs
 have hsz:((w.alloc (.cells #[.pointer (some ⟨gd,0,none⟩)] 23)).alloc (.cells #[.int .i64 0] 28)).heap.size=w.heap.size+2:=by simp
 have hd1:Disk ((w.alloc (.cells #[.pointer (some ⟨gd,0,none⟩)] 23)).alloc (.cells #[.int .i64 0] 28)) F' gd s:=(hl.keep (Only.of_below (F:=fun _=>False) hb1) (fun _ _ e=>e))
 have z0:=hbx.cell 0
 obtain ⟨V,hV⟩:∃ V,V=((w.alloc (.cells #[.pointer (some ⟨gd,0,none⟩)] 23)).alloc (.cells #[.int .i64 0] 28)):=⟨_,rfl⟩
 rw [←hV] at hb1 hbx hrs hsz hd1
 have HV:=Lib.hid hV
 have HST:=Lib.hid (DJ.start hd1)
 have HBX:Hid (∀ (s':Dk) (W:World),DJ V F' gd s' W→W.cell? ⟨w.heap.size,0,none⟩=some (.pointer (some ⟨gd,0,none⟩))∧W.cell? ⟨w.heap.size+1,0,none⟩=some (.int .i64 0)∧W.frozen? ⟨w.heap.size+1,0,none⟩=false):=Lib.hid fun s' W hW=>by
  have k:∀ g,g=w.heap.size∨g=w.heap.size+1→W.heap[g]?=V.heap[g]?:=fun g hg=>hW.2.block g (by omega) fun hF=>by have:=(hFF g hF).2;omega
  have b1:Holds W w.heap.size 23 #[.pointer (some ⟨gd,0,none⟩)]:=(k _ (.inl rfl)).trans hbx
  have b2:Holds W (w.heap.size+1) 28 #[.int .i64 0]:=(k _ (.inr rfl)).trans hrs
  exact ⟨b1.cell 0,b2.cell 0,b2.open_ 0⟩
 have HSET:Hid (∀ (s':Dk) (W:World) (v:Value),DJ V F' gd s' W→DJr V F' (w.heap.size+1) gd s' (W.setCell ⟨w.heap.size+1,0,none⟩ v)):=Lib.hid fun s' W v hW=>by
  have hn:∀ k,grow F' V W k→k≠w.heap.size+1:=fun k hk e=>by
   subst e
   rcases hk with hk | hk
   ·have:=(hFF _ hk).2;omega
   ·omega
  have ho:Only (fun k=>k=w.heap.size+1) W (W.setCell ⟨w.heap.size+1,0,none⟩ v):=(Only.refl (fun k=>k=w.heap.size+1) W).setCell (p:=⟨w.heap.size+1,0,none⟩) (.inl rfl) v
  refine ⟨(hW.1.keep ho fun k a b=>hn k a b).more fun k hk=>?_,(hW.2.more fun k _ hk=>.inl hk).setCell (.inl (.inr rfl)) v⟩
  have h2:=ho.size
  rcases hk with hk | hk
  ·exact .inl hk
  ·exact .inr ⟨hk.1,by omega⟩
 have HOUT:Hid (∀ (s':Dk) (W:World),DJr V F' (w.heap.size+1) gd s' W→DJ w F gd s' W):=Lib.hid fun s' W hW=>by
  refine ⟨hW.1.more fun k hk=>?_,(Only.of_below (F:=F) hb1).trans hW.2 fun k hk hF=>by rcases hF with hF | hF;exact (hFF k hF).1;omega⟩
  rcases hk with hk | hk
  ·exact .inl (hFF k hk).1
  ·exact .inr ⟨by omega,hk.2⟩
 have HFIN:Hid (∀ (s':Dk) (W:World) (v:Value),DJ V F' gd s' W→DJ w F gd s' (W.setCell ⟨w.heap.size+1,0,none⟩ v)):=Lib.hid fun s' W v hW=>HOUT.out _ _ (HSET.out s' W v hW)
 have HDN:=Lib.hid (disk_down hd1)
 rw [hdn] at HDN
 have HM:=Lib.hid (jmany hd1)
 have HRD:=Lib.hid fun (W:World) (hW:DJ V F' gd s W) (i:Int)=>disk_read hW.1 i
 clear h hl hF' hb1 hbx hrs hd1 hV hFF hsz hdn
 generalize s.many=m at *
 obtain ⟨_,k1,k2⟩:=HBX.out _ _ HST.out
 go_enter Tryz.func33,Tryz.ntmps33
 go_wp2_with fail
 rw [←HV.out]
 refine HDN.out.mono ?_
 rintro e w1 ⟨rfl,rfl⟩
 obtain ⟨_,k1,k2⟩:=HBX.out _ _ HST.out
 have hc:=World.cell?_setCell_same' V ⟨w.heap.size+1,0,none⟩ (.int .i64 6) (by rw [k1];rfl)
 go_wp2_with fail
 exact bodyPost_ret (v:=.int .i64 6) (by simp [results,Tryz.results33,go_sem,hc]) rfl ⟨rfl,HFIN.out _ _ _ HST.out⟩
set_option maxRecDepth 100000 in
set_option maxHeartbeats 4000000 in
theorem open_small (h:Disk w F gd s) (hdn:s.down=false) (hm:s.many=0) :
  Calls Tryz.prog 33 #[.pointer (some ⟨gd,0,none⟩)] w fun e w'=>e = .returned (.int .i64 13)∧DJ w F gd s w':=by
 obtain ⟨F',hF'⟩:∃ F',F'=fun k=>F k∧k<w.heap.size:=⟨_,rfl⟩
 have hl:=h.low
 rw [←hF'] at hl
 have hFF:∀ k,F' k→F k∧k<w.heap.size:=fun k hk=>by rw [hF'] at hk;exact hk
 have hb1:Below w.heap.size w ((w.alloc (.cells #[.pointer (some ⟨gd,0,none⟩)] 23)).alloc (.cells #[.int .i64 0] 28)):=((Below.refl _ _).alloc (Nat.le_refl _) _).alloc (by simp) _
 have hbx:=(Holds.fresh w 23 #[.pointer (some ⟨gd,0,none⟩)]).alloc (.cells #[.int .i64 0] 28)
 have hrs:=Holds.fresh (w.alloc (.cells #[.pointer (some ⟨gd,0,none⟩)] 23)) 28 #[.int .i64 0]
 rw [show (w.alloc (.cells #[.pointer (some ⟨gd,0,none⟩)] 23)).heap.size=w.heap.size+1 by simp] at hrs
 have hsz:((w.alloc (.cells #[.pointer (some ⟨gd,0,none⟩)] 23)).alloc (.cells #[.int .i64 0] 28)).heap.size=w.heap.size+2:=by simp
 have hd1:Disk ((w.alloc (.cells #[.pointer (some ⟨gd,0,none⟩)] 23)).alloc (.cells #[.int .i64 0] 28)) F' gd s:=(hl.keep (Only.of_below (F:=fun _=>False) hb1) (fun _ _ e=>e))
 have z0:=hbx.cell 0
 obtain ⟨V,hV⟩:∃ V,V=((w.alloc (.cells #[.pointer (some ⟨gd,0,none⟩)] 23)).alloc (.cells #[.int .i64 0] 28)):=⟨_,rfl⟩
 rw [←hV] at hb1 hbx hrs hsz hd1
 have HV:=Lib.hid hV
 have HST:=Lib.hid (DJ.start hd1)
 have HBX:Hid (∀ (s':Dk) (W:World),DJ V F' gd s' W→W.cell? ⟨w.heap.size,0,none⟩=some (.pointer (some ⟨gd,0,none⟩))∧W.cell? ⟨w.heap.size+1,0,none⟩=some (.int .i64 0)∧W.frozen? ⟨w.heap.size+1,0,none⟩=false):=Lib.hid fun s' W hW=>by
  have k:∀ g,g=w.heap.size∨g=w.heap.size+1→W.heap[g]?=V.heap[g]?:=fun g hg=>hW.2.block g (by omega) fun hF=>by have:=(hFF g hF).2;omega
  have b1:Holds W w.heap.size 23 #[.pointer (some ⟨gd,0,none⟩)]:=(k _ (.inl rfl)).trans hbx
  have b2:Holds W (w.heap.size+1) 28 #[.int .i64 0]:=(k _ (.inr rfl)).trans hrs
  exact ⟨b1.cell 0,b2.cell 0,b2.open_ 0⟩
 have HSET:Hid (∀ (s':Dk) (W:World) (v:Value),DJ V F' gd s' W→DJr V F' (w.heap.size+1) gd s' (W.setCell ⟨w.heap.size+1,0,none⟩ v)):=Lib.hid fun s' W v hW=>by
  have hn:∀ k,grow F' V W k→k≠w.heap.size+1:=fun k hk e=>by
   subst e
   rcases hk with hk | hk
   ·have:=(hFF _ hk).2;omega
   ·omega
  have ho:Only (fun k=>k=w.heap.size+1) W (W.setCell ⟨w.heap.size+1,0,none⟩ v):=(Only.refl (fun k=>k=w.heap.size+1) W).setCell (p:=⟨w.heap.size+1,0,none⟩) (.inl rfl) v
  refine ⟨(hW.1.keep ho fun k a b=>hn k a b).more fun k hk=>?_,(hW.2.more fun k _ hk=>.inl hk).setCell (.inl (.inr rfl)) v⟩
  have h2:=ho.size
  rcases hk with hk | hk
  ·exact .inl hk
  ·exact .inr ⟨hk.1,by omega⟩
 have HOUT:Hid (∀ (s':Dk) (W:World),DJr V F' (w.heap.size+1) gd s' W→DJ w F gd s' W):=Lib.hid fun s' W hW=>by
  refine ⟨hW.1.more fun k hk=>?_,(Only.of_below (F:=F) hb1).trans hW.2 fun k hk hF=>by rcases hF with hF | hF;exact (hFF k hF).1;omega⟩
  rcases hk with hk | hk
  ·exact .inl (hFF k hk).1
  ·exact .inr ⟨by omega,hk.2⟩
 have HFIN:Hid (∀ (s':Dk) (W:World) (v:Value),DJ V F' gd s' W→DJ w F gd s' (W.setCell ⟨w.heap.size+1,0,none⟩ v)):=Lib.hid fun s' W v hW=>HOUT.out _ _ (HSET.out s' W v hW)
 have HDN:=Lib.hid (disk_down hd1)
 rw [hdn] at HDN
 have HM:=Lib.hid (jmany hd1)
 rw [hm] at HM
 have HRD:=Lib.hid fun (W:World) (hW:DJ V F' gd s W) (i:Int)=>disk_read hW.1 i
 clear h hl hF' hb1 hbx hrs hd1 hV hFF hsz hdn
 obtain ⟨_,k1,k2⟩:=HBX.out _ _ HST.out
 go_enter Tryz.func33,Tryz.ntmps33
 go_wp2_with fail
 rw [←HV.out]
 refine HDN.out.mono ?_
 rintro e w1 ⟨rfl,rfl⟩
 obtain ⟨k0,_,_⟩:=HBX.out _ _ HST.out
 go_wp2_with (first | (refine HM.out.mono ?_;rintro e w1 ⟨rfl,rfl⟩) | fail)
 obtain ⟨_,k1,k2⟩:=HBX.out _ _ HST.out
 have hc:=World.cell?_setCell_same' V ⟨w.heap.size+1,0,none⟩ (.int .i64 13) (by rw [k1];rfl)
 go_wp2_with fail
 exact bodyPost_ret (v:=.int .i64 13) (by simp [results,Tryz.results33,go_sem,hc]) rfl ⟨rfl,HFIN.out _ _ _ HST.out⟩
set_option maxRecDepth 100000 in
set_option maxHeartbeats 4000000 in
theorem open_alien (h:Disk w F gd s) (hdn:s.down=false) (hm:0<s.many) (h0:s.read 0≠apstB) (h64:(s.read 0).length=64) (hoc:Oct1 (s.read 0)) :
  Calls Tryz.prog 33 #[.pointer (some ⟨gd,0,none⟩)] w fun e w'=>e = .returned (.int .i64 13)∧DJ w F gd s w':=by
 obtain ⟨F',hF'⟩:∃ F',F'=fun k=>F k∧k<w.heap.size:=⟨_,rfl⟩
 have hl:=h.low
 rw [←hF'] at hl
 have hFF:∀ k,F' k→F k∧k<w.heap.size:=fun k hk=>by rw [hF'] at hk;exact hk
 have hb1:Below w.heap.size w ((w.alloc (.cells #[.pointer (some ⟨gd,0,none⟩)] 23)).alloc (.cells #[.int .i64 0] 28)):=((Below.refl _ _).alloc (Nat.le_refl _) _).alloc (by simp) _
 have hbx:=(Holds.fresh w 23 #[.pointer (some ⟨gd,0,none⟩)]).alloc (.cells #[.int .i64 0] 28)
 have hrs:=Holds.fresh (w.alloc (.cells #[.pointer (some ⟨gd,0,none⟩)] 23)) 28 #[.int .i64 0]
 rw [show (w.alloc (.cells #[.pointer (some ⟨gd,0,none⟩)] 23)).heap.size=w.heap.size+1 by simp] at hrs
 have hsz:((w.alloc (.cells #[.pointer (some ⟨gd,0,none⟩)] 23)).alloc (.cells #[.int .i64 0] 28)).heap.size=w.heap.size+2:=by simp
 have hd1:Disk ((w.alloc (.cells #[.pointer (some ⟨gd,0,none⟩)] 23)).alloc (.cells #[.int .i64 0] 28)) F' gd s:=(hl.keep (Only.of_below (F:=fun _=>False) hb1) (fun _ _ e=>e))
 have z0:=hbx.cell 0
 obtain ⟨V,hV⟩:∃ V,V=((w.alloc (.cells #[.pointer (some ⟨gd,0,none⟩)] 23)).alloc (.cells #[.int .i64 0] 28)):=⟨_,rfl⟩
 rw [←hV] at hb1 hbx hrs hsz hd1
 have HV:=Lib.hid hV
 have HST:=Lib.hid (DJ.start hd1)
 have HBX:Hid (∀ (s':Dk) (W:World),DJ V F' gd s' W→W.cell? ⟨w.heap.size,0,none⟩=some (.pointer (some ⟨gd,0,none⟩))∧W.cell? ⟨w.heap.size+1,0,none⟩=some (.int .i64 0)∧W.frozen? ⟨w.heap.size+1,0,none⟩=false):=Lib.hid fun s' W hW=>by
  have k:∀ g,g=w.heap.size∨g=w.heap.size+1→W.heap[g]?=V.heap[g]?:=fun g hg=>hW.2.block g (by omega) fun hF=>by have:=(hFF g hF).2;omega
  have b1:Holds W w.heap.size 23 #[.pointer (some ⟨gd,0,none⟩)]:=(k _ (.inl rfl)).trans hbx
  have b2:Holds W (w.heap.size+1) 28 #[.int .i64 0]:=(k _ (.inr rfl)).trans hrs
  exact ⟨b1.cell 0,b2.cell 0,b2.open_ 0⟩
 have HSET:Hid (∀ (s':Dk) (W:World) (v:Value),DJ V F' gd s' W→DJr V F' (w.heap.size+1) gd s' (W.setCell ⟨w.heap.size+1,0,none⟩ v)):=Lib.hid fun s' W v hW=>by
  have hn:∀ k,grow F' V W k→k≠w.heap.size+1:=fun k hk e=>by
   subst e
   rcases hk with hk | hk
   ·have:=(hFF _ hk).2;omega
   ·omega
  have ho:Only (fun k=>k=w.heap.size+1) W (W.setCell ⟨w.heap.size+1,0,none⟩ v):=(Only.refl (fun k=>k=w.heap.size+1) W).setCell (p:=⟨w.heap.size+1,0,none⟩) (.inl rfl) v
  refine ⟨(hW.1.keep ho fun k a b=>hn k a b).more fun k hk=>?_,(hW.2.more fun k _ hk=>.inl hk).setCell (.inl (.inr rfl)) v⟩
  have h2:=ho.size
  rcases hk with hk | hk
  ·exact .inl hk
  ·exact .inr ⟨hk.1,by omega⟩
 have HOUT:Hid (∀ (s':Dk) (W:World),DJr V F' (w.heap.size+1) gd s' W→DJ w F gd s' W):=Lib.hid fun s' W hW=>by
  refine ⟨hW.1.more fun k hk=>?_,(Only.of_below (F:=F) hb1).trans hW.2 fun k hk hF=>by rcases hF with hF | hF;exact (hFF k hF).1;omega⟩
  rcases hk with hk | hk
  ·exact .inl (hFF k hk).1
  ·exact .inr ⟨by omega,hk.2⟩
 have HFIN:Hid (∀ (s':Dk) (W:World) (v:Value),DJ V F' gd s' W→DJ w F gd s' (W.setCell ⟨w.heap.size+1,0,none⟩ v)):=Lib.hid fun s' W v hW=>HOUT.out _ _ (HSET.out s' W v hW)
 have HDN:=Lib.hid (disk_down hd1)
 rw [hdn] at HDN
 have HM:=Lib.hid (jmany hd1)
 have hmm:s.many≤2000:=by have:=h.len.2.2;unfold Dk.many;omega
 have HRD:=Lib.hid fun (W:World) (hW:DJ V F' gd s W) (i:Int)=>disk_read hW.1 i
 have HR0:=Lib.hid h0
 have HL0:=Lib.hid h64
 have HO0:=Lib.hid hoc
 clear h hl hF' hb1 hbx hrs hd1 hV hFF hsz hdn h0 h64 hoc
 have d0:((s.many:Int) == 0)=false:=by rw [beq_eq_false_iff_ne];omega
 generalize s.many=m at *
 obtain ⟨_,k1,k2⟩:=HBX.out _ _ HST.out
 go_enter Tryz.func33,Tryz.ntmps33
 go_wp2_with fail
 rw [←HV.out]
 refine HDN.out.mono ?_
 rintro e w1 ⟨rfl,rfl⟩
 obtain ⟨k0,_,_⟩:=HBX.out _ _ HST.out
 go_wp2_with (first | (refine HM.out.mono ?_;rintro e w1 ⟨rfl,rfl⟩) | fail)
 refine (HRD.out V HST.out 0).mono ?_
 rintro e w3 ⟨A3,n3,c3,rfl,hn3,hr3,hx3,hb3⟩
 clear hx3
 have HD3:=Lib.hid (HST.out.below hb3)
 obtain rfl:64=n3:=by rw [←hn3];exact HL0.out.symm
 have HR3:=Lib.hid hr3
 clear hn3 hr3 hb3 HV z0 k0
 go_wp2_with fail
 refine (headed_apst _).mono ?_
 rintro e w4 ⟨rfl,hr4,hb4⟩
 have HD4:=Lib.hid (HD3.out.below hb4)
 have HEQ:=Lib.hid (equalB w4 A3 (some ⟨w3.heap.size,0,none⟩) c3 64 64 64 (s.read 0) apstB HL0.out apst_len ((HR3.out.under hb4).more hb4.size) (Row.rd64 hr4 apst_len) HO0.out apst_oct)
 rw [decide_eq_false HR0.out] at HEQ
 clear hr4 hb4 HR3
 go_wp2_with fail
 refine HEQ.out.mono ?_
 rintro e w5 ⟨rfl,rfl⟩
 obtain ⟨_,k1,k2⟩:=HBX.out _ _ HD4.out
 have hc:=World.cell?_setCell_same' w4 ⟨w.heap.size+1,0,none⟩ (.int .i64 13) (by rw [k1];rfl)
 go_wp2_with fail
 exact bodyPost_ret (v:=.int .i64 13) (by simp [results,Tryz.results33,go_sem,hc]) rfl ⟨rfl,HFIN.out _ _ _ HD4.out⟩
set_option maxRecDepth 100000 in
set_option maxHeartbeats 4000000 in
theorem open_markless (h:Disk w F gd s) (hdn:s.down=false) (hm:0<s.many) (h0:s.read 0=apstB) (h1:begunN (s.read 1)=none) (h64:(s.read 1).length=64) (hoc:Oct1 (s.read 1)) :
  Calls Tryz.prog 33 #[.pointer (some ⟨gd,0,none⟩)] w fun e w'=>e = .returned (.int .i64 13)∧DJ w F gd s w':=by
 obtain ⟨F',hF'⟩:∃ F',F'=fun k=>F k∧k<w.heap.size:=⟨_,rfl⟩
 have hl:=h.low
 rw [←hF'] at hl
 have hFF:∀ k,F' k→F k∧k<w.heap.size:=fun k hk=>by rw [hF'] at hk;exact hk
 have hb1:Below w.heap.size w ((w.alloc (.cells #[.pointer (some ⟨gd,0,none⟩)] 23)).alloc (.cells #[.int .i64 0] 28)):=((Below.refl _ _).alloc (Nat.le_refl _) _).alloc (by simp) _
 have hbx:=(Holds.fresh w 23 #[.pointer (some ⟨gd,0,none⟩)]).alloc (.cells #[.int .i64 0] 28)
 have hrs:=Holds.fresh (w.alloc (.cells #[.pointer (some ⟨gd,0,none⟩)] 23)) 28 #[.int .i64 0]
 rw [show (w.alloc (.cells #[.pointer (some ⟨gd,0,none⟩)] 23)).heap.size=w.heap.size+1 by simp] at hrs
 have hsz:((w.alloc (.cells #[.pointer (some ⟨gd,0,none⟩)] 23)).alloc (.cells #[.int .i64 0] 28)).heap.size=w.heap.size+2:=by simp
 have hd1:Disk ((w.alloc (.cells #[.pointer (some ⟨gd,0,none⟩)] 23)).alloc (.cells #[.int .i64 0] 28)) F' gd s:=(hl.keep (Only.of_below (F:=fun _=>False) hb1) (fun _ _ e=>e))
 have z0:=hbx.cell 0
 obtain ⟨V,hV⟩:∃ V,V=((w.alloc (.cells #[.pointer (some ⟨gd,0,none⟩)] 23)).alloc (.cells #[.int .i64 0] 28)):=⟨_,rfl⟩
 rw [←hV] at hb1 hbx hrs hsz hd1
 have HV:=Lib.hid hV
 have HST:=Lib.hid (DJ.start hd1)
 have HBX:Hid (∀ (s':Dk) (W:World),DJ V F' gd s' W→W.cell? ⟨w.heap.size,0,none⟩=some (.pointer (some ⟨gd,0,none⟩))∧W.cell? ⟨w.heap.size+1,0,none⟩=some (.int .i64 0)∧W.frozen? ⟨w.heap.size+1,0,none⟩=false):=Lib.hid fun s' W hW=>by
  have k:∀ g,g=w.heap.size∨g=w.heap.size+1→W.heap[g]?=V.heap[g]?:=fun g hg=>hW.2.block g (by omega) fun hF=>by have:=(hFF g hF).2;omega
  have b1:Holds W w.heap.size 23 #[.pointer (some ⟨gd,0,none⟩)]:=(k _ (.inl rfl)).trans hbx
  have b2:Holds W (w.heap.size+1) 28 #[.int .i64 0]:=(k _ (.inr rfl)).trans hrs
  exact ⟨b1.cell 0,b2.cell 0,b2.open_ 0⟩
 have HSET:Hid (∀ (s':Dk) (W:World) (v:Value),DJ V F' gd s' W→DJr V F' (w.heap.size+1) gd s' (W.setCell ⟨w.heap.size+1,0,none⟩ v)):=Lib.hid fun s' W v hW=>by
  have hn:∀ k,grow F' V W k→k≠w.heap.size+1:=fun k hk e=>by
   subst e
   rcases hk with hk | hk
   ·have:=(hFF _ hk).2;omega
   ·omega
  have ho:Only (fun k=>k=w.heap.size+1) W (W.setCell ⟨w.heap.size+1,0,none⟩ v):=(Only.refl (fun k=>k=w.heap.size+1) W).setCell (p:=⟨w.heap.size+1,0,none⟩) (.inl rfl) v
  refine ⟨(hW.1.keep ho fun k a b=>hn k a b).more fun k hk=>?_,(hW.2.more fun k _ hk=>.inl hk).setCell (.inl (.inr rfl)) v⟩
  have h2:=ho.size
  rcases hk with hk | hk
  ·exact .inl hk
  ·exact .inr ⟨hk.1,by omega⟩
 have HOUT:Hid (∀ (s':Dk) (W:World),DJr V F' (w.heap.size+1) gd s' W→DJ w F gd s' W):=Lib.hid fun s' W hW=>by
  refine ⟨hW.1.more fun k hk=>?_,(Only.of_below (F:=F) hb1).trans hW.2 fun k hk hF=>by rcases hF with hF | hF;exact (hFF k hF).1;omega⟩
  rcases hk with hk | hk
  ·exact .inl (hFF k hk).1
  ·exact .inr ⟨by omega,hk.2⟩
 have HFIN:Hid (∀ (s':Dk) (W:World) (v:Value),DJ V F' gd s' W→DJ w F gd s' (W.setCell ⟨w.heap.size+1,0,none⟩ v)):=Lib.hid fun s' W v hW=>HOUT.out _ _ (HSET.out s' W v hW)
 have HDN:=Lib.hid (disk_down hd1)
 rw [hdn] at HDN
 have HM:=Lib.hid (jmany hd1)
 have hmm:s.many≤2000:=by have:=h.len.2.2;unfold Dk.many;omega
 have HRD:=Lib.hid fun (W:World) (hW:DJ V F' gd s W) (i:Int)=>disk_read hW.1 i
 have HR0:=Lib.hid h0
 have HR1:=Lib.hid h1
 have HL1:=Lib.hid h64
 have HO1:=Lib.hid hoc
 clear h hl hF' hb1 hbx hrs hd1 hV hFF hsz hdn h0 h1 h64 hoc
 have d0:((s.many:Int) == 0)=false:=by rw [beq_eq_false_iff_ne];omega
 generalize s.many=m at *
 obtain ⟨_,k1,k2⟩:=HBX.out _ _ HST.out
 go_enter Tryz.func33,Tryz.ntmps33
 go_wp2_with fail
 rw [←HV.out]
 refine HDN.out.mono ?_
 rintro e w1 ⟨rfl,rfl⟩
 obtain ⟨k0,_,_⟩:=HBX.out _ _ HST.out
 go_wp2_with (first | (refine HM.out.mono ?_;rintro e w1 ⟨rfl,rfl⟩) | fail)
 refine (HRD.out V HST.out 0).mono ?_
 rintro e w3 ⟨A3,n3,c3,rfl,hn3,hr3,hx3,hb3⟩
 clear hx3
 have HD3:=Lib.hid (HST.out.below hb3)
 rw [HR0.out] at hn3 hr3
 obtain rfl:64=n3:=by rw [←hn3];exact (apst_len).symm
 have HR3:=Lib.hid hr3
 clear hn3 hr3 hb3 HV z0 k0
 go_wp2_with fail
 refine (headed_apst _).mono ?_
 rintro e w4 ⟨rfl,hr4,hb4⟩
 have HD4:=Lib.hid (HD3.out.below hb4)
 have HEQ:=Lib.hid (equalB w4 A3 (some ⟨w3.heap.size,0,none⟩) c3 64 64 64 apstB apstB apst_len apst_len ((HR3.out.under hb4).more hb4.size) (Row.rd64 hr4 apst_len) apst_oct apst_oct)
 rw [decide_eq_true rfl] at HEQ
 clear hr4 hb4 HR3
 go_wp2_with fail
 refine HEQ.out.mono ?_
 rintro e w5 ⟨rfl,rfl⟩
 obtain ⟨k0,_,_⟩:=HBX.out _ _ HD4.out
 go_wp2_with fail
 refine (HRD.out w4 HD4.out 1).mono ?_
 rintro e w6 ⟨A6,n6,c6,rfl,hn6,hr6,hx6,hb6⟩
 clear hx6
 have HD6:=Lib.hid (HD4.out.below hb6)
 obtain rfl:64=n6:=by rw [←hn6];exact HL1.out.symm
 have HBG:=Lib.hid (begun_any w6 A6 c6 (s.read 1) HL1.out hr6 HO1.out)
 rw [HR1.out] at HBG
 clear hn6 hr6 hb6 k0
 go_wp2_with fail
 refine HBG.out.mono ?_
 rintro e w7 ⟨rfl,hb7⟩
 have HD7:=Lib.hid (HD6.out.below hb7)
 clear hb7 HBG
 obtain ⟨_,k1,k2⟩:=HBX.out _ _ HD7.out
 have hc:=World.cell?_setCell_same' w7 ⟨w.heap.size+1,0,none⟩ (.int .i64 13) (by rw [k1];rfl)
 go_wp2_with fail
 exact bodyPost_ret (v:=.int .i64 13) (by simp [results,Tryz.results33,go_sem,hc]) rfl ⟨rfl,HFIN.out _ _ _ HD7.out⟩
end
end Go.Proofs.YtnedpkhehiijhaaGreat
namespace Go.Proofs.YtnedpkhehiijhaaGreat
open Go.RowKit Go.Shelf
set_option linter.unusedVariables false
set_option linter.unusedSimpArgs false
section
variable {V W W':World} {B:Nat} {A:Option Addr} {c:Nat} {l:List Wr}
/-- Whatever turns that is no block of the row, nor of what it tells, nor below V. -/
theorem Wrs.turns (h:Wrs V W B A c l) (hs:W.heap.size≤W'.heap.size) (ho:W'.os=W.os) (ht:W'.tape=W.tape) (hp:W'.output=W.output) (hk:∀ g,g<W.heap.size→(g<V.heap.size∨B≤g∨blockOf A=some g)→(∃ o:Obj,W.heap[g]?=some o∧o.isCells=true)∨g<V.heap.size→W'.heap[g]?=W.heap[g]?):Wrs V W' B A c l:=by
 have hc:∀ (b o:Nat) (v:Value),W.cell? ⟨b,o,none⟩=some v→∃ x:Obj,W.heap[b]?=some x∧x.isCells=true:=fun b o v e=>cells_of e
 refine ⟨h.own.keep fun g hg hlt=>?_,fun x hx=>⟨⟨(h.dat x hx).1.1,(h.dat x hx).1.2.1,fun hn=>?_⟩,fun b o e=>?_⟩,h.blk,⟨ho.trans h.bel.os,ht.trans h.bel.tape,hp.trans h.bel.output,Nat.le_trans h.bel.size hs,fun g hg=>(hk g (Nat.lt_of_lt_of_le hg h.bel.size) (.inl hg) (.inr hg)).trans (h.bel.block g hg)⟩⟩
 ·rcases h.own.2 with ⟨hv,_⟩ | ⟨g',cap,cur,hv,_,hgg,_⟩
  ·injection hv with hv
   rw [hv] at hg
   simp [blockOf] at hg
  ·injection hv with hv
   rw [hv] at hg
   obtain rfl:g'=g:=by simpa [blockOf] using hg
   exact hk g' hlt (.inr (.inr (by rw [hv];rfl))) (.inl ⟨_,hgg,rfl⟩)
 ·obtain ⟨b,off,e,hlt,hcell⟩:=(h.dat x hx).1.2.2 hn
  have hb:=hk b hlt (.inr (.inl ((h.dat x hx).2 b off e).1)) (.inl (hc _ _ _ (hcell 0 hn)))
  exact ⟨b,off,e,Nat.lt_of_lt_of_le hlt hs,fun j hj=>(cell_same hb _).trans (hcell j hj)⟩
 ·have:=(h.dat x hx).2 b o e
  exact ⟨this.1,Nat.lt_of_lt_of_le this.2.1 hs,this.2.2⟩
/-- A store aside of it. -/
theorem Wrs.aside {g i:Nat} {v:Value} (h:Wrs V W B A c l) (hV:V.heap.size≤g) (hB:g<B) (hA:blockOf A≠some g):Wrs V (W.setCell ⟨g,i,none⟩ v) B A c l :=
 h.turns (by simp [World.setCell]) rfl rfl rfl fun k _ hk _=>Below.heap_setCell W ⟨g,i,none⟩ v k (by
  rintro rfl
  rcases hk with hk | hk | hk
  ·omega
  ·omega
  ·exact hA hk)
end
theorem KpG.turn {w W W':World} {G:Nat→Prop} {row:Option Nat} (h:KpG w G w W) (hg:W.grownBy W' row) (hr:∀ q,row=some q→w.heap.size≤q):KpG w G w W' :=
 ⟨Nat.le_trans h.1 hg.size,fun g hlt hG=>(hg.block g (Nat.lt_of_lt_of_le hlt h.1) fun e=>by have:=hr g e.symm;omega).trans (h.2 g hlt hG)⟩
theorem KpG.store {w W:World} {G:Nat→Prop} {g i:Nat} {v:Value} (h:KpG w G w W) (hG:G g∨w.heap.size≤g):KpG w G w (W.setCell ⟨g,i,none⟩ v) :=
 ⟨by simpa [World.setCell] using h.1,fun k hlt hk=>(Below.heap_setCell W ⟨g,i,none⟩ v k (by
  rintro rfl
  rcases hG with hG | hG
  ·exact hk hG
  ·omega)).trans (h.2 k hlt hk)⟩
end Go.Proofs.YtnedpkhehiijhaaGreat
namespace Go.Proofs.YtnedpkhehiijhaaGreat
open Go.RowKit Go.Shelf
set_option linter.unusedVariables false
set_option linter.unusedSimpArgs false

/-- So far: l's block lb holds a row of just what was told; all places are places. w7: ahead of l; w9: as the range begins. -/
def OpI (w7 w9:World) (lb m:Nat) (pre:List Wr) (W:World):Prop :=
 KpG w9 (fun g=>g=lb) w9 W∧(∀ x∈pre,x.at_<(m:Int))∧∃ A c,Holds W lb 97 #[.slice A pre.length c]∧Wrs w7 W w9.heap.size A c pre∧∀ g,blockOf A=some g→w9.heap.size≤g
/-- A place is none: the answer is stored. -/
def OpX (w7:World) (rb m:Nat) (c:Code) (pre:List Wr) (W:World):Prop :=
 c = .ret∧Only (fun g=>g=rb) w7 W∧Holds W rb 28 #[.int .i64 13]∧∃ x∈pre,(m:Int)≤x.at_
theorem Holds.turn {W W':World} {g:Nat} {t:TypeId} {cs:Array Value} {row:Option Nat} (h:Holds W g t cs) (hg:W.grownBy W' row) (hr:∀ q,row=some q→∃ o:Obj,W.heap[q]?=some o∧o.isCells=false):Holds W' g t cs :=
 (hg.block g h.lt fun e=>by
  obtain ⟨o,ho,hc⟩:=hr g e.symm
  have h':W.heap[g]?=some (.cells cs t (0,0)):=h
  rw [h'] at ho
  injection ho with ho
  rw [←ho] at hc
  cases hc).trans h
theorem opI_own {w7 w9:World} {lb m B:Nat} (h79:w7.heap.size≤w9.heap.size) (hB:w9.heap.size≤B):OwnFrom B (OpI w7 w9 lb m):=fun pre W W' row hs hg hr=>by
 obtain ⟨hk,hp,A,c,hh,hw,ha⟩:=hs
 refine ⟨hk.turn hg fun q e=>Nat.le_trans hB (hr q e).1,hp,A,c,hh.turn hg fun q e=>(hr q e).2,hw.turns hg.size hg.os hg.tape hg.output fun g hlt _ h2=>hg.block g hlt fun e=>?_,ha⟩
 obtain ⟨h3,o,ho,hc⟩:=hr g e.symm
 rcases h2 with ⟨x,hx,hxc⟩ | h2
 ·rw [hx] at ho
  injection ho with ho
  rw [ho,hc] at hxc
  cases hxc
 ·omega
theorem opX_own {w7:World} {rb m B:Nat} (hB:w7.heap.size≤B) (c:Code):OwnFrom B (OpX w7 rb m c):=fun pre W W' row hs hg hr=>by
 obtain ⟨hc,hk,hh,hx⟩:=hs
 exact ⟨hc,hk.grown hg fun q e=>.inr (Nat.le_trans hB (hr q e).1),hh.turn hg fun q e=>(hr q e).2,hx⟩
theorem kpG_put {w:World} {G:Nat→Prop} (W:World) (l:Nat) (o o':Obj) (hl:w.heap.size≤l) (h:W.heap[l]?=some o) (_:o.isCells=false):KpG w G W (W.putObj l o') :=
 ⟨(grownBy_putObj' W l o').size,fun g hg _=>World.putObj_heap_other (by omega)⟩
theorem tlM_put {w:World} (x:Wr) (W:World) (l:Nat) (o o':Obj) (hm:TlM w x W) (_:w.heap.size≤l) (h:W.heap[l]?=some o) (hc:o.isCells=false):TlM w x (W.putObj l o'):=by
 refine ⟨⟨hm.1.1,hm.1.2.1,fun hn=>?_⟩,hm.2.1,?_⟩
 rotate_left 1
 ·obtain ⟨b,e,hb,hrow⟩:=hm.2.2
  refine ⟨b,e,hb,(World.putObj_heap_other fun e2=>?_).trans hrow⟩
  have h':W.heap[b]?=some (.cells (vals .u8 x.d).toArray 5 (0,0)):=hrow
  rw [e2,h] at h'
  injection h' with h'
  rw [h'] at hc
  cases hc
 obtain ⟨b,off,e,hlt,hcell⟩:=hm.1.2.2 hn
 have hne:b≠l:=fun e=>by
  subst e
  obtain ⟨y,hy,hyc⟩:=cells_of (hcell 0 hn)
  rw [h] at hy
  injection hy with hy
  rw [hy,hyc] at hc
  cases hc
 exact ⟨b,off,e,Nat.lt_of_lt_of_le hlt (grownBy_putObj' W l o').size,fun j hj=>(cell_same (World.putObj_heap_other hne) _).trans (hcell j hj)⟩
end Go.Proofs.YtnedpkhehiijhaaGreat
namespace Go.Proofs.YtnedpkhehiijhaaGreat
open Go.RowKit Go.Shelf
set_option linter.unusedVariables false
set_option linter.unusedSimpArgs false
theorem opIn_pushV {F:Fence} {n0:Nat} {P:Program} (w:World) {o:Oper} {a:Act} {K:Act→World→Prop} {Q:Exit→Act→World→Prop} (s x:Operand) (t:TypeId)
  (ho:o.op = .call { callee:=.builtin .append,args:=#[s,x],argTypes:=#[t,t] }) (e:TypeId) (z:Value) (sz by_:Nat) (ht:P.underlying t=some (.slice e)) (hi:(P.info? e).map (fun i=>(i.zero,i.size,i.bytes))=some (some z,sz,by_)) (hz:z.cells.size=sz) (hsz0:0<sz) (hby:by_≤100)
  {A:Option Addr} {n c:Nat} {vs:List Value} (hs:a.eval s = .slice A n c) (hw:OwnV e sz w A c n vs)
  {g c2:Nat} {cs:List Value} (hx:a.eval x = .slice (some ⟨g,0,none⟩) 1 c2) (hl:cs.length=sz) (h1:∀ u∈cs,u.oneCell'=true) (hg:Holds w g e cs.toArray) (hn:n≤100000)
  (hK:∀ g' c' w',OwnV e sz w' (some ⟨g',0,none⟩) c' (n+1) (vs ++ cs)→w.grownBy w' (blockOf A)→(blockOf A=some g'∨g'=w.heap.size)→g' < w'.heap.size→K (a.put o.dst (.slice (some ⟨g',0,none⟩) (n+1) c')) w') :
  Oper.wpIn F n0 P o a w K Q:=by
 obtain ⟨i,hi',hz',hsize,hbytes⟩:=info_parts hi
 obtain ⟨g',cap,w',hrun,hown',hgr,hat,hlt⟩:=run_append_lies (P:=P) (w:=w) t o.type 0 e i z sz by_ ht hi' hz' hsize hbytes hz hsz0 (.slice A n c) n vs hw ⟨g,0,none⟩ 1 c2 cs (by omega)
  (fun j u hu=>World.news_of_block (cs:=cs.toArray) hg j u (by simpa using hu)) h1 (by omega) (by unfold maxLen;omega) (Nat.le_trans (Nat.mul_le_mul (show n+1≤100001 by omega) hby) (by omega)) (Nat.zero_le _) w.heap.size rfl
 rw [ownBlock_eq] at hgr hat
 unfold Oper.wpIn
 refine ⟨?_,?_⟩
 ·simp [Oper.about,ho,resolve,Target.leads,Sem.run_pure]
 ·rw [Oper.semAt_plain F _ _ (by rw [ho];intro c hc';cases hc')]
  simp [execOp,ho,resolve,invoke,builtin,hs,hx,hrun,Result.andThen]
  exact hK g' cap w' hown' hgr hat hlt
end Go.Proofs.YtnedpkhehiijhaaGreat
namespace Go.Proofs.YtnedpkhehiijhaaGreat
open Go.RowKit Go.Shelf
set_option linter.unusedVariables false
set_option linter.unusedSimpArgs false
attribute [local go_sem] Oper.semAt_some
section
variable {w:World} {F:Nat→Prop} {gd:Nat} {s:Dk}
set_option maxRecDepth 100000 in
set_option maxHeartbeats 4000000 in
theorem open_many (h:Disk w F gd s) {n:Nat} (hdn:s.down=false) (hm:0<s.many) (h0:s.read 0=apstB) (h1:begunN (s.read 1)=some n) (hn1:1≤n) (hn2:n≤150) (hoc:∀ i:Nat,Oct1 (s.read (i:Int))) (hwl:s.waits.length≤70000) (hops:s.ops≤700000000) :
  Calls Tryz.prog 33 #[.pointer (some ⟨gd,0,none⟩)] w fun e w'=>e = .returned (.int .i64 ((s.open_).2:Nat))∧DJ w F gd (s.open_).1 w':=by
 obtain ⟨F',hF'⟩:∃ F',F'=fun k=>F k∧k<w.heap.size:=⟨_,rfl⟩
 have hl:=h.low
 rw [←hF'] at hl
 have hFF:∀ k,F' k→F k∧k<w.heap.size:=fun k hk=>by rw [hF'] at hk;exact hk
 have hb1:Below w.heap.size w ((w.alloc (.cells #[.pointer (some ⟨gd,0,none⟩)] 23)).alloc (.cells #[.int .i64 0] 28)):=((Below.refl _ _).alloc (Nat.le_refl _) _).alloc (by simp) _
 have hbx:=(Holds.fresh w 23 #[.pointer (some ⟨gd,0,none⟩)]).alloc (.cells #[.int .i64 0] 28)
 have hrs:=Holds.fresh (w.alloc (.cells #[.pointer (some ⟨gd,0,none⟩)] 23)) 28 #[.int .i64 0]
 rw [show (w.alloc (.cells #[.pointer (some ⟨gd,0,none⟩)] 23)).heap.size=w.heap.size+1 by simp] at hrs
 have hsz:((w.alloc (.cells #[.pointer (some ⟨gd,0,none⟩)] 23)).alloc (.cells #[.int .i64 0] 28)).heap.size=w.heap.size+2:=by simp
 have hd1:Disk ((w.alloc (.cells #[.pointer (some ⟨gd,0,none⟩)] 23)).alloc (.cells #[.int .i64 0] 28)) F' gd s:=(hl.keep (Only.of_below (F:=fun _=>False) hb1) (fun _ _ e=>e))
 have z0:=hbx.cell 0
 obtain ⟨V,hV⟩:∃ V,V=((w.alloc (.cells #[.pointer (some ⟨gd,0,none⟩)] 23)).alloc (.cells #[.int .i64 0] 28)):=⟨_,rfl⟩
 rw [←hV] at hb1 hbx hrs hsz hd1
 have HV:=Lib.hid hV
 have HST:=Lib.hid (DJ.start hd1)
 have HBX:Hid (∀ (s':Dk) (W:World),DJ V F' gd s' W→W.cell? ⟨w.heap.size,0,none⟩=some (.pointer (some ⟨gd,0,none⟩))∧W.cell? ⟨w.heap.size+1,0,none⟩=some (.int .i64 0)∧W.frozen? ⟨w.heap.size+1,0,none⟩=false):=Lib.hid fun s' W hW=>by
  have k:∀ g,g=w.heap.size∨g=w.heap.size+1→W.heap[g]?=V.heap[g]?:=fun g hg=>hW.2.block g (by omega) fun hF=>by have:=(hFF g hF).2;omega
  have b1:Holds W w.heap.size 23 #[.pointer (some ⟨gd,0,none⟩)]:=(k _ (.inl rfl)).trans hbx
  have b2:Holds W (w.heap.size+1) 28 #[.int .i64 0]:=(k _ (.inr rfl)).trans hrs
  exact ⟨b1.cell 0,b2.cell 0,b2.open_ 0⟩
 have HSET:Hid (∀ (s':Dk) (W:World) (v:Value),DJ V F' gd s' W→DJr V F' (w.heap.size+1) gd s' (W.setCell ⟨w.heap.size+1,0,none⟩ v)):=Lib.hid fun s' W v hW=>by
  have hn:∀ k,grow F' V W k→k≠w.heap.size+1:=fun k hk e=>by
   subst e
   rcases hk with hk | hk
   ·have:=(hFF _ hk).2;omega
   ·omega
  have ho:Only (fun k=>k=w.heap.size+1) W (W.setCell ⟨w.heap.size+1,0,none⟩ v):=(Only.refl (fun k=>k=w.heap.size+1) W).setCell (p:=⟨w.heap.size+1,0,none⟩) (.inl rfl) v
  refine ⟨(hW.1.keep ho fun k a b=>hn k a b).more fun k hk=>?_,(hW.2.more fun k _ hk=>.inl hk).setCell (.inl (.inr rfl)) v⟩
  have h2:=ho.size
  rcases hk with hk | hk
  ·exact .inl hk
  ·exact .inr ⟨hk.1,by omega⟩
 have HOUT:Hid (∀ (s':Dk) (W:World),DJr V F' (w.heap.size+1) gd s' W→DJ w F gd s' W):=Lib.hid fun s' W hW=>by
  refine ⟨hW.1.more fun k hk=>?_,(Only.of_below (F:=F) hb1).trans hW.2 fun k hk hF=>by rcases hF with hF | hF;exact (hFF k hF).1;omega⟩
  rcases hk with hk | hk
  ·exact .inl (hFF k hk).1
  ·exact .inr ⟨by omega,hk.2⟩
 have HFIN:Hid (∀ (s':Dk) (W:World) (v:Value),DJ V F' gd s' W→DJ w F gd s' (W.setCell ⟨w.heap.size+1,0,none⟩ v)):=Lib.hid fun s' W v hW=>HOUT.out _ _ (HSET.out s' W v hW)
 have HDN:=Lib.hid (disk_down hd1)
 rw [hdn] at HDN
 have HM:=Lib.hid (jmany hd1)
 have hmm:s.many≤2000:=by have:=h.len.2.2;unfold Dk.many;omega
 have HRD:=Lib.hid fun (W:World) (hW:DJ V F' gd s W) (i:Int)=>disk_read hW.1 i
 obtain ⟨r,hr0⟩:∃ r,r=s.open_:=⟨_,rfl⟩
 rw [←hr0]
 have HRR:Hid (r=if ∀ p∈s.told n,p.1<(s.many:Int) then s.fin (s.told n) else (s,13)):=Lib.hid (by
  rw [hr0]
  unfold Dk.open_
  rw [if_neg (by rw [hdn];decide),if_neg (by rw [h0];simp;omega),h1]
  cases n with
  | zero=>omega
  | succ n=>rfl)
 have HR0:=Lib.hid h0
 have HR1:=Lib.hid h1
 have HL1:=Lib.hid (h.sect_read (i:=1) (by unfold Dk.many at hm;omega))
 have HO1:=Lib.hid (hoc 1)
 have HOC:=Lib.hid hoc
 have HMP:=Lib.hid hm
 have HBD:=Lib.hid (And.intro hwl hops)
 have HDV:=Lib.hid hd1
 have HRB:=Lib.hid hrs
 have HFL:Hid (∀ k,F' k→k<w.heap.size):=Lib.hid fun k hk=>(hFF k hk).2
 have HVS:Hid (V.heap.size=w.heap.size+2):=Lib.hid hsz
 clear h hl hF' hb1 hbx hrs hd1 hV hFF hsz hdn h0 h1 hoc hwl hops hr0
 have d0:((s.many:Int) == 0)=false:=by rw [beq_eq_false_iff_ne];omega
 obtain ⟨m,hmm2⟩:∃ m,m=s.many:=⟨_,rfl⟩
 have HMM:=Lib.hid hmm2
 rw [←hmm2] at HM d0 HRR hmm
 clear hmm2 hm
 obtain ⟨_,k1,k2⟩:=HBX.out _ _ HST.out
 have HBGZ:Hid ((1:Nat)≤n∧n≤150):=Lib.hid ⟨hn1,hn2⟩
 have x0:((n:Int) == 0)=false:=by rw [beq_eq_false_iff_ne];omega
 clear hn1 hn2
 refine (callsIn_wide (n:=3)).1 ?_
 refine callsIn_of_wp_marks Tryz.func33 rfl trivial ?_ rfl
 simp only [Tryz.ntmps33,List.size_toArray,List.length_cons,List.length_nil,Nat.reduceAdd,Nat.reduceSub,Array.replicate_succ,Array.replicate_zero,List.push_toArray,List.append_toArray,List.nil_append,List.cons_append]
 refine wpIn_wide.2 ?_
 go_wp2_with fail
 rw [←HV.out]
 refine HDN.out.mono ?_
 rintro e w1 ⟨rfl,rfl⟩
 obtain ⟨k0,_,_⟩:=HBX.out _ _ HST.out
 go_wp2_with (first | (refine HM.out.mono ?_;rintro e w1 ⟨rfl,rfl⟩) | fail)
 refine (HRD.out V HST.out 0).mono ?_
 rintro e w3 ⟨A3,n3,c3,rfl,hn3,hr3,hx3,hb3⟩
 clear hx3
 have HD3:=Lib.hid (HST.out.below hb3)
 have HE3:=Lib.hid hb3
 rw [HR0.out] at hn3 hr3
 obtain rfl:64=n3:=by rw [←hn3];exact (apst_len).symm
 have HR3:=Lib.hid hr3
 clear hn3 hr3 hb3 HV z0 k0
 go_wp2_with fail
 refine (headed_apst _).mono ?_
 rintro e w4 ⟨rfl,hr4,hb4⟩
 have HD4:=Lib.hid (HD3.out.below hb4)
 have HE4:=Lib.hid (HE3.out.trans (hb4.mono HE3.out.size))
 have HEQ:=Lib.hid (equalB w4 A3 (some ⟨w3.heap.size,0,none⟩) c3 64 64 64 apstB apstB apst_len apst_len ((HR3.out.under hb4).more hb4.size) (Row.rd64 hr4 apst_len) apst_oct apst_oct)
 rw [decide_eq_true rfl] at HEQ
 clear hr4 hb4 HR3
 go_wp2_with fail
 refine HEQ.out.mono ?_
 rintro e w5 ⟨rfl,rfl⟩
 obtain ⟨k0,_,_⟩:=HBX.out _ _ HD4.out
 go_wp2_with fail
 refine (HRD.out w4 HD4.out 1).mono ?_
 rintro e w6 ⟨A6,n6,c6,rfl,hn6,hr6,hx6,hb6⟩
 clear hx6
 have HD6:=Lib.hid (HD4.out.below hb6)
 have HE6:=Lib.hid (HE4.out.trans (hb6.mono HE4.out.size))
 obtain rfl:64=n6:=by rw [←hn6];exact HL1.out.symm
 have HBG:=Lib.hid (begun_any w6 A6 c6 (s.read 1) HL1.out hr6 HO1.out)
 rw [HR1.out] at HBG
 clear hn6 hr6 hb6 k0
 go_wp2_with fail
 refine HBG.out.mono ?_
 rintro e w7 ⟨rfl,hb7⟩
 have HD7:=Lib.hid (HD6.out.below hb7)
 have HE7:=Lib.hid (HE6.out.trans (hb7.mono HE6.out.size))
 clear hb7 HBG
 have hb8:Below w7.heap.size w7 (w7.alloc (.cells #[.slice none 0 0] 97)):=(Below.refl _ _).alloc (Nat.le_refl _) _
 have HD8:=Lib.hid (HD7.out.below hb8)
 have hl8:Holds (w7.alloc (.cells #[.slice none 0 0] 97)) w7.heap.size 97 #[.slice none 0 0]:=Holds.fresh _ _ _
 obtain ⟨w8,hw8⟩:∃ W,W=w7.alloc (.cells #[.slice none 0 0] 97):=⟨_,rfl⟩
 have HW8:=Lib.hid hw8
 rw [←hw8] at HD8 hl8
 have HL8:=Lib.hid hl8
 clear hw8 hb8 hl8
 have HTA:=Lib.hid (told_any w8 gd n)
 have k8:=(HBX.out _ _ HD8.out).1
 rw [HW8.out] at k8
 go_wp2_with fail
 rw [←HW8.out]
 refine HTA.out.mono ?_
 rintro e w9 ⟨rfl,hw9⟩
 have hs8:w8.heap.size=w7.heap.size+1:=by rw [HW8.out];simp
 have hb78:Below w7.heap.size w7 w8:=by rw [HW8.out];exact (Below.refl _ _).alloc (Nat.le_refl _) _
 have hb89:Below w8.heap.size w8 w9:=by rw [hw9];exact ((Below.refl _ _).alloc (Nat.le_refl _) _).alloc (by simp) _
 have hs9:w9.heap.size=w8.heap.size+2:=by rw [hw9];simp
 have hhd:Holds w9 w8.heap.size 23 #[.pointer (some ⟨gd,0,none⟩)]:=by rw [hw9];exact (Holds.fresh _ _ _).alloc _
 have hhn:Holds w9 (w8.heap.size+1) 3 #[.int .i64 (n:Int)]:=by
  rw [hw9]
  have:=Holds.fresh (w8.alloc (.cells #[.pointer (some ⟨gd,0,none⟩)] 23)) 3 #[.int .i64 (n:Int)]
  rwa [show (w8.alloc (.cells #[.pointer (some ⟨gd,0,none⟩)] 23)).heap.size=w8.heap.size+1 by simp] at this
 have hb79:Below w7.heap.size w7 w9:=hb78.trans (hb89.mono hb78.size)
 have hE9:Below V.heap.size V w9:=HE7.out.trans (hb79.mono HE7.out.size)
 have hd9:Disk w9 F' gd s:=HDV.out.keep (Only.of_below (F:=fun _=>False) hE9) (fun _ _ e=>e)
 have hl9:Holds w9 w7.heap.size 97 #[.slice none 0 0]:=HL8.out.under hb89 (by omega)
 have HST9:=Lib.hid (told_stops (G:=fun g=>g=w7.heap.size) hd9 (fun k hk e=>by have:=HFL.out k hk;have:=HVS.out;have:=HE7.out.size;omega) HOC.out HBGZ.out.2 HMP.out w8.heap.size (w8.heap.size+1) hhd hhn (fun e=>by have e':w8.heap.size=w7.heap.size:=e;omega) (fun e=>by have e':w8.heap.size+1=w7.heap.size:=e;omega))
 have h79:=Lib.hid hb79.size
 have HW9:=Lib.hid hw9
 have HE9:=Lib.hid hE9
 have HI0:Hid (OpI w7 w9 w7.heap.size m [] w9):=Lib.hid ⟨KpG.refl _ _ _,fun x hx=>(by cases hx),none,0,hl9,(Wrs.nil w7 w9.heap.size).under hb79,fun g hg=>by simp [blockOf] at hg⟩
 have HSZ:=Lib.hid (And.intro hs8 hs9)
 clear hw9 hs8 hs9 hb78 hb89 hhd hhn hb79 hE9 hd9 hl9 HTA
 go_wp2_with fail
 refine (wpIn_wide (n:=3)).1 ?_
 refine rangeFuncM rfl (by omega) (gf:=107) (lb:=#[.pointer (some ⟨w8.heap.size+1,0,none⟩),.pointer (some ⟨w8.heap.size,0,none⟩)]) rfl trivial (enters_of Tryz.func107 (by kernel_rfl) rfl) HST9.out (fun h k=>h.trans k) kpG_put tlM_put (fun _=>rfl)
  (OpI w7 w9 w7.heap.size m) (OpX w7 (w.heap.size+1) m) (opI_own h79.out (Nat.le_refl _)) (fun c=>opX_own h79.out c) HI0.out
  (fun x=>{ tmps:=#[.pointer (some ⟨gd,0,none⟩),.pointer (some ⟨w.heap.size,0,none⟩),.pointer (some ⟨w.heap.size+1,0,none⟩),.int .i64 (n:Int),.bool true,.pointer (some ⟨w7.heap.size,0,none⟩),.int .i64 x.at_,.slice x.da 64 x.dc,.pointer (some ⟨gd,0,none⟩),.bool false,.pointer (some ⟨gd,0,none⟩),.int .i64 (m:Int),.bool false,.bool false,.pointer (some ⟨gd,0,none⟩),.slice A3 64 c3,.slice (some ⟨w3.heap.size,0,none⟩) 64 64,.bool true,.bool false,.bool false,.tuple #[.int .i64 (n:Int),.bool true],.pointer (some ⟨gd,0,none⟩),.slice A6 64 c6,.tuple #[.int .i64 (n:Int),.bool true],.int .i64 (n:Int),.bool true,.bool true,.bool false,.int .i64 (n:Int),.bool false,.pointer (some ⟨gd,0,none⟩),.int .i64 (n:Int),.func (.func 107) #[] #[.pointer (some ⟨w8.heap.size+1,0,none⟩),.pointer (some ⟨w8.heap.size,0,none⟩)],.int .i64 x.at_,.slice x.da 64 x.dc,undef,undef,undef,undef,undef,undef,undef,undef,undef,undef,undef,undef,undef],defers:=[] }) ?assign ?body ?done ?stop
 case assign =>
  intro l x W K hK
  simp [tlv]
  gi_wp2
  exact hK
 case body =>
  rintro l pre x W ⟨hkp,hlt,A,c,hh,hw,ha⟩ hM hlen
  have hbV:Below V.heap.size V W:=HE7.out.trans (hw.bel.mono HE7.out.size)
  have hdW:Disk W F' gd s:=HDV.out.keep (Only.of_below (F:=fun _=>False) hbV) (fun _ _ e=>e)
  have hmw:=jmany hdW
  rw [←HMM.out] at hmw
  have HMW:=Lib.hid (callsIn_wide (n:=0).2 hmw)
  obtain ⟨k0,k1,k2⟩:=HBX.out _ _ (HST.out.below hbV)
  have hl0:=hh.cell 0
  by_cases hb:(m:Int)≤x.at_
  ·have dm:decide ((m:Int)≤x.at_)=true:=decide_eq_true hb
   gi_wp2_with (first | (refine ⟨trivial,(CallsIn.inRound l HMW.out).mono ?_⟩;rintro e w10 ⟨rfl,rfl⟩) | fail)
   have hrb:Holds (W.setCell ⟨w.heap.size+1,0,none⟩ (.int .i64 13)) (w.heap.size+1) 28 #[.int .i64 13]:=by
    have hb1:Holds W (w.heap.size+1) 28 #[.int .i64 0]:=HRB.out.under hbV (by have:=HVS.out;omega)
    exact hb1.stored 0 (.int .i64 13)
   exact ⟨KeepsOthers.setCell _ _ _,rfl,(Only.of_below (F:=fun g=>g=w.heap.size+1) hw.bel).setCell (.inl rfl) _,hrb,x,by simp,hb⟩
  ·have dm:decide ((m:Int)≤x.at_)=false:=decide_eq_false hb
   have hcs:wrCells x=[.int .i64 x.at_,.slice x.da 64 x.dc]:=by unfold wrCells;rw [hM.2.1]
   have hb1:Below W.heap.size W (W.alloc (.cells #[.int .i64 x.at_,.slice x.da 64 x.dc] 132)):=(Below.refl _ _).alloc (Nat.le_refl _) _
   have hst:=hw.under hb1
   have HST1:=Lib.hid hst
   have HFX:Hid (Holds (W.alloc (.cells #[.int .i64 x.at_,.slice x.da 64 x.dc] 132)) W.heap.size 132 ([.int .i64 x.at_,.slice x.da 64 x.dc]:List Value).toArray):=Lib.hid (Holds.fresh _ _ _)
   have HOW:=Lib.hid hst.own
   have HWC:Hid (∀ u∈([.int .i64 x.at_,.slice x.da 64 x.dc]:List Value),u.oneCell'=true):=Lib.hid (by intro u hu;simp at hu;rcases hu with rfl | rfl <;> rfl)
   have hpl:pre.length≤100000:=by have:=HBGZ.out.2;omega
   have HQ9:Hid (∀ W9,(W.alloc (.cells #[.int .i64 x.at_,.slice x.da 64 x.dc] 132)).grownBy W9 (blockOf A)→Holds W9 w7.heap.size 97 #[.slice A pre.length c]):=Lib.hid fun W9 hg=>(hg.block _ (Nat.lt_of_lt_of_le hh.lt hb1.size) (fun e=>by have h1:=ha _ e.symm;have:=HSZ.out;omega)).trans (hh.under hb1 hh.lt)
   have HWW:=Lib.hid hw
   have HKP:=Lib.hid hkp
   have HAA:=Lib.hid ha
   have HLT:=Lib.hid hlt
   have HMM2:=Lib.hid hM
   have HB1:=Lib.hid hb1
   clear hw hkp ha hlt hM hst hb1
   gi_wp2_with (first | (refine ⟨trivial,(CallsIn.inRound l HMW.out).mono ?_⟩;rintro e w10 ⟨rfl,rfl⟩) | (refine opIn_pushV _ (.tmp 39) (.tmp 43) 97 rfl 132 (.agg #[.int .i64 0,.slice none 0 0]) 2 32 Tryz.underlying97 info_write rfl (by omega) (by omega) rfl HOW.out (cs:=[.int .i64 x.at_,.slice x.da 64 x.dc]) rfl rfl HWC.out HFX.out hpl ?_;intro g9 c9 W9 ho9 hg9 hat9 hlt9;have q0:=(HQ9.out W9 hg9).cell 0;have f0:=(HQ9.out W9 hg9).open_ 0))
   have hQ9:=HQ9.out W9 hg9
   obtain ⟨b0,e0,hb0,hrow0⟩:=HMM2.out.2.2
   have hAne:blockOf A≠some b0:=fun e=>by
    rcases HWW.out.own.2 with ⟨hv,_⟩ | ⟨g',cap,cur,hv,_,hgg,_⟩
    ·injection hv with hv
     rw [hv] at e
     simp [blockOf] at e
    ·injection hv with hv
     rw [hv] at e
     obtain rfl:g'=b0:=by simpa [blockOf] using e
     have h':W.heap[g']?=some (.cells (vals .u8 x.d).toArray 5 (0,0)):=hrow0
     rw [hgg] at h'
     injection h' with h'
     injection h' with _ h'
     exact absurd h' (by decide)
   have hb0l:b0<W.heap.size:=Holds.lt hrow0
   have hda:∀ b o,x.da=some ⟨b,o,none⟩→w9.heap.size≤b∧b<(W.alloc (.cells #[.int .i64 x.at_,.slice x.da 64 x.dc] 132)).heap.size∧blockOf A≠some b:=fun b o e=>by
    rw [e0] at e
    injection e with e
    injection e with e
    subst e
    exact ⟨hb0,Nat.lt_of_lt_of_le hb0l HB1.out.size,hAne⟩
   have hps:=HST1.out.push (x:=x) ⟨(HMM2.out.1.under HB1.out).more HB1.out.size,hda⟩ (by rw [hcs];exact ho9) hg9 hat9
   have hlen9:(pre ++ [x]).length=pre.length+1:=by simp
   have hg9s:w9.heap.size≤g9:=by
    rcases hat9 with h | h
    ·exact HAA.out _ h
    ·have:=HKP.out.1;have:=HB1.out.size;omega
   have hne9:blockOf (some (⟨g9,0,none⟩:Addr))≠some w7.heap.size:=fun e=>by
    have e':g9=w7.heap.size:=by simpa [blockOf] using e
    have:=HSZ.out
    omega
   have hkW:KpG w9 (fun g=>g=w7.heap.size) W W9:=⟨Nat.le_trans HB1.out.size hg9.size,fun g hlt2 hG=>(hg9.block g (by have:=HKP.out.1;have:=HB1.out.size;omega) fun e=>by have:=HAA.out _ e.symm;omega).trans (HB1.out.block g (by have:=HKP.out.1;omega))⟩
   have hko:KeepsOthers W W9:=⟨Nat.le_trans HB1.out.size hg9.size,fun k o hk ho=>(hg9.block k (by have:=(Array.getElem?_eq_some_iff.1 hk).1;have:=HB1.out.size;omega) fun e=>by
    rcases HWW.out.own.2 with ⟨hv,_⟩ | ⟨g',cap,cur,hv,_,hgg,_⟩
    ·injection hv with hv
     rw [hv] at e
     simp [blockOf] at e
    ·injection hv with hv
     rw [hv] at e
     obtain rfl:k=g':=by simpa [blockOf] using e
     rw [hgg] at hk
     injection hk with hk
     rw [←hk] at ho
     cases ho).trans ((HB1.out.block k (Array.getElem?_eq_some_iff.1 hk).1).trans hk)⟩
   refine ⟨hko.trans (KeepsOthers.setCell _ _ _),⟨by simpa [World.setCell] using hkW.1,fun k hlt2 hk=>(Below.heap_setCell W9 ⟨w7.heap.size,0,none⟩ _ k hk).trans (hkW.2 k hlt2 hk)⟩,(HKP.out.trans hkW).store (.inl rfl),fun y hy=>?_,some ⟨g9,0,none⟩,c9,?_,hps.aside (Nat.le_refl _) (by have:=HSZ.out;omega) hne9,fun g e=>?_⟩
   ·rcases List.mem_append.1 hy with hy | hy
    ·exact HLT.out y hy
    ·rw [List.mem_singleton.1 hy];omega
   ·rw [hlen9]
    exact hQ9.stored 0 _
   ·have e':g9=g:=by simpa [blockOf] using e
    omega
 case done =>
  rintro D xs W hD hS ⟨hkp,hlt,A,c,hh,hw,ha⟩ hK
  have HRE:Hid (r=s.fin (wv xs)):=Lib.hid (by
   rw [HRR.out,←hS,if_pos]
   intro p hp
   obtain ⟨x,hx,rfl⟩:=List.mem_map.1 hp
   exact hlt x hx)
  have hbV:Below V.heap.size V W:=HE7.out.trans (hw.bel.mono HE7.out.size)
  have hdW:Disk W F' gd s:=HDV.out.keep (Only.of_below (F:=fun _=>False) hbV) (fun _ _ e=>e)
  have hw':Wrs w7 W w7.heap.size A c xs:=⟨hw.own,fun x hx=>⟨(hw.dat x hx).1,fun b o e=>⟨Nat.le_trans h79.out ((hw.dat x hx).2 b o e).1,((hw.dat x hx).2 b o e).2⟩⟩,hw.blk,hw.bel⟩
  have hof:=(hw'.rd (Nat.le_refl _)).off (F:=F') fun k hk=>by have:=HFL.out k hk;have:=HVS.out;have:=HE7.out.size;omega
  have hxl:xs.length=n:=by
   have:=congrArg List.length hS
   simpa [wv,Dk.told] using this
  have hat:∀ x∈xs,0≤x.at_∧x.at_≤100000:=fun x hx=>by
   have h1:=hlt x hx
   have h2:x.v∈s.told n:=by rw [←hS];exact List.mem_map_of_mem hx
   obtain ⟨k,_,hk⟩:=List.mem_map.1 h2
   have h3:x.at_=(s.toldAt n k).1:=by rw [hk];rfl
   unfold Dk.toldAt at h3
   dsimp only at h3
   omega
  have HSE:=Lib.hid (settle_any hdW A c n xs hxl hof (by have:=HBGZ.out.2;omega) hat (by have:=HBD.out.1;omega) (by have:=HBD.out.2;omega))
  have HOV:Hid (∀ s' W5,DJ W F' gd s' W5→DJ V F' gd s' W5):=Lib.hid fun s' W5 h5=>⟨h5.1.more fun k hk=>by
   have:=hbV.size
   rcases hk with hk | hk
   ·exact .inl hk
   ·exact .inr ⟨by omega,hk.2⟩,(Only.of_below (F:=F') hbV).trans h5.2 fun k _ hk=>hk⟩
  have hDl:D<W.heap.size:=(Array.getElem?_eq_some_iff.1 hK).1
  have HDD:Hid (∀ s' W5,DJ W F' gd s' W5→W5.heap[D]?=some (.deferred (some []))):=Lib.hid fun s' W5 h5=>(h5.2.block D hDl fun hF=>by have:=HFL.out D hF;have:=HVS.out;have:=HE9.out.size;omega).trans hK
  have hB1:=HBX.out _ _ (HST.out.below hbV)
  have k0:=hB1.1
  have hh':=hh.cell 0
  rw [hxl] at hh'
  have HK:=Lib.hid hK
  clear hkp hlt hw hw' hof hat hdW hbV hS hK ha hB1 hh hDl
  generalize s.fin (wv xs)=q at *
  obtain ⟨s5,e5⟩:=q
  dsimp only at *
  go_wp2_with fail
  refine HSE.out.mono ?_
  rintro e w5 ⟨rfl,hd5⟩
  have hd5':=HOV.out _ _ hd5
  have hD5:=HDD.out _ _ hd5
  obtain ⟨_,k1,k2⟩:=HBX.out _ _ hd5'
  have hc:=World.cell?_setCell_same' w5 ⟨w.heap.size+1,0,none⟩ (.int .i64 (e5:Int)) (by rw [k1];rfl)
  have HDf:=Lib.hid (HSET.out _ _ (.int .i64 (e5:Int)) hd5')
  have hKf:(w5.setCell ⟨w.heap.size+1,0,none⟩ (.int .i64 (e5:Int))).heap[D]?=some (.deferred (some [])):=(Below.heap_setCell w5 ⟨w.heap.size+1,0,none⟩ _ D (by have:=HE9.out.size;have:=HVS.out;dsimp only;omega)).trans hD5
  have HKf:=Lib.hid hKf
  clear hd5 hd5' hD5 HSE HOV HDD hKf k0
  go_wp2_with fail
  have hc2:=cell_kept hc (grownBy_putObj' _ D (.deferred none)) (fun r e=>by cases e;exact ⟨_,HKf.out,rfl⟩)
  refine ⟨by simp,.inl ⟨_,_,rfl,run_takeDeferred HKf.out,?_⟩⟩
  rw [HRE.out]
  exact ⟨.int .i64 (e5:Int),by simp [results,Tryz.results33,go_sem,hc2],rfl,HOUT.out _ _ (HDf.out.turns (grownBy_putObj' _ D (.deferred none)) fun q e=>by cases e;exact ⟨by have:=HE9.out.size;omega,_,HKf.out,rfl⟩)⟩
 case stop =>
  rintro D c pre W hD hS ⟨rfl,hon,hrb,hbig⟩ hK
  have HRE:Hid (r=(s,13)):=Lib.hid (by
   obtain ⟨x,hx,hxm⟩:=hbig
   rw [HRR.out,if_neg (fun hall=>?_)]
   have:=hall x.v (hS.subset (List.mem_map_of_mem hx))
   simp only [Wr.v] at this
   omega)
  have hDR:DJr V F' (w.heap.size+1) gd s W:=by
   have h7:=HE7.out
   have ho:Only (fun g=>g=w.heap.size+1) V W:=(Only.of_below (F:=fun g=>g=w.heap.size+1) h7).trans hon fun k _ hk=>hk
   exact ⟨(HDV.out.keep ho fun k hk e=>by have:=HFL.out k hk;omega).more fun k hk=>.inl hk,ho.more fun k _ hk=>.inr hk⟩
  have hc:=hrb.cell 0
  gi_wp2
  have hc2:=cell_kept hc (grownBy_putObj' _ D (.deferred none)) (fun r e=>by cases e;exact ⟨_,hK,rfl⟩)
  refine ⟨by simp,.inl ⟨_,_,rfl,run_takeDeferred hK,?_⟩⟩
  rw [HRE.out]
  exact ⟨.int .i64 13,by simp [results,Tryz.results33,go_sem,hc2],rfl,HOUT.out _ _ (hDR.turns (grownBy_putObj' _ D (.deferred none)) fun q e=>by cases e;exact ⟨by have:=HE9.out.size;omega,_,hK,rfl⟩)⟩
end
end Go.Proofs.YtnedpkhehiijhaaGreat
namespace Go.Proofs.YtnedpkhehiijhaaGreat
open Go.RowKit Go.Shelf
set_option linter.unusedVariables false
set_option linter.unusedSimpArgs false

/-- All bytes are bytes. -/
def Dk.Oct (s:Dk):Prop:=(∀ x∈s.lasts,Oct1 x)∧∀ p∈s.waits,Oct1 p.2
theorem fallN_oct {W:List (Nat×List Nat)} {L:List (List Nat)} (hL:∀ x∈L,Oct1 x) (hW:∀ p∈W,Oct1 p.2) (kp:Nat→Bool):∀ k,k≤W.length→∀ x∈fallN kp W L k,Oct1 x
 | 0,_=>hL
 | k+1,hk=>by
  rw [fallN]
  have ih:=fallN_oct hL hW kp k (by omega)
  split
  ·intro x hx
   rcases List.mem_or_eq_of_mem_set hx with h | h
   ·exact ih x h
   ·subst h
    have e:W[k]?=some (W.getD k default):=by simp [List.getD,show k<W.length by omega]
    exact hW _ (List.mem_of_getElem? e)
  ·exact ih
theorem Dk.Oct.read {s:Dk} (h:s.Oct) (hs:s.Sound) (i:Int):Oct1 (s.read i):=by
 unfold Dk.read
 split
 ·rw [List.getD]
  cases e:s.now[i.toNat]? with
  | none=>intro x hx;cases hx
  | some x=>exact fallN_oct h.1 h.2 _ _ (Nat.le_refl _) x (by rw [←hs];exact List.mem_of_getElem? e)
 ·intro x hx;cases hx
theorem Dk.Oct.write {s:Dk} (h:s.Oct) (i:Int) {x:List Nat} (hx:Oct1 x):(s.write i x).1.Oct:=by
 unfold Dk.write
 split
 ·exact h
 ·split
  ·split
   ·exact ⟨fallN_oct h.1 h.2 _ _ (Nat.le_refl _),fun p hp=>by cases hp⟩
   ·refine ⟨h.1,fun p hp=>?_⟩
    rcases List.mem_append.1 hp with h1 | h1
    ·exact h.2 p h1
    ·obtain rfl:=List.mem_singleton.1 h1
     exact hx
  ·exact h
theorem Dk.Oct.flush {s:Dk} (h:s.Oct):s.flush.1.Oct:=by
 unfold Dk.flush
 split
 ·exact h
 ·split
  ·exact ⟨fallN_oct h.1 h.2 _ _ (Nat.le_refl _),fun p hp=>by cases hp⟩
  ·exact ⟨fallN_oct h.1 h.2 _ _ (Nat.le_refl _),fun p hp=>by cases hp⟩
theorem Dk.Oct.restart {s:Dk} (h:s.Oct):s.restart.Oct:=⟨h.1,fun p hp=>by cases hp⟩
theorem Dk.Oct.arm {s:Dk} (h:s.Oct) (a:Int) (k:List Bool):(s.arm a k).Oct:=h
theorem oct_fresh (n:Nat):(fresh n).Oct:=⟨fun x hx=>by rw [List.eq_of_mem_replicate hx];exact zsec_oct,fun p hp=>by cases hp⟩

theorem Dk.Oct.puts {s:Dk} (h:s.Oct) {l:List (Int×List Nat)} (hl:∀ p∈l,Oct1 p.2):(s.puts l).1.Oct:=by
 induction l generalizing s with
 | nil=>exact h
 | cons p l ih =>
  rw [Dk.puts]
  have h1:=h.write p.1 (hl p List.mem_cons_self)
  split
  ·exact ih h1 fun q hq=>hl q (List.mem_cons_of_mem _ hq)
  ·exact h1
theorem Dk.Oct.putf {s:Dk} (h:s.Oct) {l:List (Int×List Nat)} (hl:∀ p∈l,Oct1 p.2):(s.putf l).1.Oct:=by
 unfold Dk.putf
 split
 ·exact (h.puts hl).flush
 ·exact h.puts hl
theorem Dk.Oct.fin {s:Dk} (h:s.Oct) {l:List (Int×List Nat)} (hl:∀ p∈l,Oct1 p.2):(s.fin l).1.Oct:=by
 have h1:(s.putf (l.map fun p=>(157+p.1,p.2))).1.Oct:=h.putf fun p hp=>by
  obtain ⟨q,hq,rfl⟩:=List.mem_map.1 hp
  exact hl q hq
 unfold Dk.fin
 split
 ·exact h1.putf fun p hp=>by rw [List.mem_singleton.1 hp];exact zsec_oct
 ·exact h1
theorem Dk.Oct.format {s:Dk} (h:s.Oct):s.format.1.Oct:=by
 unfold Dk.format
 split
 ·exact h
 ·refine h.putf fun p hp=>?_
  rcases List.mem_cons.1 hp with rfl | hp
  ·exact apst_oct
  ·rcases List.mem_cons.1 hp with rfl | hp
   ·exact zsec_oct
   ·obtain ⟨i,_,rfl⟩:=List.mem_map.1 hp
    exact zsec_oct
theorem Dk.Oct.open_ {s:Dk} (h:s.Oct) (hs:s.Sound):(s.open_).1.Oct:=by
 unfold Dk.open_
 split
 ·exact h
 ·split
  ·exact h
  ·split
   ·exact h
   ·exact h
   ·split
    ·refine h.fin fun p hp=>?_
     obtain ⟨k,_,rfl⟩:=List.mem_map.1 hp
     exact h.read hs ((2+sheetsN _+k:Nat):Int)
    ·exact h
theorem two8_oct (n:Nat):Oct1 (two8 n):=fun x hx=>by
 simp [two8] at hx
 omega
theorem shB_oct (l:List (Int×List Nat)) (t:Nat):Oct1 (shB l t):=secOf_oct fun x hx=>by
 obtain ⟨p,_,hp⟩:=List.mem_flatMap.1 (List.mem_of_mem_drop hx)
 exact two8_oct _ x hp
theorem Dk.Oct.commit {s:Dk} (h:s.Oct) {l:List (Int×List Nat)} (hl:∀ p∈l,Oct1 p.2):(s.commit l).1.Oct:=by
 have h1:(s.putf (logD l ++ logS l)).1.Oct:=h.putf fun p hp=>by
  rcases List.mem_append.1 hp with hp | hp
  ·obtain ⟨k,hk,rfl⟩:=List.mem_mapIdx.1 hp
   exact hl l[k] (List.getElem_mem hk)
  ·obtain ⟨t,_,rfl⟩:=List.mem_map.1 hp
   exact shB_oct _ _
 have h2:((s.putf (logD l ++ logS l)).1.putf [(1,markB l.length)]).1.Oct:=h1.putf fun p hp=>by rw [List.mem_singleton.1 hp];exact markB_oct _
 unfold Dk.commit
 split
 ·split
  ·exact h
  ·split
   ·exact h
   ·split
    ·split
     ·exact h2.fin hl
     ·exact h2
    ·exact h1
 ·exact h
theorem begunN_some {b:List Nat} {n:Nat} (h:begunN b=some n):n≤150∧(n=0→b=zsec):=by
 unfold begunN at h
 split at h
 ·injection h with h
  exact ⟨by omega,fun _=>by assumption⟩
 ·split at h
  ·cases h
  ·rename_i h1 h2
   injection h with h
   exact ⟨by omega,fun e=>by omega⟩
section
variable {w:World} {F:Nat→Prop} {gd:Nat} {s:Dk}
theorem open_any (h:Disk w F gd s) (hoc:∀ i:Nat,Oct1 (s.read (i:Int))) (hwl:s.waits.length≤70000) (hops:s.ops≤700000000) :
  Calls Tryz.prog 33 #[.pointer (some ⟨gd,0,none⟩)] w fun e w'=>e = .returned (.int .i64 ((s.open_).2:Nat))∧DJ w F gd (s.open_).1 w':=by
 by_cases hdn:s.down=true
 ·rw [show s.open_=(s,6) by unfold Dk.open_;rw [if_pos hdn]]
  exact open_down h hdn
 have hdn':s.down=false:=by simpa using hdn
 by_cases hm:s.many=0
 ·rw [show s.open_=(s,13) by unfold Dk.open_;rw [if_neg hdn,if_pos (.inl hm)]]
  exact open_small h hdn' hm
 have hm':0<s.many:=by omega
 have hlen:157<s.now.length:=by unfold Dk.many at hm';omega
 by_cases h0:s.read 0=apstB
 ·have hn:¬ (s.many=0∨s.read 0≠apstB):=fun e=>e.elim hm fun e=>e h0
  rcases hb:begunN (s.read 1) with _ | n
  ·rw [show s.open_=(s,13) by unfold Dk.open_;rw [if_neg hdn,if_neg hn,hb]]
   exact open_markless h hdn' hm' h0 hb (h.sect_read (i:=1) (by omega)) (hoc 1)
  ·have hb2:=begunN_some hb
   rcases Nat.eq_zero_or_pos n with rfl | hn0
   ·rw [show s.open_=(s,0) by unfold Dk.open_;rw [if_neg hdn,if_neg hn,hb];rfl]
    exact open_none h hdn' hm' h0 (hb2.2 rfl)
   ·exact open_many h hdn' hm' h0 hb hn0 hb2.1 hoc hwl hops
 ·rw [show s.open_=(s,13) by unfold Dk.open_;rw [if_neg hdn,if_pos (.inr h0)]]
  exact open_alien h hdn' hm' h0 (h.sect_read (i:=0) (by omega)) (hoc 0)
end
end Go.Proofs.YtnedpkhehiijhaaGreat
namespace Go.Proofs.YtnedpkhehiijhaaGreat
open Go.RowKit
set_option linter.unusedVariables false
set_option linter.unusedSimpArgs false

def Dk.ffmt (s:Dk):Dk×Nat:=if s.many<41 then (s,5) else s.format
section
variable {w:World} {F:Nat→Prop} {gd:Nat} {s:Dk}
set_option maxRecDepth 100000 in
theorem ffmt_any (h:Disk w F gd s) (hwl:s.waits.length≤70000) (hops:s.ops≤700000000) :
  Calls Tryz.prog 31 #[.pointer (some ⟨gd,0,none⟩)] w fun e w'=>e = .returned (.int .i64 ((s.ffmt).2:Nat))∧DJ w F gd (s.ffmt).1 w':=by
 have HM:=Lib.hid (jmany h)
 have HF:=Lib.hid (format_any h hwl hops)
 have HS:=Lib.hid (DJ.start h)
 have hmm:s.many≤2000:=by have:=h.len.2.2;unfold Dk.many;omega
 clear h
 by_cases hm:s.many<41
 case pos =>
  rw [show s.ffmt=(s,5) by unfold Dk.ffmt;rw [if_pos hm]]
  generalize s.many=m at *
  have d0:decide ((m:Int)<41)=true:=decide_eq_true (by omega)
  have hmI:(m:Int)<41:=by omega
  go_enter Tryz.func31,Tryz.ntmps31
  go_wp2_with (refine HM.out.mono ?_;rintro e w1 ⟨rfl,rfl⟩)
  go_ret
  exact ⟨rfl,HS.out⟩
 case neg =>
  rw [show s.ffmt=s.format by unfold Dk.ffmt;rw [if_neg hm]]
  have hq:∃ q,q=s.format:=⟨_,rfl⟩
  obtain ⟨q,hq⟩:=hq
  rw [←hq] at HF ⊢
  clear hq
  generalize s.many=m at *
  have d0:decide ((m:Int)<41)=false:=decide_eq_false (by omega)
  have hmI:¬ ((m:Int)<41):=by omega
  obtain ⟨s',c⟩:=q
  go_enter Tryz.func31,Tryz.ntmps31
  go_wp2_with (first | (refine HM.out.mono ?_;rintro e w1 ⟨rfl,rfl⟩) | (refine HF.out.mono ?_;rintro e w1 ⟨rfl,hd⟩) | fail)
  go_ret
  exact ⟨rfl,hd⟩
end
end Go.Proofs.YtnedpkhehiijhaaGreat
namespace Go.Proofs.YtnedpkhehiijhaaGreat
open Go.RowKit
set_option linter.unusedVariables false
attribute [local go_sem ↓] Go.wp_at_zero Go.wp_at_succ

theorem size_u8Node6 (w:World):(Go.sizeOf 5).run Tryz.prog w = .ok 1 w:=by
 obtain ⟨i0,hi,hz0,hz1,hz2⟩:=info_parts info_u8
 exact (run_sizeOf w hi).trans (by kernel_rfl)
theorem make_bytes (z:Int) (n:Nat) (hz:z=n) (hn:n≤1000000) (W:World):(Instr.makeSlice 44 (.int .i64 z) (.int .i64 z)).run Tryz.prog W = .ok (.slice (some ⟨W.heap.size,0,none⟩) n n) (W.alloc (.cells (nums .u8 (List.replicate n 0)) 5)):=by
 obtain ⟨i0,hi,hz0,hz1,hz2⟩:=info_parts info_u8
 have h:=run_make (P:=Tryz.prog) W 44 5 i0 (.int .u8 0) Tryz.underlying44 hi hz0 .i64 .i64 (n:Int) (n:Int) (by omega) (by omega) (by rw [hz2];omega) (by omega)
 rw [hz,h,hz1,nums_noughts]
 simp [Value.cells]

theorem put_at (w:World) (g c n:Nat) (L:List Nat) (hn:L.length=n) (hR:Row .u8 5 w g L) (hnc:n≤c) (hc:c≤9223372036854775807) (i:Nat) (hi:i+1<n) (I:Int) (hI:I=i) (v:Nat) (hv:v≤65535) :
  Calls Tryz.prog 109 #[.slice (some ⟨g,0,none⟩) n c,.int .i64 I,.int .i64 v] w fun e w'=>e = .returned (.tuple #[])∧Row .u8 5 w' g (put2 L i v)∧w.grownBy w' (some g):=by
 subst hI
 exact put_any w g c n L hn hR hnc hc i hi v hv

def RelB (s:ByteArray) (z:Nat) (p:List Nat) (w:World) (g n:Nat) (A:Option Addr) (c B:Nat) (i:Value) (wr:World):Prop :=
 ∃ (k:Nat) (L:List Nat),k≤n∧i = .int .i64 k∧Row .u8 5 wr g L∧L.length=64∧Hid (∀ i,i<64→L.getD i 0=encAt s z (p.take k) i)∧Rd .i64 wr B A c p∧Below w.heap.size w wr

set_option maxRecDepth 100000 in
set_option maxHeartbeats 4000000 in
theorem bytes_none (w:World) (s:ByteArray) (hs:s.size≤9223372036854775807) (z:Int) (hz:z≤9223372036854775807) (B:Nat) (A:Option Addr) (c n:Nat) (l:List Int) (hn:l.length=n) (hr:RdI .i64 w B A c l) (hB:B≤w.heap.size) (hno:¬ NodeOk s z l) :
  Calls Tryz.prog 71 #[.agg #[.string s,.int .i64 z,.slice A n c]] w fun e w'=>e = .returned (.slice none 0 0)∧Below w.heap.size w w':=by
 have hrb:=hr.alloc hB (.cells #[.string s,.int .i64 z,.slice A n c] 70)
 have hbel:Below w.heap.size w (w.alloc (.cells #[.string s,.int .i64 z,.slice A n c] 70)):=(Below.refl _ _).alloc (Nat.le_refl _) _
 go_enter Tryz.func71,Tryz.ntmps71
 go_wp2_with fail
 refine (is_any _ s hs z hz B A c n l hn hrb (by simp;omega) false ⟨(fun e=>by cases e),fun h=>absurd h hno⟩).mono ?_
 rintro e w1 ⟨rfl,hb1⟩
 go_wp2_with fail
 go_ret
 exact ⟨rfl,hbel.trans (hb1.mono (by simp))⟩

set_option maxRecDepth 100000 in
set_option maxHeartbeats 4000000 in
theorem bytes_some (w:World) (s:ByteArray) (z:Nat) (B:Nat) (A:Option Addr) (c n:Nat) (p:List Nat) (hn:p.length=n) (hr:Rd .i64 w B A c p) (hB:B≤w.heap.size) (hok:NodeOk s z (p.map fun x:Nat=>(x:Int))) (hp:∀ x∈p,x≤65535) :
  Calls Tryz.prog 71 #[.agg #[.string s,.int .i64 z,.slice A n c]] w fun e w'=>∃ g,e = .returned (.slice (some ⟨g,0,none⟩) 64 64)∧w.heap.size≤g∧Row .u8 5 w' g (enc s z p)∧Below w.heap.size w w':=by
 have hz:=hok.z600
 have hs40:=hok.name.high
 have hrb:=hr.alloc hB (.cells #[.string s,.int .i64 z,.slice A n c] 70)
 have hbel:Below w.heap.size w (w.alloc (.cells #[.string s,.int .i64 z,.slice A n c] 70)):=(Below.refl _ _).alloc (Nat.le_refl _) _
 have hbox:=Holds.fresh w 70 #[.string s,.int .i64 z,.slice A n c]
 have hn10:n≤10:=by have h1:=hok.len;have h2:=needI_le hz;simp at h1;omega
 have HOK:=Lib.hid hok
 have HP:=Lib.hid hp
 have HN:=Lib.hid hn
 clear hok hp
 go_enter Tryz.func71,Tryz.ntmps71
 go_wp2_with fail
 refine (is_any _ s (by omega) z (by omega) B A c n _ (by rw [List.length_map];exact HN.out) (RdI.of_rd hrb) (by simp;omega) true ⟨fun _=>HOK.out,fun _=>rfl⟩).mono ?_
 rintro e w1 ⟨rfl,hb1⟩
 have hbox1:=hbox.under hb1 (by simp)
 have hr1:=hrb.under (hb1.mono (by simp;omega))
 have hbel1:=hbel.trans (hb1.mono (by simp))
 have hlt1:=hbox1.lt
 clear hrb hbel hbox hb1 hr hn
 have hcb0:w1.cell? ⟨w.heap.size,0,none⟩=some (.string s):=hbox1.cell 0
 have hcb1:w1.cell? ⟨w.heap.size,1,none⟩=some (.int .i64 z):=hbox1.cell 1
 have hcb2:w1.cell? ⟨w.heap.size,2,none⟩=some (.slice A n c):=hbox1.cell 2
 obtain ⟨R,hR0⟩:∃ R,R=List.replicate 64 0:=⟨_,rfl⟩
 have hmk:=make_bytes 64 64 rfl (by omega) w1
 rw [←hR0] at hmk
 have hRl:R.length=64:=by rw [hR0,List.length_replicate]
 have HR0:=Lib.hid hR0
 clear hR0
 have hrow:Row .u8 5 (w1.alloc (.cells (nums .u8 R) 5)) w1.heap.size R:=Holds.fresh w1 5 (nums .u8 R)
 have hc0:=hrow.cell (i:=0) (by omega)
 have hfr0:=hrow.open_ 0
 go_wp2_with fail
 rw [nums_set]
 clear hrow hc0 hfr0 hmk hcb0 hcb1 hcb2
 have hRl1:(R.set 0 s.size).length=64:=by rw [List.length_set];exact hRl
 have HR1:Hid (R.set 0 s.size=(List.replicate 64 0).set 0 s.size):=Lib.hid (by rw [HR0.out])
 clear hRl
 generalize R.set 0 s.size=R1 at *
 obtain ⟨g,hg⟩:∃ g,g=w1.heap.size:=⟨_,rfl⟩
 have hrow:=Holds.fresh w1 5 (nums .u8 R1)
 have hbx:=hbox1.alloc (.cells (nums .u8 R1) 5)
 have hbel2:=hbel1.alloc (Nat.le_of_lt hlt1) (.cells (nums .u8 R1) 5)
 have hr2:=hr1.alloc (by omega) (.cells (nums .u8 R1) 5)
 rw [←hg] at hrow hlt1 ⊢
 generalize w1.alloc (.cells (nums .u8 R1) 5)=W at *
 clear hg hr1 hbel1 hbox1
 have hrow':Row .u8 5 W g R1:=hrow
 have hcx0:W.cell? ⟨w.heap.size,0,none⟩=some (.string s):=hbx.cell 0
 have hcl:∀ j,j<s.size→(W.cell? ⟨g,1+j,none⟩).isSome=true:=fun j hj=>by rw [hrow'.cell (by omega)];rfl
 have hfr:∀ j,j<s.size→W.frozen? ⟨g,1+j,none⟩=false:=fun j _=>hrow'.open_ _
 go_region_law (refine step_copy_string rfl (.tmp 17) (.tmp 19) 44 9 rfl 5 Tryz.underlying44 size_u8Node6 g 1 63 63 rfl s rfl (by omega) hcl hfr ?_)
 have hcs:=Row.cells s.data.toList 1 (show Row .u8 5 W.drew g R1 from hrow') (World.grownBy.refl W.drew (some g))
 have hbx3:Holds (W.drew.setCells g 1 (List.map (fun x=>Value.int IntKind.u8 ↑x.toNat) s.data.toList)) w.heap.size 70 #[.string s,.int .i64 z,.slice A n c]:=hbx.drew.grown hcs.2 (by intro e;injection e;omega)
 have hb3:Below w.heap.size w (W.drew.setCells g 1 (List.map (fun x=>Value.int IntKind.u8 ↑x.toNat) s.data.toList)):=hbel2.trans ((show Below w.heap.size W W.drew from below_drewNNode2 (Below.refl _ _) 1).trans (one_below hcs.2 (by omega) hbel2.size))
 have hr3:Rd .i64 (W.drew.setCells g 1 (List.map (fun x=>Value.int IntKind.u8 ↑x.toNat) s.data.toList)) B A c p:=hr2.under ((show Below B W W.drew from below_drewNNode2 (Below.refl _ _) 1).trans (one_below hcs.2 (by omega) (Nat.le_trans hB hbel2.size)))
 have hrow3:=hcs.1
 clear hcs hbx hbel2 hr2 hrow hrow' hcx0 hcl hfr
 generalize W.drew.setCells g 1 (List.map (fun x=>Value.int IntKind.u8 ↑x.toNat) s.data.toList)=W3 at *
 have hcy1:W3.cell? ⟨w.heap.size,1,none⟩=some (.int .i64 z):=hbx3.cell 1
 have hl3:(over R1 1 s.data.toList).length=64:=by rw [over_length];exact hRl1
 go_wp2_with fail
 refine (put_any W3 g 64 64 _ hl3 hrow3 (by omega) (by omega) 41 (by omega) z (by omega)).mono ?_
 rintro e w4 ⟨rfl,hrow4,hg4⟩
 have hbx4:=hbx3.grown hg4 (by intro e;injection e;omega)
 have hb4:=hb3.trans (one_below hg4 (Nat.le_of_lt hlt1) hb3.size)
 have hr4:=hr3.under (one_below hg4 (by omega) (Nat.le_trans hB hb3.size))
 have HH:=Lib.hid (enc_head (z:=z) hs40 (show put2 (over R1 1 s.data.toList) 41 z=_ by rw [HR1.out]))
 generalize put2 (over R1 1 s.data.toList) 41 z=L4 at *
 clear hb3 hr3 hbx3 hrow3 hcy1 hl3
 have hcz2:w4.cell? ⟨w.heap.size,2,none⟩=some (.slice A n c):=hbx4.cell 2
 have hlc:=hr4.1
 have hc63:=hr4.2.1
 go_wp2_with fail
 go_loopw [4,5,28] (fun _ _ i wr=>RelB s z p w g n A c B i wr) (fun _ _ i _=>n - (intOf i).toNat)
 case atStart=>exact ⟨0,L4,Nat.zero_le _,rfl,hrow4,HH.out.1,Lib.hid (HH.out.2 p),hr4,hb4⟩
 case round =>
  clear hcz2 hbx4 hb4 hr4 hrow4
  obtain ⟨k,L,hk,rfl,hrowk,hLk,HL,hrk,hbk⟩:=hrel
  obtain ⟨W5,hW5⟩:∃ W,W=wr:=⟨_,rfl⟩
  subst hW5
  by_cases hkn:k<n
  case neg =>
   obtain rfl:k=n:=by omega
   have hf:decide ((k:Int)<(k:Int))=false:=decide_eq_false (by omega)
   have hf2:decide (k<k)=false:=decide_eq_false (by omega)
   have HE:=Lib.hid (enc_is hLk (fun i hi=>(HL.out i hi).trans (by rw [List.take_of_length_le (by have:=HN.out;omega)])))
   go_wp2_with fail
   go_ret
   exact ⟨g,rfl,Nat.le_of_lt hlt1,by rw [←HE.out];exact hrowk,hbk⟩
  case pos =>
  obtain ⟨b,off,x,rfl,hb,hx,Hx⟩:=hrk.at_ (i:=k) (by have:=HN.out;omega)
  have hk0:(0:Int)≤(k:Int):=by omega
  have hkI:(k:Int)<(n:Int):=by omega
  have hx16:x≤65535:=by
   rw [Hx.out]
   have h':k<p.length:=by have:=HN.out;omega
   simpa [List.getD,h'] using HP.out _ (List.getElem_mem h')
  go_wp2_with fail
  refine (put_at W5 g 64 64 L hLk hrowk (by omega) (by omega) (43+2*k) (by omega) _ (by push_cast;first | rfl | omega) x hx16).mono ?_
  rintro e w6 ⟨rfl,hrow6,hg6⟩
  have HS:=Lib.hid (enc_step (p:=p) hLk (by have:=HN.out;omega) (by have:=HN.out;omega) HL.out)
  rw [←Hx.out] at HS
  have hb6:=hbk.trans (one_below hg6 (Nat.le_of_lt hlt1) hbk.size)
  have hr6:=hrk.under (one_below hg6 (by omega) (Nat.le_trans hB hbk.size))
  go_wp2_with fail
  go_roundw
  case rel=>exact ⟨k+1,_,by omega,by go_num,hrow6,by rw [put2_length];exact hLk,HS,hr6,hb6⟩
  case measure=>simp [intOf];omega
end Go.Proofs.YtnedpkhehiijhaaGreat
namespace Go.Proofs.YtnedpkhehiijhaaGreat
open Go.RowKit
set_option linter.unusedVariables false

/-- Bytes that are such. -/
def Oct8 (l:List Nat):Prop:=∀ x∈l,x<256

theorem str_neStr {l l':List Nat} (ho:Oct8 l) (ho':Oct8 l') (h:l≠l'):((str l).toList == (str l').toList)=false:=by
 rw [beq_eq_false_iff_ne,Lib.toList_data,Lib.toList_data]
 intro e
 exact h (str_inj ho ho' (by unfold str at e ⊢;simp at e;simp [e]))
set_option maxRecDepth 100000 in
theorem equal_yesStr (w:World) (B B':Nat) (A A':Option Addr) (c c' n:Nat) (l:List Nat) (hn:l.length=n) (hr:Rd .u8 w B A c l) (hr':Rd .u8 w B' A' c' l) (ho:Oct8 l) :
  Calls Tryz.prog 62 #[.slice A n c,.slice A' n c'] w fun e w'=>e = .returned (.bool true)∧w=w':=by
 have h1:=conv_str hr hn ho
 have h2:=conv_str hr' hn ho
 clear hn
 generalize str l=s at *
 go_enter Tryz.func62,Tryz.ntmps62
 go_wp2_with fail
 go_ret
 exact ⟨by simp,rfl⟩
set_option maxRecDepth 100000 in
theorem equal_noStr (w:World) (B B':Nat) (A A':Option Addr) (c c' n n':Nat) (l l':List Nat) (hn:l.length=n) (hn':l'.length=n') (hr:Rd .u8 w B A c l) (hr':Rd .u8 w B' A' c' l') (ho:Oct8 l) (ho':Oct8 l') (hne:l≠l') :
  Calls Tryz.prog 62 #[.slice A n c,.slice A' n' c'] w fun e w'=>e = .returned (.bool false)∧w=w':=by
 have h1:=conv_str hr hn ho
 have h2:=conv_str hr' hn' ho'
 have h4:=str_neStr ho ho' hne
 clear hn hn' hne
 generalize str l=s at *
 generalize str l'=s' at *
 go_enter Tryz.func62,Tryz.ntmps62
 go_wp2_with fail
 go_ret
 exact ⟨rfl,rfl⟩

end Go.Proofs.YtnedpkhehiijhaaGreat
namespace Go.Proofs.YtnedpkhehiijhaaGreat
open Go.RowKit
set_option linter.unusedVariables false
set_option linter.unusedSimpArgs false

/-- The block b is the node's. -/
structure IsNode (b:List Nat) (s:ByteArray) (z:Nat) (p:List Nat):Prop where
 ok:NodeOk s z (p.map fun x:Nat=>(x:Int))
 small:∀ x∈p,x≤65535
 enc:enc s z p=b
/-- The name that stands in a block, m bytes. -/
def nameOf (b:List Nat) (m:Nat):ByteArray:=str ((b.drop 1).take m)
/-- The m places that stand in a block. -/
def placesOf (b:List Nat) (m:Nat):List Nat:=(List.range m).map fun k=>two b (43+2*k)
theorem placesOf_length (b:List Nat) (m:Nat):(placesOf b m).length=m:=by simp [placesOf]
theorem placesOf_succ (b:List Nat) (m:Nat):placesOf b (m+1)=placesOf b m ++ [two b (43+2*m)]:=by simp [placesOf,List.range_succ]
theorem two_le {b:List Nat} (ho:Oct8 b) (i:Nat):two b i≤65535:=by
 have h:=oct_of ho
 have h1:=h i
 have h2:=h (i+1)
 unfold two;omega
theorem placesOf_le {b:List Nat} (ho:Oct8 b) (m:Nat):∀ x∈placesOf b m,x≤65535:=by
 intro x hx
 obtain ⟨k,_,rfl⟩:=List.mem_map.1 hx
 exact two_le ho _

section
variable {b:List Nat} {s:ByteArray} {z:Nat} {p:List Nat} (h:IsNode b s z p)
include h
theorem IsNode.at_ {i:Nat} (hi:i<64):b.getD i 0=encAt s z p i:=by rw [←h.enc,enc_at _ _ _ hi]
theorem IsNode.length:b.length=64:=by rw [←h.enc,enc_length]
theorem IsNode.long:b.getD 0 0=s.size:=by rw [h.at_ (by omega)];rfl
theorem IsNode.size_:two b 41=z:=by
 have h1:=h.at_ (i:=41) (by omega)
 have h2:=h.at_ (i:=42) (by omega)
 unfold two
 rw [h1,h2]
 show z / 256*256+z % 256=z
 omega
theorem IsNode.name_:nameOf b s.size=s:=by
 have hs:=h.ok.name.high
 have e0:s.data.toList.length=s.size:=by simp
 have hl:=h.length
 unfold nameOf str
 apply ByteArray.ext
 apply Array.ext'
 show ((b.drop 1).take s.size).map UInt8.ofNat=s.data.toList
 apply List.ext_getElem
 ·simp;omega
 ·intro i h1 h2
  have hi:i<s.size:=by omega
  have a:=h.at_ (i:=1+i) (by omega)
  unfold encAt at a
  rw [if_neg (by omega),if_pos (by omega),show 1+i - 1=i by omega] at a
  have e1:b.getD (1+i) 0=b[1+i]:=by simp [List.getD,show 1+i<b.length by omega]
  have e2:(s.data.toList.map UInt8.toNat).getD i 0=(s.data.toList[i]).toNat:=by simp only [List.getD,List.getElem?_map,List.getElem?_eq_getElem h2];rfl
  rw [e1,e2] at a
  rw [List.getElem_map,List.getElem_take,List.getElem_drop,a]
  simp
theorem IsNode.count:(p.length:Int)=needI z:=by simpa using h.ok.len
theorem IsNode.few:p.length≤10:=by
 have h1:=h.count
 have h2:=needI_le h.ok.z600
 omega
theorem IsNode.places_:placesOf b p.length=p:=by
 have hf:=h.few
 apply List.ext_getElem
 ·rw [placesOf_length]
 ·intro i h1 h2
  have a1:=h.at_ (i:=43+2*i) (by omega)
  have a2:=h.at_ (i:=43+2*i+1) (by omega)
  unfold encAt at a1 a2
  rw [if_neg (by omega),if_neg (by omega),if_neg (by omega),if_neg (by omega),if_pos (by omega),if_pos (by omega),show (43+2*i - 43) / 2=i by omega] at a1
  rw [if_neg (by omega),if_neg (by omega),if_neg (by omega),if_neg (by omega),if_pos (by omega),if_neg (by omega),show (43+2*i+1 - 43) / 2=i by omega] at a2
  have e:p.getD i 0=p[i]:=by simp [List.getD,h2]
  simp only [placesOf,List.getElem_map,List.getElem_range]
  unfold two
  rw [a1,a2,e]
  omega
theorem IsNode.not_free:b≠List.replicate 64 0:=by
 intro e
 have h1:=h.long
 have h2:=h.ok.name.low
 rw [e,noughts_at] at h1
 omega
end
/-- A block is one node's at most. -/
theorem IsNode.one {b:List Nat} {s s':ByteArray} {z z':Nat} {p p':List Nat} (h:IsNode b s z p) (h':IsNode b s' z' p'):s=s'∧z=z'∧p=p':=by
 have e1:s=s':=by rw [←h.name_,←h'.name_,←h.long,←h'.long]
 have e2:z=z':=by rw [←h.size_,←h'.size_]
 refine ⟨e1,e2,?_⟩
 have e3:p.length=p'.length:=by have a:=h.count;have a':=h'.count;rw [e2] at a;omega
 rw [←h.places_,←h'.places_,e3]

/-- What a block reads as: free, a node, nothing. -/
inductive Reads (b:List Nat) (s:ByteArray) (z:Nat) (p:List Nat):Bool→Bool→Prop
 | none:s=⟨#[]⟩→z=0→p=[]→b≠List.replicate 64 0→(∀ s z p,¬ IsNode b s z p)→Reads b s z p false false
 | free:s=⟨#[]⟩→z=0→p=[]→b=List.replicate 64 0→Reads b s z p true true
 | node:IsNode b s z p→Reads b s z p false true
theorem Reads.one {b:List Nat} {s s':ByteArray} {z z':Nat} {p p':List Nat} {f f' o o':Bool} (h:Reads b s z p f o) (h':Reads b s' z' p' f' o'):s=s'∧z=z'∧p=p'∧f=f'∧o=o':=by
 cases h with
 | none a1 a2 a3 a4 a5=>cases h' with
  | none b1 b2 b3 b4 b5=>exact ⟨a1.trans b1.symm,a2.trans b2.symm,a3.trans b3.symm,rfl,rfl⟩
  | free b1 b2 b3 b4=>exact absurd b4 a4
  | node hb=>exact absurd hb (a5 _ _ _)
 | free a1 a2 a3 a4=>cases h' with
  | none b1 b2 b3 b4 b5=>exact absurd a4 b4
  | free b1 b2 b3 b4=>exact ⟨a1.trans b1.symm,a2.trans b2.symm,a3.trans b3.symm,rfl,rfl⟩
  | node hb=>exact absurd a4 hb.not_free
 | node ha=>cases h' with
  | none b1 b2 b3 b4 b5=>exact absurd ha (b5 _ _ _)
  | free b1 b2 b3 b4=>exact absurd b4 ha.not_free
  | node hb=>obtain ⟨e1,e2,e3⟩:=ha.one hb;exact ⟨e1,e2,e3,rfl,rfl⟩

/-- What a reader gives. -/
def ReadPost (w:World) (b:List Nat) (e:Ending) (w':World):Prop :=
 ∃ s z A n c p f o,e = .returned (.tuple #[.agg #[.string s,.int .i64 (z:Nat),.slice A n c],.bool f,.bool o])∧Hid (Reads b s z p f o)∧p.length=n∧Rd .i64 w' w'.heap.size A c p∧Below w.heap.size w w'∧∀ g,blockOf A=some g→w.heap.size≤g
theorem read_none {w w':World} {b:List Nat} (h1:b≠List.replicate 64 0) (h2:∀ s z p,¬ IsNode b s z p) (h3:Below w.heap.size w w') :
  ReadPost w b (.returned (.tuple #[.agg #[.string ⟨#[]⟩,.int .i64 0,.slice none 0 0],.bool false,.bool false])) w' :=
 ⟨⟨#[]⟩,0,none,0,0,[],false,false,rfl,Lib.hid (.none rfl rfl rfl h1 h2),rfl,Rd.nil_ _ _ _,h3,fun g hg=>by simp [blockOf] at hg⟩
theorem read_free {w w':World} {b:List Nat} (h1:b=List.replicate 64 0) (h3:Below w.heap.size w w') :
  ReadPost w b (.returned (.tuple #[.agg #[.string ⟨#[]⟩,.int .i64 0,.slice none 0 0],.bool true,.bool true])) w' :=
 ⟨⟨#[]⟩,0,none,0,0,[],true,true,rfl,Lib.hid (.free rfl rfl rfl h1),rfl,Rd.nil_ _ _ _,h3,fun g hg=>by simp [blockOf] at hg⟩
end Go.Proofs.YtnedpkhehiijhaaGreat
namespace Go.Proofs.YtnedpkhehiijhaaGreat
open Go.RowKit
set_option linter.unusedVariables false

theorem Row.rd_all {k:IntKind} {T:TypeId} {w:World} {g:Nat} {l:List Nat} (h:Row k T w g l) {n:Nat} (hn:l.length=n) (h63:n≤9223372036854775807):Rd k w w.heap.size (some ⟨g,0,none⟩) n l:=by
 subst hn
 have:=(h.rd (Nat.le_refl _) (Nat.le_refl _) h63).more (Holds.lt h)
 rwa [List.take_of_length_le (Nat.le_refl _)] at this

set_option maxRecDepth 100000 in
set_option maxHeartbeats 4000000 in
theorem read_other (w:World) (B:Nat) (A:Option Addr) (c n:Nat) (b:List Nat) (hn:b.length=n) (hr:Rd .u8 w B A c b) (hB:B≤w.heap.size) (ho:Oct8 b) (h64:n≠64) :
  Calls Tryz.prog 35 #[.slice A n c] w (ReadPost w b):=by
 have hbel:Below w.heap.size w (w.alloc (.cells #[.string ⟨#[]⟩,.int .i64 0,.slice none 0 0] 70)):=(Below.refl _ _).alloc (Nat.le_refl _) _
 have hbox:=Holds.fresh w 70 #[.string ⟨#[]⟩,.int .i64 0,.slice none 0 0]
 have hc:=hbox.cell
 have hfz:=hbox.open_
 have q:((n:Int) != 64)=true:=by rw [bne_iff_ne];omega
 have HNO:=Lib.hid (show b≠List.replicate 64 0 from fun e=>h64 (by rw [←hn,e,List.length_replicate]))
 have HNN:=Lib.hid (show ∀ s z p,¬ IsNode b s z p from fun s z p h=>h64 (by rw [←hn,h.length]))
 go_enter Tryz.func35,Tryz.ntmps35
 go_wp2_with fail
 refine bodyPost_ret (v:=.tuple #[.agg #[.string ⟨#[]⟩,.int .i64 0,.slice none 0 0],.bool false,.bool false]) (by simp [results,Tryz.results35,go_sem,hc]) rfl ?_
 exact read_none HNO.out HNN.out hbel

set_option maxRecDepth 100000 in
set_option maxHeartbeats 4000000 in
theorem read_zero (w:World) (B:Nat) (A:Option Addr) (c:Nat) (b:List Nat) (hn:b.length=64) (hr:Rd .u8 w B A c b) (hB:B≤w.heap.size) (ho:Oct8 b) (h0:b=List.replicate 64 0) :
  Calls Tryz.prog 35 #[.slice A 64 c] w (ReadPost w b):=by
 have hbel:Below w.heap.size w (w.alloc (.cells #[.string ⟨#[]⟩,.int .i64 0,.slice none 0 0] 70)):=(Below.refl _ _).alloc (Nat.le_refl _) _
 have hbox:=Holds.fresh w 70 #[.string ⟨#[]⟩,.int .i64 0,.slice none 0 0]
 have hr1:=hr.alloc hB (.cells #[.string ⟨#[]⟩,.int .i64 0,.slice none 0 0] 70)
 have hmk:=make_bytes 64 64 rfl (by omega)
 rw [←h0] at hmk
 have H0:=Lib.hid h0
 clear h0
 go_enter Tryz.func35,Tryz.ntmps35
 go_wp2_with fail
 have hlt:=hbox.lt
 have hsz:(w.alloc (.cells #[.string ⟨#[]⟩,.int .i64 0,.slice none 0 0] 70)).heap.size=w.heap.size+1:=by simp
 generalize w.alloc (.cells #[.string ⟨#[]⟩,.int .i64 0,.slice none 0 0] 70)=W at *
 have hbox2:=hbox.alloc (.cells (nums .u8 b) 5)
 have hbel2:=hbel.alloc (Nat.le_of_lt hlt) (.cells (nums .u8 b) 5)
 have hz:Row .u8 5 (W.alloc (.cells (nums .u8 b) 5)) W.heap.size b:=Holds.fresh W 5 (nums .u8 b)
 rw [hsz] at hz
 have hr2:=hr1.alloc (by omega) (.cells (nums .u8 b) 5)
 generalize W.alloc (.cells (nums .u8 b) 5)=W2 at *
 have hc:=hbox2.cell
 have hfz:=hbox2.open_
 refine (equal_yesStr _ B _ A (some ⟨w.heap.size+1,0,none⟩) c 64 64 b hn hr2 (hz.rd_all hn (by omega)) ho).mono ?_
 rintro e w1 ⟨rfl,rfl⟩
 go_wp2_with fail
 refine bodyPost_ret (v:=.tuple #[.agg #[.string ⟨#[]⟩,.int .i64 0,.slice none 0 0],.bool true,.bool true]) (by simp [results,Tryz.results35,go_sem,hc]) rfl ?_
 exact read_free H0.out (by repeat (first | exact hbel2 | refine Below.setCell ?_ (by simp) _))
end Go.Proofs.YtnedpkhehiijhaaGreat
namespace Go.Proofs.YtnedpkhehiijhaaGreat
open Go.RowKit
set_option linter.unusedVariables false

theorem quiet_at {P:Program} {f:FuncId} {args:Array Value} {w:World} {n:Nat} {v:Value}
  (h:Calls P f args (w.drewN n) fun e w'=>e = .returned v∧∃ q,w'=(w.drewN n).drewN q):Calls P f args (w.drewN n) fun e w'=>e = .returned v∧∃ m,w'=w.drewN m :=
 h.mono fun _ _ ⟨he,q,hq⟩=>⟨he,n+q,by rw [hq,World.drewN_drewN]⟩

/-- The result's own cell, and what is known, behind the test for noughts. -/
def Mid (w:World) (B:Nat) (A:Option Addr) (c:Nat) (b:List Nat) (W:World):Prop :=
 Holds W w.heap.size 70 #[.string ⟨#[]⟩,.int .i64 0,.slice none 0 0]∧Rd .u8 W B A c b∧Below w.heap.size w W

set_option maxRecDepth 100000 in
set_option maxHeartbeats 4000000 in
theorem read_bad (w:World) (B:Nat) (A:Option Addr) (c:Nat) (b:List Nat) (hn:b.length=64) (hr:Rd .u8 w B A c b) (hB:B≤w.heap.size) (ho:Oct8 b) (h0:b≠List.replicate 64 0) (hbad:40<b.getD 0 0∨600<two b 41) :
  Calls Tryz.prog 35 #[.slice A 64 c] w (ReadPost w b):=by
 have hbel:Below w.heap.size w (w.alloc (.cells #[.string ⟨#[]⟩,.int .i64 0,.slice none 0 0] 70)):=(Below.refl _ _).alloc (Nat.le_refl _) _
 have hbox:=Holds.fresh w 70 #[.string ⟨#[]⟩,.int .i64 0,.slice none 0 0]
 have hr1:=hr.alloc hB (.cells #[.string ⟨#[]⟩,.int .i64 0,.slice none 0 0] 70)
 have hmk:=make_bytes 64 64 rfl (by omega)
 have HNN:=Lib.hid (show ∀ s z p,¬ IsNode b s z p from fun s z p h=>by
  have h1:=h.long
  have h2:=h.size_
  have h3:=h.ok.name.high
  have h4:=h.ok.z600
  omega)
 obtain ⟨R,hR0⟩:∃ R,R=List.replicate 64 0:=⟨_,rfl⟩
 have HO0:=Lib.hid (show Oct8 R from fun x hx=>by rw [hR0] at hx;have:=(List.mem_replicate.1 hx).2;omega)
 have HL0:=Lib.hid (show R.length=64 by rw [hR0,List.length_replicate])
 have H0:=Lib.hid h0
 have H1:Hid (b≠R):=Lib.hid (by rw [hR0];exact h0)
 rw [←hR0] at hmk
 clear h0 hR0
 have ho':=oct_of ho
 have hlc:=hr.1
 have hc63:=hr.2.1
 go_enter Tryz.func35,Tryz.ntmps35
 go_wp2_with fail
 have hlt:=hbox.lt
 have hsz:(w.alloc (.cells #[.string ⟨#[]⟩,.int .i64 0,.slice none 0 0] 70)).heap.size=w.heap.size+1:=by simp
 generalize w.alloc (.cells #[.string ⟨#[]⟩,.int .i64 0,.slice none 0 0] 70)=W at *
 have hbox2:=hbox.alloc (.cells (nums .u8 R) 5)
 have hbel2:=hbel.alloc (Nat.le_of_lt hlt) (.cells (nums .u8 R) 5)
 have hz:Row .u8 5 (W.alloc (.cells (nums .u8 R) 5)) W.heap.size R:=Holds.fresh W 5 (nums .u8 R)
 rw [hsz] at hz
 have hr2:=hr1.alloc (by omega) (.cells (nums .u8 R) 5)
 generalize W.alloc (.cells (nums .u8 R) 5)=W2 at *
 refine (equal_noStr _ B _ A (some ⟨w.heap.size+1,0,none⟩) c 64 64 64 b R hn HL0.out hr2 (hz.rd_all HL0.out (by omega)) ho HO0.out H1.out).mono ?_
 rintro e w1 ⟨rfl,rfl⟩
 clear hbox hbel hz hr1 hr hmk
 obtain ⟨bb,off,x,rfl,hb,hx,Hx⟩:=hr2.at_ (i:=0) (by omega)
 rw [Nat.add_zero] at hx
 obtain ⟨v,Hv⟩:∃ v,Hid (two b 41=v):=⟨_,rfl⟩
 rw [Hv.out,←Hx.out] at hbad
 have hx8:x<256:=by rw [Hx.out];exact ho' 0
 clear hlt hsz hb
 by_cases h40:40<x
 case pos =>
  have b1:decide (40<(x:Int))=true:=decide_eq_true (by omega)
  clear h40 hbad
  go_wp2_with fail
  go_quiet ((go_at_call 69;exact quiet_at (get_any _ B (some ⟨bb,off,none⟩) c 64 b hn (hr2.drewN _) ho' 41 (by omega) v Hv.out)))
  have hbox3:=hbox2.drewN nq
  have hbel3:=below_drewNNode2 hbel2 nq
  generalize W2.drewN nq=W3 at *
  have hc:=hbox3.cell
  have hfz:=hbox3.open_
  go_wp2_with fail
  refine bodyPost_ret (v:=.tuple #[.agg #[.string ⟨#[]⟩,.int .i64 0,.slice none 0 0],.bool false,.bool false]) (by simp [results,Tryz.results35,go_sem,hc]) rfl ?_
  exact read_none H0.out HNN.out (by repeat (first | exact hbel3 | refine Below.setCell ?_ (by simp) _))
 case neg =>
  have b1:decide (40<(x:Int))=false:=decide_eq_false (by omega)
  have b2:decide (600<(v:Int))=true:=decide_eq_true (by omega)
  clear h40 hbad
  go_wp2_with fail
  go_quiet ((go_at_call 69;exact quiet_at (get_any _ B (some ⟨bb,off,none⟩) c 64 b hn (hr2.drewN _) ho' 41 (by omega) v Hv.out)))
  have hbox3:=hbox2.drewN nq
  have hbel3:=below_drewNNode2 hbel2 nq
  generalize W2.drewN nq=W3 at *
  have hc:=hbox3.cell
  have hfz:=hbox3.open_
  go_wp2_with fail
  refine bodyPost_ret (v:=.tuple #[.agg #[.string ⟨#[]⟩,.int .i64 0,.slice none 0 0],.bool false,.bool false]) (by simp [results,Tryz.results35,go_sem,hc]) rfl ?_
  exact read_none H0.out HNN.out (by repeat (first | exact hbel3 | refine Below.setCell ?_ (by simp) _))
end Go.Proofs.YtnedpkhehiijhaaGreat
