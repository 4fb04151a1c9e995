/- Words and laws for the statement, part 12. -/
import Derived.OpenShut
import Derived.ChangeSlices
import Derived.ChangeArms
import Derived.WideShapes
import Derived.Deep.Matrix
import Derived.Deep.Slices
import Derived.Test.YtkmbgbbmhpidkaaG01
import Derived.Test.YtkmbgbbmhpidkaaG02
import Derived.Test.YtkmbgbbmhpidkaaG06
import Derived.Test.YtkmbgbbmhpidkaaG09
import Derived.Test.YtkmbgbbmhpidkaaG10
import Derived.Test.YtkmbgbbmhpidkaaG11
namespace Go.Proofs.Ytkmbgbbmhpidkaa
open Go.RowKit Go.Shelf
set_option linter.unusedVariables false
set_option linter.unusedSimpArgs false
attribute [local go_sem ↓] Go.wp_at_zero Go.wp_at_succ

theorem two_new {w w1 w2:World} {gd n:Nat} (hd:Disk w1 (fun k=>w.heap.size≤k∧k<w1.heap.size) gd (fresh n)) (hb:Below w.heap.size w w1) (hp:NewPostR w1 n w2):Two w2 w.heap.size gd (fresh n) w1.heap.size (fresh n)∧Below w.heap.size w w2:=by
 obtain ⟨⟨gS,cS,rs,hr,hF⟩,hb2⟩:=hp
 refine ⟨⟨Nat.le_trans hb.size hb2.size,fun k=>w.heap.size≤k∧k<w1.heap.size,fun k=>w1.heap.size≤k∧k<w2.heap.size,hd.keep (Only.of_below (F:=fun _=>False) hb2) (fun _ _ e=>e),?_,fun k hk=>⟨hk.1,Nat.lt_of_lt_of_le hk.2 hb2.size⟩,fun k hk=>⟨Nat.le_trans hb.size hk.1,hk.2⟩,fun k h1 h2=>by omega⟩,hb.trans (hb2.mono hb.size)⟩
 exact ⟨sound_fresh n,gS,cS,none,0,none,0,0,[],rs,[],hr,fun g hg=>⟨hF g hg,hr.lt hg⟩⟩
section
variable {w w':World} {B gd gx:Nat} {s s1 s2:Dk}
theorem two_write1 (h:Two w B gd s1 gx s2) (i:Int) (A2:Option Addr) (n2 c2:Nat) (x:List Nat) (hn:x.length=n2) (hr:Rd .u8 w w.heap.size A2 c2 x) (hwl:s1.waits.length≤100000) (hops:s1.ops≤1000000000) :
  Calls Try.prog 20 #[.pointer (some ⟨gd,0,none⟩),.int .i64 i,.slice A2 n2 c2] w fun e w'=>e = .returned (.int .i64 ((s1.write i x).2:Nat))∧Two w' B gd (s1.write i x).1 gx s2∧Below B w w' :=
 h.left fun F1 d=>disk_write d i A2 n2 c2 x hn hr hwl hops
theorem two_write2 (h:Two w B gd s1 gx s2) (i:Int) (A2:Option Addr) (n2 c2:Nat) (x:List Nat) (hn:x.length=n2) (hr:Rd .u8 w w.heap.size A2 c2 x) (hA2:∀ g,blockOf A2=some g→g≠gx) (hwl:s2.waits.length≤100000) (hops:s2.ops≤1000000000) :
  Calls Try.prog 22 #[.pointer (some ⟨gx,0,none⟩),.int .i64 i,.slice A2 n2 c2] w fun e w'=>e = .returned (.int .i64 ((s2.write i x).2:Nat))∧Two w' B gd s1 gx (s2.write i x).1∧Below B w w' :=
 h.right fun F2 r=>ref_write r i A2 n2 c2 x hn hr (fun _=>hA2) hwl hops
theorem two_flush1 (h:Two w B gd s1 gx s2) (hwl:s1.waits.length≤100000) (hops:s1.ops≤1000000000) :
  Calls Try.prog 23 #[.pointer (some ⟨gd,0,none⟩)] w fun e w'=>e = .returned (.int .i64 (s1.flush.2:Nat))∧Two w' B gd s1.flush.1 gx s2∧Below B w w' :=
 h.left fun F1 d=>disk_flush d hwl hops
theorem two_flush2 (h:Two w B gd s1 gx s2) (hwl:s2.waits.length≤100000) (hops:s2.ops≤1000000000) :
  Calls Try.prog 24 #[.pointer (some ⟨gx,0,none⟩)] w fun e w'=>e = .returned (.int .i64 (s2.flush.2:Nat))∧Two w' B gd s1 gx s2.flush.1∧Below B w w' :=
 h.right fun F2 r=>ref_flush r hwl hops
theorem two_format1 (h:Two w B gd s1 gx s2) (hwl:s1.waits.length≤70000) (hops:s1.ops≤700000000) :
  Calls Try.prog 18 #[.pointer (some ⟨gd,0,none⟩)] w fun e w'=>e = .returned (.int .i64 (s1.format.2:Nat))∧Two w' B gd s1.format.1 gx s2∧Below B w w' :=
 h.left fun F1 d=>format_any d hwl hops
theorem two_format2 (h:Two w B gd s1 gx s2) (hn:s2.now.length≤900) (hwl:s2.waits.length≤60000) (hops:s2.ops≤600000000) :
  Calls Try.prog 19 #[.pointer (some ⟨gx,0,none⟩)] w fun e w'=>e = .returned (.int .i64 (s2.format.2:Nat))∧Two w' B gd s1 gx s2.format.1∧Below B w w' :=
 h.right fun F2 r=>format'_any r hn hwl hops
theorem two_open1 (h:Two w B gd s1 gx s2) (hoc:∀ i:Nat,Oct1 (s1.read (i:Int))) (hwl:s1.waits.length≤70000) (hops:s1.ops≤700000000) :
  Calls Try.prog 16 #[.pointer (some ⟨gd,0,none⟩)] w fun e w'=>e = .returned (.int .i64 (s1.open_.2:Nat))∧Two w' B gd s1.open_.1 gx s2∧Below B w w' :=
 h.left fun F1 d=>open_any d hoc hwl hops
theorem two_open2 (h:Two w B gd s1 gx s2) (h64:∀ i:Nat,i<s2.now.length→(s2.read (i:Int)).length=64) (hoc:∀ i:Nat,Oct1 (s2.read (i:Int))) (hwl:s2.waits.length≤60000) (hops:s2.ops≤600000000) :
  Calls Try.prog 17 #[.pointer (some ⟨gx,0,none⟩)] w fun e w'=>e = .returned (.int .i64 (s2.open_.2:Nat))∧Two w' B gd s1 gx s2.open_.1∧Below B w w' :=
 h.right fun F2 r=>open'_any r h64 hoc hwl hops
theorem Two.sect (h:Two w B gd s1 gx s2):∀ i:Nat,i<s1.now.length→(s1.read (i:Int)).length=64:=by
 obtain ⟨hB,F1,F2,d,r,l1,l2,hd⟩:=h
 exact fun i hi=>d.sect_read hi
theorem fin_le (s:Dk) (l:List (Int×List Nat)):(s.fin l).1.waits.length≤s.waits.length+l.length+3∧(s.fin l).1.ops≤s.ops+l.length+3:=by
 have h1:=putf_le s (l.map fun p=>(157+p.1,p.2))
 have h2:=putf_le (s.putf (l.map fun p=>(157+p.1,p.2))).1 [(1,zsec)]
 rw [List.length_map] at h1
 simp only [List.length_cons,List.length_nil] at h2
 unfold Dk.fin
 split <;> omega
theorem open_le (s:Dk):s.open_.1.waits.length≤s.waits.length+153∧s.open_.1.ops≤s.ops+153:=by
 unfold Dk.open_
 split
 ·exact ⟨Nat.le_add_right _ _,Nat.le_add_right _ _⟩
 ·split
  ·exact ⟨Nat.le_add_right _ _,Nat.le_add_right _ _⟩
  ·split
   ·exact ⟨Nat.le_add_right _ _,Nat.le_add_right _ _⟩
   ·exact ⟨Nat.le_add_right _ _,Nat.le_add_right _ _⟩
   ·rename_i n _ hb
    have hn:=(begunN_some hb).1
    have h1:=fin_le s (s.told n)
    have h2:(s.told n).length=n:=by simp [Dk.told]
    split
    ·omega
    ·exact ⟨Nat.le_add_right _ _,Nat.le_add_right _ _⟩
theorem format_le (s:Dk):s.format.1.waits.length≤s.waits.length+s.now.length+3∧s.format.1.ops≤s.ops+s.now.length+3:=by
 unfold Dk.format
 split
 ·dsimp only;omega
 ·have h1:=putf_le s (formW s.now.length)
  have h2:(formW s.now.length).length≤s.now.length+2:=by simp [formW]
  omega
theorem Well.write' (h:Well s) (i:Int) (x:List Nat):Well (s.write i x).1:=by
 unfold Dk.write
 rw [if_neg (by rw [h.dn];simp)]
 split
 ·rw [if_neg (by unfold Dk.due;rw [h.ar];simp)]
  exact ⟨h.dn,h.ar⟩
 ·exact h
theorem Well.flush' (h:Well s):s.flush=(s.flushed,0):=by
 unfold Dk.flush
 rw [if_neg (by rw [h.dn];simp),if_neg (by unfold Dk.due;rw [h.ar];simp)]
end
structure MkSt (w:World) (gd gx n k:Nat) (s:Dk) (wr:World):Prop where
 two:Two wr w.heap.size gd s gx s
 oct:s.Oct
 well:Well s
 len:s.now.length=n
 wl:s.waits.length≤k
 ol:s.ops≤k
 bel:Below w.heap.size w wr
theorem MkSt.wrote {w:World} {gd gx n k:Nat} {s:Dk} {wr w':World} (h:MkSt w gd gx n k s wr) {i:Int} {x:List Nat} (hx:Oct1 x) (ht:Two w' w.heap.size gd (s.write i x).1 gx (s.write i x).1) (hb:Below w.heap.size w w'):MkSt w gd gx n (k+1) (s.write i x).1 w':=by
 have h1:=jwrite_le s i x
 have h2:=h.wl
 have h3:=h.ol
 exact ⟨ht,h.oct.write i hx,h.well.write' i x,(write_now s i x).trans h.len,by omega,by omega,hb⟩
def RelMk (w:World) (gd gx n m:Nat) (i:Value) (wr:World):Prop :=
 ∃ (k:Nat) (s:Dk),k≤m∧i = .int .i64 k∧MkSt w gd gx n (1000+k) s wr
set_option maxRecDepth 100000 in
set_option maxHeartbeats 8000000 in
theorem law_mark (w:World) (A0 A1:Option Addr) (c0 c1 n0 n1:Nat) (l0:List Nat) (rs:List Rw) (hn0:l0.length=n0) (hn1:rs.length=n1) (hr0:Rd .u8 w w.heap.size A0 c0 l0) (hr1:RdR w w.heap.size A1 c1 rs) (ho0:∀ x∈l0,x<256) (ho1:∀ j,∀ x∈(rs.getD j default).l,x<256) (pi:Int) :
  Calls Try.prog 6 #[.slice A0 n0 c0,.slice A1 n1 c1,.int .i64 pi] w fun e w'=>e = .returned (.bool true)∧Below w.heap.size w w':=by
 by_cases hbad:64<n0∨6<n1∨pi<1∨40<pi
 ·clear hr0 hr1 hn0 hn1 ho0 ho1
  by_cases c1:64<n0
  ·have d1:decide ((64:Int)<(n0:Int))=true:=decide_eq_true (by omega)
   clear hbad
   go_enter Try.func6,Try.ntmps6
   go_wp2_with fail
   go_ret
   exact ⟨rfl,Below.refl _ _⟩
  have d1:decide ((64:Int)<(n0:Int))=false:=decide_eq_false (by omega)
  by_cases c2:6<n1
  ·have d2:decide ((6:Int)<(n1:Int))=true:=decide_eq_true (by omega)
   clear hbad
   go_enter Try.func6,Try.ntmps6
   go_wp2_with fail
   go_ret
   exact ⟨rfl,Below.refl _ _⟩
  have d2:decide ((6:Int)<(n1:Int))=false:=decide_eq_false (by omega)
  by_cases c3:pi<1
  ·have d3:decide (pi<1)=true:=decide_eq_true c3
   clear hbad
   go_enter Try.func6,Try.ntmps6
   go_wp2_with fail
   go_ret
   exact ⟨rfl,Below.refl _ _⟩
  have d3:decide (pi<1)=false:=decide_eq_false c3
  have d4:decide (40<pi)=true:=decide_eq_true (by omega)
  clear hbad
  go_enter Try.func6,Try.ntmps6
  go_wp2_with fail
  go_ret
  exact ⟨rfl,Below.refl _ _⟩
 obtain ⟨pl,rfl⟩:∃ p:Nat,pi=(p:Int):=⟨pi.toNat,by omega⟩
 have d1:decide ((64:Int)<(n0:Int))=false:=decide_eq_false (by omega)
 have d2:decide ((6:Int)<(n1:Int))=false:=decide_eq_false (by omega)
 have d3:decide ((pl:Int)<1)=false:=decide_eq_false (by omega)
 have d4:decide (40<(pl:Int))=false:=decide_eq_false (by omega)
 have hp1:1≤pl:=by omega
 have hp2:pl≤40:=by omega
 have hn6:n1≤6:=by omega
 clear hbad
 obtain ⟨n,hn⟩:∃ n,n=157+pl:=⟨_,rfl⟩
 have hw:IntKind.i64.wrap (157+(pl:Int))=(n:Int):=by rw [IntWalk.i64_in _ (by omega)];omega
 have HN:=Lib.hid (And.intro (show 158≤n by omega) (show n≤200 by omega))
 have HNEW:=Lib.hid (new_yes w n (by omega) (by omega))
 have HREW:=Lib.hid (fun w1=>rnew_yes w1 n (by omega) (by omega))
 have HNL0:=Lib.hid hn0
 have HNL1:=Lib.hid hn1
 have HR0:=Lib.hid hr0
 have HR1:=Lib.hid hr1
 have HO0:=Lib.hid ho0
 have HO1:=Lib.hid ho1
 have HTR:Hid True:=Lib.hid trivial
 have hcc1:n1≤c1:=by have:=hr1.1;omega
 have hc63:=hr1.2.1
 clear hr0 hr1 hn0 hn1 ho0 ho1 hn
 go_enter Try.func6,Try.ntmps6
 go_wp2_with fail
 refine HNEW.out.mono ?_
 rintro e w1 ⟨gd,rfl,hd1,hb1⟩
 have HD1:=Lib.hid hd1
 have HB1:=Lib.hid hb1
 clear hd1 hb1 HNEW
 go_wp2_with fail
 refine (HREW.out w1).mono ?_
 rintro e w2 ⟨rfl,hp⟩
 have HT2:=Lib.hid (two_new HD1.out HB1.out hp)
 clear hp HREW HD1 HB1 d1 d2 d3 d4 hw
 generalize w1.heap.size=gx at *
 go_wp2_with fail
 refine (two_format1 HT2.out.1 (by simp [fresh]) (by simp [fresh])).mono ?_
 rintro e w3 ⟨rfl,ht,hb⟩
 have HT3:=Lib.hid ht
 have HB3:=Lib.hid (HT2.out.2.trans hb)
 clear ht hb HT2
 have HFL0:Hid ((fresh n).now.length=n):=Lib.hid (by simp [fresh])
 go_wp2_with fail
 refine (two_format2 HT3.out (by rw [HFL0.out];have:=HN.out;omega) (by simp [fresh]) (by simp [fresh])).mono ?_
 rintro e w4 ⟨rfl,ht,hb⟩
 obtain ⟨s0,hs0⟩:∃ s,s=(fresh n).format.1:=⟨_,rfl⟩
 rw [←hs0] at ht
 have HS0:Hid (MkSt w gd gx n 900 s0 w4):=Lib.hid (by
  obtain ⟨a1,a2,a3⟩:=(well_fresh n).format (by rw [HFL0.out];have:=HN.out;omega)
  have h1:=format_le (fresh n)
  rw [HFL0.out] at h1
  have h2:=HN.out
  refine ⟨ht,hs0 ▸ (oct_fresh n).format,hs0 ▸ a2,?_,?_,?_,HB3.out.trans hb⟩
  ·rw [hs0,a3,setAll_length,HFL0.out]
  ·rw [hs0];have:(fresh n).waits.length=0:=rfl;omega
  ·rw [hs0];have:(fresh n).ops=0:=rfl;omega)
 clear ht hb HT3 HB3
 generalize ((fresh n).format).2=f0 at *
 clear hs0 HFL0
 go_wp2_with fail
 refine (sectorR w4 A0 c0 n0 l0 HNL0.out ((HR0.out.under HS0.out.bel).more HS0.out.bel.size)).mono ?_
 rintro e w5 ⟨rfl,_,hr,hb⟩
 have HX5:=Lib.hid (And.intro (HS0.out.two.under hb) (And.intro hr (HS0.out.bel.trans (hb.mono HS0.out.bel.size))))
 clear hr hb
 go_wp2_with fail
 refine (two_write1 HX5.out.1 1 _ 64 64 (secOf l0) (secOf_length _) HX5.out.2.1 (by have:=HS0.out.wl;omega) (by have:=HS0.out.ol;omega)).mono ?_
 rintro e w6 ⟨rfl,ht,hb⟩
 have HX6:=Lib.hid (And.intro ht (HX5.out.2.2.trans hb))
 clear ht hb HX5
 go_wp2_with fail
 refine (sectorR w6 A0 c0 n0 l0 HNL0.out ((HR0.out.under HX6.out.2).more HX6.out.2.size)).mono ?_
 rintro e w7 ⟨rfl,_,hr,hb⟩
 have HX7:=Lib.hid (And.intro (HX6.out.1.under hb) (And.intro hr (HX6.out.2.trans (hb.mono HX6.out.2.size))))
 clear hr hb
 have HG7:Hid (∀ g,blockOf (some (⟨w6.heap.size,0,none⟩:Addr))=some g→g≠gx):=Lib.hid fun g hg=>by
  obtain rfl:w6.heap.size=g:=by simpa [blockOf] using hg
  have:=HX6.out.1.pos.2.2
  omega
 clear HX6
 go_wp2_with fail
 refine (two_write2 HX7.out.1 1 _ 64 64 (secOf l0) (secOf_length _) HX7.out.2.1 HG7.out (by have:=HS0.out.wl;omega) (by have:=HS0.out.ol;omega)).mono ?_
 rintro e w8 ⟨rfl,ht,hb⟩
 have HS1:=Lib.hid (HS0.out.wrote (secOf_oct HO0.out) ht (HX7.out.2.2.trans hb))
 clear ht hb HX7 HG7
 generalize (s0.write 1 (secOf l0)).2=f1 at *
 generalize (s0.write 1 (secOf l0)).1=s1 at *
 clear HS0
 go_wp2_with fail
 go_loopw [9] (fun i wr=>RelMk w gd gx n n1 i wr) (fun i _=>n1 - (intOf i).toNat)
 case atStart=>exact ⟨0,s1,Nat.zero_le _,rfl,⟨HS1.out.two,HS1.out.oct,HS1.out.well,HS1.out.len,by have:=HS1.out.wl;omega,by have:=HS1.out.ol;omega,HS1.out.bel⟩⟩
 case round =>
  clear HS1
  obtain ⟨k,s,hk,rfl,hp⟩:=hrel
  obtain ⟨V,hV⟩:∃ V,V=wr:=⟨_,rfl⟩
  subst hV
  have HP:=Lib.hid hp
  clear hp
  by_cases hlt:k<n1
  case pos =>
   have hkI:(k:Int)<(n1:Int):=by omega
   have hk0:(0:Int)≤(k:Int):=by omega
   have hw2:IntKind.i64.wrap (2+(k:Int))=2+(k:Int):=IntWalk.i64_in _ (by omega)
   have hkw:IntKind.i64.wrap ((k:Int)+1)=(k:Int)+1:=IntWalk.i64_in _ (by omega)
   have hrk:=HR1.out.under HP.out.bel
   obtain ⟨b,off,rfl,hbB,hcell⟩:=hrk.2.2.2 (by rw [HNL1.out];omega)
   have hc:=hcell k (by rw [HNL1.out];exact hlt)
   have HRK:=Lib.hid (hrk.2.2.1 k (by rw [HNL1.out];exact hlt))
   have HOK:=Lib.hid (HO1.out k)
   have HCK:Hid (∀ W,Below w.heap.size V W→W.cell? ⟨b,off+k,none⟩=V.cell? ⟨b,off+k,none⟩):=Lib.hid fun W hW=>hW.cell (p:=⟨b,off+k,none⟩) hbB
   generalize rs.getD k default=r at *
   obtain ⟨ra,rc,rl⟩:=r
   dsimp only at *
   obtain ⟨dn,hdn⟩:∃ d,rl.length=d:=⟨_,rfl⟩
   rw [hdn] at hc
   have HDN:=Lib.hid hdn
   clear hrk hcell hdn
   by_cases h64:64<dn
   ·have e1:decide ((64:Int)<(dn:Int))=true:=decide_eq_true (by omega)
    go_wp2_with fail
    go_ret
    exact ⟨rfl,HP.out.bel⟩
   have e1:decide ((64:Int)<(dn:Int))=false:=decide_eq_false (by omega)
   go_wp2_with fail
   refine (sectorR V ra rc dn rl HDN.out (HRK.out.more HP.out.bel.size)).mono ?_
   rintro e w5 ⟨rfl,_,hr,hb⟩
   have HX5:=Lib.hid (And.intro (HP.out.two.under hb) (And.intro hr (HP.out.bel.trans (hb.mono HP.out.bel.size))))
   have HV5:=Lib.hid (hb.mono HP.out.bel.size)
   clear hr hb
   go_wp2_with fail
   refine (two_write1 HX5.out.1 (2+(k:Int)) _ 64 64 (secOf rl) (secOf_length _) HX5.out.2.1 (by have:=HP.out.wl;omega) (by have:=HP.out.ol;omega)).mono ?_
   rintro e w6 ⟨rfl,ht,hb⟩
   have HX6:=Lib.hid (And.intro ht (HX5.out.2.2.trans hb))
   have HV6:=Lib.hid (HV5.out.trans hb)
   have hc6:=(HCK.out w6 HV6.out).trans hc
   clear ht hb HX5 hc
   go_wp2_with fail
   refine (sectorR w6 ra rc dn rl HDN.out ((HRK.out.under HV6.out).more (Nat.le_trans HP.out.bel.size HV6.out.size))).mono ?_
   rintro e w7 ⟨rfl,_,hr,hb⟩
   have HX7:=Lib.hid (And.intro (HX6.out.1.under hb) (And.intro hr (HX6.out.2.trans (hb.mono HX6.out.2.size))))
   clear hr hb
   have HG7:Hid (∀ g,blockOf (some (⟨w6.heap.size,0,none⟩:Addr))=some g→g≠gx):=Lib.hid fun g hg=>by
    obtain rfl:w6.heap.size=g:=by simpa [blockOf] using hg
    have:=HX6.out.1.pos.2.2
    omega
   clear HX6 hc6
   go_wp2_with fail
   refine (two_write2 HX7.out.1 (2+(k:Int)) _ 64 64 (secOf rl) (secOf_length _) HX7.out.2.1 HG7.out (by have:=HP.out.wl;omega) (by have:=HP.out.ol;omega)).mono ?_
   rintro e w8 ⟨rfl,ht,hb⟩
   have HS2:=Lib.hid (HP.out.wrote (secOf_oct HOK.out) ht (HX7.out.2.2.trans hb))
   clear ht hb HX7 HG7 HV5 HV6
   go_wp2_with fail
   go_roundw
   case rel=>exact ⟨k+1,_,by omega,by go_num,HS2.out⟩
   case measure=>simp [intOf];omega
  case neg =>
   obtain rfl:k=n1:=by omega
   have hkI:¬ ((k:Int)<(k:Int)):=by omega
   have HFL:=Lib.hid HP.out.well.flush'
   have hso:s.flushed.Oct:=by have h:=HP.out.oct.flush;rwa [HFL.out] at h
   have hss:s.flushed.Sound:=by have h:=HP.out.two.sound.flush;rwa [HFL.out] at h
   have hle:=jflush_le s
   rw [HFL.out] at hle
   have HSO:Hid (∀ i:Nat,Oct1 (s.flushed.read (i:Int))):=Lib.hid fun i=>hso.read hss _
   have HSL:Hid (s.flushed.waits.length≤2000∧s.flushed.ops≤2000):=Lib.hid (by have:=HP.out.wl;have:=HP.out.ol;dsimp only at hle;omega)
   have HSO2:=Lib.hid (hso.open_ hss)
   have HSL2:Hid (s.flushed.open_.1.waits.length≤100000):=Lib.hid (by have h1:=open_le s.flushed;have:=HSL.out;omega)
   have HS64:Hid (∀ i:Nat,i<s.flushed.now.length→(s.flushed.read (i:Int)).length=64):=Lib.hid fun i hi=>by
    have hr:s.flushed.read (i:Int)=s.read (i:Int):=rfl
    rw [hr]
    exact HP.out.two.sect i hi
   clear hso hss hle
   go_wp2_with fail
   refine (two_flush1 (HP.out.two) (by have:=HP.out.wl;omega) (by have:=HP.out.ol;omega)).mono ?_
   rintro e wa ⟨rfl,ht,hb⟩
   rw [HFL.out] at ht ⊢
   have HTa:=Lib.hid ht
   have HQa:=Lib.hid (HP.out.bel.trans hb)
   clear ht hb
   go_wp2_with fail
   refine (two_flush2 HTa.out (by have:=HP.out.wl;omega) (by have:=HP.out.ol;omega)).mono ?_
   rintro e wb ⟨rfl,ht,hb⟩
   rw [HFL.out] at ht ⊢
   have HTb:=Lib.hid ht
   have HQb:=Lib.hid (HQa.out.trans hb)
   clear ht hb HTa HQa
   go_wp2_with fail
   refine (two_open1 HTb.out HSO.out (by have:=HSL.out;omega) (by have:=HSL.out;omega)).mono ?_
   rintro e wc ⟨rfl,ht,hb⟩
   have HTc:=Lib.hid ht
   have HQc:=Lib.hid (HQb.out.trans hb)
   clear ht hb HTb HQb
   go_wp2_with fail
   refine (two_open2 HTc.out HS64.out HSO.out (by have:=HSL.out;omega) (by have:=HSL.out;omega)).mono ?_
   rintro e wd ⟨rfl,ht,hb⟩
   have HTd:=Lib.hid ht
   have HQd:=Lib.hid (HQc.out.trans hb)
   clear ht hb HTc HQc
   go_wp2_with fail
   refine (same2_any wd w.heap.size gd gx _ HTd.out HSO2.out HSL2.out).mono ?_
   rintro e we ⟨rfl,ht,hb⟩
   have HQe:=Lib.hid (HQd.out.trans (hb.mono HQd.out.size))
   clear ht hb HTd HQd
   go_wp2_with fail
   refine (known2_any we).mono ?_
   rintro e wf ⟨rfl,hb⟩
   have HQf:=Lib.hid (HQe.out.trans (hb.mono HQe.out.size))
   clear hb HQe
   go_wp2_with fail
   go_ret
   exact ⟨rfl,HQf.out⟩
end Go.Proofs.Ytkmbgbbmhpidkaa
namespace Go.Proofs.Ytkmbgbbmhpidkaa
open Go.RowKit Go.ChangeShapes

theorem rd_of_row {k:IntKind} {m:Nat} (hk:∀ n:Int,(Lit.int k n).wf=true→0≤n∧n<(m:Int)) {w:World} {a:Option Addr} {len cap:Nat} {zs:List Int}
  (h:(a=none∧len=0∧cap=0∧zs=[]) ∨
   ∃ x,a=some x∧len≤cap∧cap≤maxLen∧zs.length=cap∧(∀ i,i<zs.length→w.cell? (x.add i)=some (.int k (zs.getD i 0)))∧∀ n∈zs,(Lit.int k n).wf=true) :
  ∃ l:List Nat,l.length=len∧Rd k w w.heap.size a cap l∧∀ x∈l,x<m:=by
 rcases h with ⟨rfl,rfl,rfl,rfl⟩ | ⟨x,rfl,hl,hm,hz,hc,hwf⟩
 ·exact ⟨[],rfl,Rd.nil_ k w _,fun x hx=>by cases hx⟩
 ·refine ⟨(zs.take len).map Int.toNat,by simp;omega,⟨by simp;omega,by unfold maxLen at hm;exact hm,fun hn=>?_⟩,fun y hy=>?_⟩
  ·have h0:0<zs.length:=by simp at hn;omega
   obtain ⟨b,off,sp⟩:=x
   have hc0:=hc 0 h0
   have hsp:sp=none:=by simpa [Addr.add] using World.cell?_spot hc0
   subst hsp
   have hadd:∀ j,(⟨b,off,none⟩:Addr).add j=⟨b,off+j,none⟩:=fun j=>by unfold Addr.add;split <;> simp_all
   refine ⟨b,off,rfl,?_,fun j hj=>?_⟩
   ·have:=World.block_lt_of_cell? w _ hc0
    rw [hadd] at this
    exact this
   ·have hj':j<len∧j<zs.length:=by simp at hj;omega
    rw [←hadd,hc j hj'.2]
    have hw:=(hk zs[j] (hwf _ (List.getElem_mem hj'.2))).1
    simp [List.getD,hj'.1,hj'.2,Int.toNat_of_nonneg hw]
  ·obtain ⟨z,hz',rfl⟩:=List.mem_map.1 hy
   have:=hk z (hwf z (List.mem_of_mem_take hz'))
   omega
theorem wf_u8 (n:Int) (h:(Lit.int .u8 n).wf=true):0≤n∧n<((256:Nat):Int):=by
 have:=bounds_u8 h
 omega
end Go.Proofs.Ytkmbgbbmhpidkaa
namespace Go.Proofs.Ytkmbgbbmhpidkaa
open Go.RowKit Go.ChangeShapes Go.WideShapes
set_option linter.unusedVariables false

theorem rd1_open {H:Type} {enc:TypeId×Value→H} {w:World} {base:Nat} {held:Bool} {fuel:Nat} {v:Value} {x:DataW H×List MemPlace} (h:DataW.trod enc Try.prog w base (fun _=>true) held fuel 40 v.cells.toList=some x) (hv:∃ a n c,v = .slice a n c) :
  ∃ (A:Option Addr) (n c:Nat) (l:List Nat),v = .slice A n c∧l.length=n∧Rd .u8 w w.heap.size A c l∧∀ x∈l,x<256:=by
 obtain ⟨a,n,c,rfl⟩:=hv
 rcases open_ints Try.underlying40 Try.underlying5 (by kernel_rfl) h with ⟨hcs,_⟩ | ⟨x,l,c',zs,hcs,_,hl,hm,hz,_,hcell,hwz⟩
 ·simp [Value.cells] at hcs
  obtain ⟨rfl,rfl,rfl⟩:=hcs
  exact ⟨none,0,0,[],rfl,rfl,Rd.nil_ _ _ _,fun x hx=>by cases hx⟩
 ·simp [Value.cells] at hcs
  obtain ⟨rfl,rfl,rfl⟩:=hcs
  obtain ⟨b,h1,h2,h3⟩:=rd_of_row wf_u8 (w:=w) (a:=some x) (len:=n) (cap:=c) (zs:=zs) (.inr ⟨x,rfl,hl,hm,by simpa using hz,hcell,hwz⟩)
  exact ⟨_,_,_,b,rfl,h1,h2,h3⟩
theorem list_of {α:Type} [Inhabited α] {P:Nat→α→Prop}:∀ n,(∀ i,i<n→∃ a,P i a)→∃ l:List α,l.length=n∧∀ i,i<n→P i (l.getD i default)
 | 0,_=>⟨[],rfl,fun i h=>absurd h (by omega)⟩
 | n+1,h=>by
  obtain ⟨l,hl,hp⟩:=list_of n (fun i hi=>h i (by omega))
  obtain ⟨a,ha⟩:=h n (by omega)
  refine ⟨l ++ [a],by simp [hl],fun i hi=>?_⟩
  by_cases e:i=n
  ·subst e
   have e2:(l ++ [a]).getD i default=a:=by simp [List.getD,←hl]
   rw [e2];exact ha
  ·have e2:(l ++ [a]).getD i default=l.getD i default:=by simp [List.getD,List.getElem?_append_left (show i<l.length by omega)]
   rw [e2];exact hp i (by omega)
end Go.Proofs.Ytkmbgbbmhpidkaa
namespace Go.Proofs.Ytkmbgbbmhpidkaa
open Go.RowKit Go.ChangeShapes Go.WideShapes
set_option linter.unusedVariables false

theorem rdR_open {H:Type} {enc:TypeId×Value→H} {w:World} {base:Nat} {held:Bool} {fuel:Nat} {v:Value} {x:DataW H×List MemPlace} (h:DataW.trod enc Try.prog w base (fun _=>true) held fuel 56 v.cells.toList=some x) (hv:∃ a n c,v = .slice a n c) :
  ∃ (A:Option Addr) (n c:Nat) (rs:List Rw),v = .slice A n c∧rs.length=n∧RdR w w.heap.size A c rs∧∀ j,∀ x∈(rs.getD j default).l,x<256:=by
 obtain ⟨a,n,c,rfl⟩:=hv
 rcases Deep.open_int_rows Try.underlying56 Try.underlying40 Try.underlying5 (by kernel_rfl) (by kernel_rfl) h with ⟨hcs,_⟩ | ⟨a',len,cap,A,L,C,Z,hcs,_,hl,hm,_,hc⟩
 ·simp [Value.cells] at hcs
  obtain ⟨rfl,rfl,rfl⟩:=hcs
  exact ⟨none,0,0,[],rfl,rfl,⟨by simp,by omega,fun j hj=>by simp at hj,fun hn=>by simp at hn⟩,fun j x hx=>by simp [default] at hx⟩
 ·simp [Value.cells] at hcs
  obtain ⟨rfl,rfl,rfl⟩:=hcs
  obtain ⟨l,hln,hlp⟩:=list_of (P:=fun i (t:Rw)=>w.cell? (a'.add i)=some (.slice t.a t.l.length t.c)∧Rd .u8 w w.heap.size t.a t.c t.l∧∀ x∈t.l,x<256) n (fun i hi=>by
   obtain ⟨h0,h1,h2,h3,h4,h5,h6⟩:=hc i (by omega)
   obtain ⟨b,k1,k2,k3⟩:=rd_of_row wf_u8 (w:=w) (a:=A i) (len:=L i) (cap:=C i) (zs:=Z i) (by
    cases hA:A i with
    | none =>
     have hC:=h5 hA
     exact .inl ⟨rfl,by omega,hC,List.eq_nil_of_length_eq_zero (by omega)⟩
    | some x=>exact .inr ⟨x,rfl,h1,h2,h3,fun j hj=>(h6 x hA).2 j (by omega),h4⟩)
   exact ⟨⟨A i,C i,b⟩,by rw [h0,←k1],k2,k3⟩)
  refine ⟨some a',n,c,l,rfl,hln,⟨by omega,by unfold maxLen at hm;exact hm,fun j hj=>(hlp j (by omega)).2.1,fun hn=>?_⟩,fun j=>?_⟩
  ·obtain ⟨b,off,sp'⟩:=a'
   have hc0:=(hlp 0 (by omega)).1
   have hsp:sp'=none:=by simpa [Addr.add] using World.cell?_spot hc0
   subst hsp
   have hadd:∀ j,(⟨b,off,none⟩:Addr).add j=⟨b,off+j,none⟩:=fun j=>by unfold Addr.add;split <;> simp_all
   refine ⟨b,off,rfl,?_,fun j hj=>?_⟩
   ·have:=World.block_lt_of_cell? w _ hc0
    rw [hadd] at this
    exact this
   ·have:=(hlp j (by omega)).1
    rw [hadd] at this
    exact this
  ·rcases Nat.lt_or_ge j n with hj | hj
   ·exact (hlp j hj).2.2
   ·intro x hx
    rw [show l.getD j default=default by rw [List.getD,List.getElem?_eq_none (by omega)];rfl] at hx
    cases hx
end Go.Proofs.Ytkmbgbbmhpidkaa
