/- Words and laws for the statement, part 10. -/
import Derived.Shelf.Unicode.DecodeAny
import Derived.Laws.BitsAllLaws
import Derived.Laws.Slices
import Derived.Deep.LoopGhost
import Derived.Deep.DeepMust
import Derived.Deep.DeepBigQuietO
import Derived.Below
import Derived.Deep.CutBlock
import Derived.Deep.DeepCutAuto
import Derived.Test.YtcibjcgipfpniaaGreatDoorG09
namespace Go.Proofs.YtcibjcgipfpniaaGreatDoor
open Go.RowKit BigFrame
set_option linter.unusedVariables false
set_option linter.unusedSimpArgs false
attribute [local go_sem ↓] Go.wp_at_zero Go.wp_at_succ

theorem vv_lt {v0 x1 x2 x3 k:Nat} (h:v0<32):vv v0 x1 x2 x3 k<8388608:=by
 unfold vv
 have:=Nat.mod_lt x1 (show 0<64 by omega)
 have:=Nat.mod_lt x2 (show 0<64 by omega)
 have:=Nat.mod_lt x3 (show 0<64 by omega)
 (repeat' split) <;> omega
theorem vv_succ (v0 x1 x2 x3 k:Nat) (h1:1≤k) (h3:k≤3):vv v0 x1 x2 x3 (k+1)=vv v0 x1 x2 x3 k*64+(if k=1 then x1 else if k=2 then x2 else x3) % 64:=by
 rcases (by omega:k=1∨k=2∨k=3) with rfl | rfl | rfl <;> rfl
def RunePost (w:World) (r:Nat) (e:Ending) (w':World):Prop:=e = .returned (.int .i64 (r:Int))∧Below w.heap.size w w'
theorem RunePost.of {w w':World} {r k:Nat} {e:Ending} (h:e = .returned (.int .i64 (k:Int))) (hr:r=k) (hb:Below w.heap.size w w'):RunePost w r e w':=⟨by rw [h,hr],hb⟩
set_option maxRecDepth 1000000 in
set_option maxHeartbeats 4000000 in
theorem rune1_asc (w:World) (l:List Nat) (ho:∀ x∈l,x<256) (hl:0<l.length) (h1:l.getD 0 0<128) :
  Calls Tryz.prog 103 #[.string (str l)] w (RunePost w (rn l)):=by
 have HR:=Lib.hid (rn_asc h1)
 obtain ⟨t,ht⟩:∃ t,str l=t:=⟨_,rfl⟩
 have hsz:0<t.size:=by rw [←ht,str_len];exact hl
 obtain ⟨x0,hs0,hc⟩:=get_at l ho t ht 0 hsz
 have hsz':(0:Int)<(t.size:Int):=by omega
 obtain ⟨c,hcc⟩:∃ c,l.getD 0 0=c:=⟨_,rfl⟩
 rw [hcc] at h1 hc
 rw [ht]
 clear ht hcc ho hl
 have d1:decide ((c:Int)<128)=true:=decide_eq_true (by omega)
 go_enter Tryz.func103,Tryz.ntmps103
 go_wp2_with fail
 go_ret
 exact RunePost.of rfl HR.out (Below.refl _ _)
set_option maxRecDepth 1000000 in
set_option maxHeartbeats 4000000 in
theorem rune1_none (w:World) (l:List Nat) (ho:∀ x∈l,x<256) (hl:0<l.length) (h1:128≤l.getD 0 0) (h2:l.getD 0 0<192∨248≤l.getD 0 0) :
  Calls Tryz.prog 103 #[.string (str l)] w (RunePost w (rn l)):=by
 have HR:=Lib.hid (rn_none ho h1 h2)
 obtain ⟨t,ht⟩:∃ t,str l=t:=⟨_,rfl⟩
 have hsz:0<t.size:=by rw [←ht,str_len];exact hl
 obtain ⟨x0,hs0,hc⟩:=get_at l ho t ht 0 hsz
 have hsz':(0:Int)<(t.size:Int):=by omega
 obtain ⟨c,hcc⟩:∃ c,l.getD 0 0=c:=⟨_,rfl⟩
 rw [hcc] at h1 h2 hc
 rw [ht]
 clear ht hcc ho hl
 have d1:decide ((c:Int)<128)=false:=decide_eq_false (by omega)
 rcases h2 with h2 | h2
 ·have d2:decide ((192:Int)≤(c:Int))=false:=decide_eq_false (by omega)
  have d3:decide ((224:Int)≤(c:Int))=false:=decide_eq_false (by omega)
  have d4:decide ((240:Int)≤(c:Int))=false:=decide_eq_false (by omega)
  go_enter Tryz.func103,Tryz.ntmps103
  go_wp2_with fail
  go_ret
  exact RunePost.of rfl HR.out (Below.refl _ _)
 ·have d2:decide ((192:Int)≤(c:Int))=true:=decide_eq_true (by omega)
  have d3:decide ((224:Int)≤(c:Int))=true:=decide_eq_true (by omega)
  have d4:decide ((240:Int)≤(c:Int))=true:=decide_eq_true (by omega)
  have e2:decide ((c:Int)<224)=false:=decide_eq_false (by omega)
  have e3:decide ((c:Int)<240)=false:=decide_eq_false (by omega)
  have e4:decide ((c:Int)<248)=false:=decide_eq_false (by omega)
  go_enter Tryz.func103,Tryz.ntmps103
  go_wp2_with fail
  go_ret
  exact RunePost.of rfl HR.out (Below.refl _ _)

set_option maxRecDepth 1000000 in
set_option maxHeartbeats 8000000 in
theorem rune1_2 (w:World) (l:List Nat) (ho:∀ x∈l,x<256) (hl:0<l.length) (h1:192≤l.getD 0 0) (h2:l.getD 0 0<224) :
  Calls Tryz.prog 103 #[.string (str l)] w (RunePost w (rn l)):=by
 have mixed:Tryz.prog.follows Departure.mixedOrders=true:=by kernel_rfl
 obtain ⟨t,ht⟩:∃ t,str l=t:=⟨_,rfl⟩
 obtain ⟨n,hn⟩:∃ n,l.length=n:=⟨_,rfl⟩
 have hts:t.size=n:=by rw [←ht,str_len,hn]
 have hsz:0<t.size:=by rw [hts,←hn];exact hl
 obtain ⟨x0,hs0,hc⟩:=get_at l ho t ht 0 hsz
 have HG:Hid (∀ j (hj:j<t.size),∃ x:UInt8,t[j]'hj=x∧x.toNat=l.getD j 0):=Lib.hid fun j hj=>get_at l ho t ht j hj
 have HO:Hid (∀ j,l.getD j 0<256):=Lib.hid fun j=>getD_oct ho j
 have hc256:=getD_oct ho 0
 obtain ⟨c,hcc⟩:∃ c,l.getD 0 0=c:=⟨_,rfl⟩
 obtain ⟨r,hr⟩:∃ r,rn l=r:=⟨_,rfl⟩
 rw [hr]
 have hr':rnN n c (l.getD 1 0) (l.getD 2 0) (l.getD 3 0)=r:=by rw [←hr,←hn,←hcc];rfl
 rw [hcc] at h1 h2 hc hc256
 rw [ht]
 have HRR:=Lib.hid hr'
 have HTS:=Lib.hid hts
 have hsz':(0:Int)<(n:Int):=by omega
 clear ht ho hl hn hr hcc hr'
 have ha:=u8and31 ⟨c,hc256⟩
 simp only at ha
 have d1:decide ((c:Int)<128)=false:=decide_eq_false (by omega)
 have d2:decide ((192:Int)≤(c:Int))=true:=decide_eq_true (by omega)
 have d3:decide ((224:Int)≤(c:Int))=false:=decide_eq_false (by omega)
 have d4:decide ((240:Int)≤(c:Int))=false:=decide_eq_false (by omega)
 have e2:decide ((c:Int)<224)=true:=decide_eq_true (by omega)
 have e3:decide ((c:Int)<240)=true:=decide_eq_true (by omega)
 have e4:decide ((c:Int)<248)=true:=decide_eq_true (by omega)
 have z0:((2:Int) == 0)=false:=rfl
 by_cases hnN:n<2
 ·have q:decide ((n:Int)<2)=true:=decide_eq_true (by omega)
  have hrr:r=0:=by rw [←HRR.out];exact rnN2_short h1 h2 hnN
  have HR:=Lib.hid hrr
  clear hrr
  go_enter Tryz.func103,Tryz.ntmps103
  go_wp2_with fail
  go_ret
  exact RunePost.of rfl HR.out (Below.refl _ _)
 ·have q:decide ((n:Int)<2)=false:=decide_eq_false (by omega)
  obtain ⟨v0,hv0⟩:∃ v0,v0=c % 32:=⟨_,rfl⟩
  have ha':bits .and .u8 (c:Int) 31=(v0:Int):=by rw [hv0];exact ha
  have HV0:=Lib.hid hv0
  have hv0l:v0<32:=by omega
  clear ha hv0
  go_enter Tryz.func103,Tryz.ntmps103
  go_wp2_with fail
  go_loopg [5,7] (2+1) (fun gk v i wx=>Below w.heap.size w wx∧∃ k:Nat,1≤k∧k≤2∧k+gk=2+2∧i = .int .i64 (k:Int)∧v = .int .i64 ((vv v0 (l.getD 1 0) (l.getD 2 0) (l.getD 3 0) k:Nat):Int)∧Hid (∀ j,1≤j→j<k→cont (l.getD j 0)))
  case atStart=>exact ⟨Below.refl _ _,1,by omega,by omega,by omega,rfl,rfl,Lib.hid fun j a b=>by omega⟩
  case round =>
   obtain ⟨hbw,k,hk1,hkN,hgk,rfl,rfl,HC⟩:=hrel
   have HB:=Lib.hid hbw
   clear hbw
   obtain ⟨V,hV⟩:∃ V,vv v0 (l.getD 1 0) (l.getD 2 0) (l.getD 3 0) k=V:=⟨_,rfl⟩
   rw [hV]
   have hVb:V<8388608:=by rw [←hV];exact vv_lt (by omega)
   have HV:=Lib.hid hV
   clear hV
   by_cases hlt:k<2
   ·have dl:decide ((k:Int)<2)=true:=decide_eq_true (by omega)
    obtain ⟨y,hy,hyx⟩:=HG.out k (by rw [HTS.out];omega)
    have hx256:=HO.out k
    obtain ⟨x,hx⟩:∃ x,l.getD k 0=x:=⟨_,rfl⟩
    rw [hx] at hyx hx256
    have HX:=Lib.hid hx
    clear hx
    have hkz:(k:Int)<(n:Int):=by omega
    have hax:=u8and63 ⟨x,hx256⟩
    simp only at hax
    by_cases q1:x<128
    ·have q1z:decide ((x:Int)<128)=true:=decide_eq_true (by omega)
     have hbad:¬ cont (l.getD k 0):=by rw [HX.out];unfold cont;omega
     have hrr:r=0:=by
      rw [←HRR.out]
      rcases (by omega:k=1) with rfl
      ·exact rnN2_cont1 h1 h2 hbad
     have HR:=Lib.hid hrr
     clear hrr hbad
     go_wp2_with fail
     go_ret
     exact RunePost.of rfl HR.out HB.out
    ·have q1z:decide ((x:Int)<128)=false:=decide_eq_false (by omega)
     by_cases q2:192≤x
     ·have q2z:decide ((192:Int)≤(x:Int))=true:=decide_eq_true (by omega)
      have hbad:¬ cont (l.getD k 0):=by rw [HX.out];unfold cont;omega
      have hrr:r=0:=by
       rw [←HRR.out]
       rcases (by omega:k=1) with rfl
       ·exact rnN2_cont1 h1 h2 hbad
      have HR:=Lib.hid hrr
      clear hrr hbad
      go_wp2_with fail
      go_ret
      exact RunePost.of rfl HR.out HB.out
     ·have q2z:decide ((192:Int)≤(x:Int))=false:=decide_eq_false (by omega)
      obtain ⟨X,hX⟩:∃ X,x % 64=X:=⟨_,rfl⟩
      rw [hX] at hax
      have hXb:X<64:=by omega
      have HXX:=Lib.hid hX
      clear hX
      obtain ⟨g',rfl⟩:∃ g',gk=g' + 1:=⟨gk - 1,by omega⟩
      go_wp2_with fail
      go_roundg g'
      case measure=>omega
      case rel =>
       refine ⟨HB.out,k+1,by omega,by omega,by omega,by go_num,?_,Lib.hid fun j a b=>?_⟩
       ·rw [vv_succ v0 _ _ _ k hk1 (by omega),HV.out]
        have e:(if k=1 then l.getD 1 0 else if k=2 then l.getD 2 0 else l.getD 3 0) % 64=X:=by
         rw [←HXX.out,←HX.out]
         rcases (by omega:k=1∨k=2∨k=3) with rfl | rfl | rfl <;> rfl
        rw [e]
        go_num
       ·rcases Nat.lt_or_ge j k with h | h
        ·exact HC.out j a h
        ·obtain rfl:j=k:=by omega
         rw [HX.out];unfold cont;omega
   ·obtain rfl:k=2:=by omega
    have dl:decide ((2:Int)<2)=false:=rfl
    have HV':Hid (vv (c % 32) (l.getD 1 0) (l.getD 2 0) (l.getD 3 0) 2=V):=Lib.hid (by rw [←HV0.out];exact HV.out)
    have hoff:off_ V 128→r=0:=fun h=>by
     rw [←HRR.out]
     exact rnN2_off h1 h2 (HC.out 1 (by omega) (by omega)) (by rw [HV'.out];exact h)
    have hon:¬ off_ V 128→r=2:=fun h=>by
     rw [←HRR.out]
     exact rnN2_yes h1 h2 (by omega) (HC.out 1 (by omega) (by omega)) (by rw [HV'.out];exact h)
    have HOFF:=Lib.hid hoff
    have HON:=Lib.hid hon
    clear hoff hon
    by_cases p1:V<128
    ·have p1z:decide ((V:Int)<128)=true:=decide_eq_true (by omega)
     have HR:=Lib.hid (HOFF.out (.inl p1))
     go_wp2_with fail
     go_ret
     exact RunePost.of rfl HR.out HB.out
    have p1z:decide ((V:Int)<128)=false:=decide_eq_false (by omega)
    by_cases p2:1114111<V
    ·have p2z:decide ((1114111:Int)<(V:Int))=true:=decide_eq_true (by omega)
     have HR:=Lib.hid (HOFF.out (.inr (.inl p2)))
     go_wp2_with fail
     go_ret
     exact RunePost.of rfl HR.out HB.out
    have p2z:decide ((1114111:Int)<(V:Int))=false:=decide_eq_false (by omega)
    by_cases p3:55296≤V
    ·have p3z:decide ((55296:Int)≤(V:Int))=true:=decide_eq_true (by omega)
     by_cases p4:V≤57343
     ·have p4z:decide ((V:Int)≤57343)=true:=decide_eq_true (by omega)
      have HR:=Lib.hid (HOFF.out (.inr (.inr ⟨p3,p4⟩)))
      go_wp2_with fail
      go_ret
      exact RunePost.of rfl HR.out HB.out
     ·have p4z:decide ((V:Int)≤57343)=false:=decide_eq_false (by omega)
      have HR:=Lib.hid (HON.out (by unfold off_;omega))
      go_wp2_with fail
      go_ret
      exact RunePost.of rfl HR.out HB.out
    ·have p3z:decide ((55296:Int)≤(V:Int))=false:=decide_eq_false (by omega)
     have HR:=Lib.hid (HON.out (by unfold off_;omega))
     go_wp2_with fail
     go_ret
     exact RunePost.of rfl HR.out HB.out

set_option maxRecDepth 1000000 in
set_option maxHeartbeats 8000000 in
theorem rune1_3 (w:World) (l:List Nat) (ho:∀ x∈l,x<256) (hl:0<l.length) (h1:224≤l.getD 0 0) (h2:l.getD 0 0<240) :
  Calls Tryz.prog 103 #[.string (str l)] w (RunePost w (rn l)):=by
 have mixed:Tryz.prog.follows Departure.mixedOrders=true:=by kernel_rfl
 obtain ⟨t,ht⟩:∃ t,str l=t:=⟨_,rfl⟩
 obtain ⟨n,hn⟩:∃ n,l.length=n:=⟨_,rfl⟩
 have hts:t.size=n:=by rw [←ht,str_len,hn]
 have hsz:0<t.size:=by rw [hts,←hn];exact hl
 obtain ⟨x0,hs0,hc⟩:=get_at l ho t ht 0 hsz
 have HG:Hid (∀ j (hj:j<t.size),∃ x:UInt8,t[j]'hj=x∧x.toNat=l.getD j 0):=Lib.hid fun j hj=>get_at l ho t ht j hj
 have HO:Hid (∀ j,l.getD j 0<256):=Lib.hid fun j=>getD_oct ho j
 have hc256:=getD_oct ho 0
 obtain ⟨c,hcc⟩:∃ c,l.getD 0 0=c:=⟨_,rfl⟩
 obtain ⟨r,hr⟩:∃ r,rn l=r:=⟨_,rfl⟩
 rw [hr]
 have hr':rnN n c (l.getD 1 0) (l.getD 2 0) (l.getD 3 0)=r:=by rw [←hr,←hn,←hcc];rfl
 rw [hcc] at h1 h2 hc hc256
 rw [ht]
 have HRR:=Lib.hid hr'
 have HTS:=Lib.hid hts
 have hsz':(0:Int)<(n:Int):=by omega
 clear ht ho hl hn hr hcc hr'
 have ha:=u8and15 ⟨c,hc256⟩
 simp only at ha
 have d1:decide ((c:Int)<128)=false:=decide_eq_false (by omega)
 have d2:decide ((192:Int)≤(c:Int))=true:=decide_eq_true (by omega)
 have d3:decide ((224:Int)≤(c:Int))=true:=decide_eq_true (by omega)
 have d4:decide ((240:Int)≤(c:Int))=false:=decide_eq_false (by omega)
 have e2:decide ((c:Int)<224)=false:=decide_eq_false (by omega)
 have e3:decide ((c:Int)<240)=true:=decide_eq_true (by omega)
 have e4:decide ((c:Int)<248)=true:=decide_eq_true (by omega)
 have z0:((3:Int) == 0)=false:=rfl
 by_cases hnN:n<3
 ·have q:decide ((n:Int)<3)=true:=decide_eq_true (by omega)
  have hrr:r=0:=by rw [←HRR.out];exact rnN3_short h1 h2 hnN
  have HR:=Lib.hid hrr
  clear hrr
  go_enter Tryz.func103,Tryz.ntmps103
  go_wp2_with fail
  go_ret
  exact RunePost.of rfl HR.out (Below.refl _ _)
 ·have q:decide ((n:Int)<3)=false:=decide_eq_false (by omega)
  obtain ⟨v0,hv0⟩:∃ v0,v0=c % 16:=⟨_,rfl⟩
  have ha':bits .and .u8 (c:Int) 15=(v0:Int):=by rw [hv0];exact ha
  have HV0:=Lib.hid hv0
  have hv0l:v0<16:=by omega
  clear ha hv0
  go_enter Tryz.func103,Tryz.ntmps103
  go_wp2_with fail
  go_loopg [5,7] (3+1) (fun gk v i wx=>Below w.heap.size w wx∧∃ k:Nat,1≤k∧k≤3∧k+gk=3+2∧i = .int .i64 (k:Int)∧v = .int .i64 ((vv v0 (l.getD 1 0) (l.getD 2 0) (l.getD 3 0) k:Nat):Int)∧Hid (∀ j,1≤j→j<k→cont (l.getD j 0)))
  case atStart=>exact ⟨Below.refl _ _,1,by omega,by omega,by omega,rfl,rfl,Lib.hid fun j a b=>by omega⟩
  case round =>
   obtain ⟨hbw,k,hk1,hkN,hgk,rfl,rfl,HC⟩:=hrel
   have HB:=Lib.hid hbw
   clear hbw
   obtain ⟨V,hV⟩:∃ V,vv v0 (l.getD 1 0) (l.getD 2 0) (l.getD 3 0) k=V:=⟨_,rfl⟩
   rw [hV]
   have hVb:V<8388608:=by rw [←hV];exact vv_lt (by omega)
   have HV:=Lib.hid hV
   clear hV
   by_cases hlt:k<3
   ·have dl:decide ((k:Int)<3)=true:=decide_eq_true (by omega)
    obtain ⟨y,hy,hyx⟩:=HG.out k (by rw [HTS.out];omega)
    have hx256:=HO.out k
    obtain ⟨x,hx⟩:∃ x,l.getD k 0=x:=⟨_,rfl⟩
    rw [hx] at hyx hx256
    have HX:=Lib.hid hx
    clear hx
    have hkz:(k:Int)<(n:Int):=by omega
    have hax:=u8and63 ⟨x,hx256⟩
    simp only at hax
    by_cases q1:x<128
    ·have q1z:decide ((x:Int)<128)=true:=decide_eq_true (by omega)
     have hbad:¬ cont (l.getD k 0):=by rw [HX.out];unfold cont;omega
     have hrr:r=0:=by
      rw [←HRR.out]
      rcases (by omega:k=1∨k=2) with rfl | rfl
      ·exact rnN3_cont1 h1 h2 hbad
      ·exact rnN3_cont2 h1 h2 hbad
     have HR:=Lib.hid hrr
     clear hrr hbad
     go_wp2_with fail
     go_ret
     exact RunePost.of rfl HR.out HB.out
    ·have q1z:decide ((x:Int)<128)=false:=decide_eq_false (by omega)
     by_cases q2:192≤x
     ·have q2z:decide ((192:Int)≤(x:Int))=true:=decide_eq_true (by omega)
      have hbad:¬ cont (l.getD k 0):=by rw [HX.out];unfold cont;omega
      have hrr:r=0:=by
       rw [←HRR.out]
       rcases (by omega:k=1∨k=2) with rfl | rfl
       ·exact rnN3_cont1 h1 h2 hbad
       ·exact rnN3_cont2 h1 h2 hbad
      have HR:=Lib.hid hrr
      clear hrr hbad
      go_wp2_with fail
      go_ret
      exact RunePost.of rfl HR.out HB.out
     ·have q2z:decide ((192:Int)≤(x:Int))=false:=decide_eq_false (by omega)
      obtain ⟨X,hX⟩:∃ X,x % 64=X:=⟨_,rfl⟩
      rw [hX] at hax
      have hXb:X<64:=by omega
      have HXX:=Lib.hid hX
      clear hX
      obtain ⟨g',rfl⟩:∃ g',gk=g' + 1:=⟨gk - 1,by omega⟩
      go_wp2_with fail
      go_roundg g'
      case measure=>omega
      case rel =>
       refine ⟨HB.out,k+1,by omega,by omega,by omega,by go_num,?_,Lib.hid fun j a b=>?_⟩
       ·rw [vv_succ v0 _ _ _ k hk1 (by omega),HV.out]
        have e:(if k=1 then l.getD 1 0 else if k=2 then l.getD 2 0 else l.getD 3 0) % 64=X:=by
         rw [←HXX.out,←HX.out]
         rcases (by omega:k=1∨k=2∨k=3) with rfl | rfl | rfl <;> rfl
        rw [e]
        go_num
       ·rcases Nat.lt_or_ge j k with h | h
        ·exact HC.out j a h
        ·obtain rfl:j=k:=by omega
         rw [HX.out];unfold cont;omega
   ·obtain rfl:k=3:=by omega
    have dl:decide ((3:Int)<3)=false:=rfl
    have HV':Hid (vv (c % 16) (l.getD 1 0) (l.getD 2 0) (l.getD 3 0) 3=V):=Lib.hid (by rw [←HV0.out];exact HV.out)
    have hoff:off_ V 2048→r=0:=fun h=>by
     rw [←HRR.out]
     exact rnN3_off h1 h2 (HC.out 1 (by omega) (by omega)) (HC.out 2 (by omega) (by omega)) (by rw [HV'.out];exact h)
    have hon:¬ off_ V 2048→r=3:=fun h=>by
     rw [←HRR.out]
     exact rnN3_yes h1 h2 (by omega) (HC.out 1 (by omega) (by omega)) (HC.out 2 (by omega) (by omega)) (by rw [HV'.out];exact h)
    have HOFF:=Lib.hid hoff
    have HON:=Lib.hid hon
    clear hoff hon
    by_cases p1:V<2048
    ·have p1z:decide ((V:Int)<2048)=true:=decide_eq_true (by omega)
     have HR:=Lib.hid (HOFF.out (.inl p1))
     go_wp2_with fail
     go_ret
     exact RunePost.of rfl HR.out HB.out
    have p1z:decide ((V:Int)<2048)=false:=decide_eq_false (by omega)
    by_cases p2:1114111<V
    ·have p2z:decide ((1114111:Int)<(V:Int))=true:=decide_eq_true (by omega)
     have HR:=Lib.hid (HOFF.out (.inr (.inl p2)))
     go_wp2_with fail
     go_ret
     exact RunePost.of rfl HR.out HB.out
    have p2z:decide ((1114111:Int)<(V:Int))=false:=decide_eq_false (by omega)
    by_cases p3:55296≤V
    ·have p3z:decide ((55296:Int)≤(V:Int))=true:=decide_eq_true (by omega)
     by_cases p4:V≤57343
     ·have p4z:decide ((V:Int)≤57343)=true:=decide_eq_true (by omega)
      have HR:=Lib.hid (HOFF.out (.inr (.inr ⟨p3,p4⟩)))
      go_wp2_with fail
      go_ret
      exact RunePost.of rfl HR.out HB.out
     ·have p4z:decide ((V:Int)≤57343)=false:=decide_eq_false (by omega)
      have HR:=Lib.hid (HON.out (by unfold off_;omega))
      go_wp2_with fail
      go_ret
      exact RunePost.of rfl HR.out HB.out
    ·have p3z:decide ((55296:Int)≤(V:Int))=false:=decide_eq_false (by omega)
     have HR:=Lib.hid (HON.out (by unfold off_;omega))
     go_wp2_with fail
     go_ret
     exact RunePost.of rfl HR.out HB.out

set_option maxRecDepth 1000000 in
set_option maxHeartbeats 8000000 in
theorem rune1_4 (w:World) (l:List Nat) (ho:∀ x∈l,x<256) (hl:0<l.length) (h1:240≤l.getD 0 0) (h2:l.getD 0 0<248) :
  Calls Tryz.prog 103 #[.string (str l)] w (RunePost w (rn l)):=by
 have mixed:Tryz.prog.follows Departure.mixedOrders=true:=by kernel_rfl
 obtain ⟨t,ht⟩:∃ t,str l=t:=⟨_,rfl⟩
 obtain ⟨n,hn⟩:∃ n,l.length=n:=⟨_,rfl⟩
 have hts:t.size=n:=by rw [←ht,str_len,hn]
 have hsz:0<t.size:=by rw [hts,←hn];exact hl
 obtain ⟨x0,hs0,hc⟩:=get_at l ho t ht 0 hsz
 have HG:Hid (∀ j (hj:j<t.size),∃ x:UInt8,t[j]'hj=x∧x.toNat=l.getD j 0):=Lib.hid fun j hj=>get_at l ho t ht j hj
 have HO:Hid (∀ j,l.getD j 0<256):=Lib.hid fun j=>getD_oct ho j
 have hc256:=getD_oct ho 0
 obtain ⟨c,hcc⟩:∃ c,l.getD 0 0=c:=⟨_,rfl⟩
 obtain ⟨r,hr⟩:∃ r,rn l=r:=⟨_,rfl⟩
 rw [hr]
 have hr':rnN n c (l.getD 1 0) (l.getD 2 0) (l.getD 3 0)=r:=by rw [←hr,←hn,←hcc];rfl
 rw [hcc] at h1 h2 hc hc256
 rw [ht]
 have HRR:=Lib.hid hr'
 have HTS:=Lib.hid hts
 have hsz':(0:Int)<(n:Int):=by omega
 clear ht ho hl hn hr hcc hr'
 have ha:=u8and07 ⟨c,hc256⟩
 simp only at ha
 have d1:decide ((c:Int)<128)=false:=decide_eq_false (by omega)
 have d2:decide ((192:Int)≤(c:Int))=true:=decide_eq_true (by omega)
 have d3:decide ((224:Int)≤(c:Int))=true:=decide_eq_true (by omega)
 have d4:decide ((240:Int)≤(c:Int))=true:=decide_eq_true (by omega)
 have e2:decide ((c:Int)<224)=false:=decide_eq_false (by omega)
 have e3:decide ((c:Int)<240)=false:=decide_eq_false (by omega)
 have e4:decide ((c:Int)<248)=true:=decide_eq_true (by omega)
 have z0:((4:Int) == 0)=false:=rfl
 by_cases hnN:n<4
 ·have q:decide ((n:Int)<4)=true:=decide_eq_true (by omega)
  have hrr:r=0:=by rw [←HRR.out];exact rnN4_short h1 h2 hnN
  have HR:=Lib.hid hrr
  clear hrr
  go_enter Tryz.func103,Tryz.ntmps103
  go_wp2_with fail
  go_ret
  exact RunePost.of rfl HR.out (Below.refl _ _)
 ·have q:decide ((n:Int)<4)=false:=decide_eq_false (by omega)
  obtain ⟨v0,hv0⟩:∃ v0,v0=c % 8:=⟨_,rfl⟩
  have ha':bits .and .u8 (c:Int) 7=(v0:Int):=by rw [hv0];exact ha
  have HV0:=Lib.hid hv0
  have hv0l:v0<8:=by omega
  clear ha hv0
  go_enter Tryz.func103,Tryz.ntmps103
  go_wp2_with fail
  go_loopg [5,7] (4+1) (fun gk v i wx=>Below w.heap.size w wx∧∃ k:Nat,1≤k∧k≤4∧k+gk=4+2∧i = .int .i64 (k:Int)∧v = .int .i64 ((vv v0 (l.getD 1 0) (l.getD 2 0) (l.getD 3 0) k:Nat):Int)∧Hid (∀ j,1≤j→j<k→cont (l.getD j 0)))
  case atStart=>exact ⟨Below.refl _ _,1,by omega,by omega,by omega,rfl,rfl,Lib.hid fun j a b=>by omega⟩
  case round =>
   obtain ⟨hbw,k,hk1,hkN,hgk,rfl,rfl,HC⟩:=hrel
   have HB:=Lib.hid hbw
   clear hbw
   obtain ⟨V,hV⟩:∃ V,vv v0 (l.getD 1 0) (l.getD 2 0) (l.getD 3 0) k=V:=⟨_,rfl⟩
   rw [hV]
   have hVb:V<8388608:=by rw [←hV];exact vv_lt (by omega)
   have HV:=Lib.hid hV
   clear hV
   by_cases hlt:k<4
   ·have dl:decide ((k:Int)<4)=true:=decide_eq_true (by omega)
    obtain ⟨y,hy,hyx⟩:=HG.out k (by rw [HTS.out];omega)
    have hx256:=HO.out k
    obtain ⟨x,hx⟩:∃ x,l.getD k 0=x:=⟨_,rfl⟩
    rw [hx] at hyx hx256
    have HX:=Lib.hid hx
    clear hx
    have hkz:(k:Int)<(n:Int):=by omega
    have hax:=u8and63 ⟨x,hx256⟩
    simp only at hax
    by_cases q1:x<128
    ·have q1z:decide ((x:Int)<128)=true:=decide_eq_true (by omega)
     have hbad:¬ cont (l.getD k 0):=by rw [HX.out];unfold cont;omega
     have hrr:r=0:=by
      rw [←HRR.out]
      rcases (by omega:k=1∨k=2∨k=3) with rfl | rfl | rfl
      ·exact rnN4_cont1 h1 h2 hbad
      ·exact rnN4_cont2 h1 h2 hbad
      ·exact rnN4_cont3 h1 h2 hbad
     have HR:=Lib.hid hrr
     clear hrr hbad
     go_wp2_with fail
     go_ret
     exact RunePost.of rfl HR.out HB.out
    ·have q1z:decide ((x:Int)<128)=false:=decide_eq_false (by omega)
     by_cases q2:192≤x
     ·have q2z:decide ((192:Int)≤(x:Int))=true:=decide_eq_true (by omega)
      have hbad:¬ cont (l.getD k 0):=by rw [HX.out];unfold cont;omega
      have hrr:r=0:=by
       rw [←HRR.out]
       rcases (by omega:k=1∨k=2∨k=3) with rfl | rfl | rfl
       ·exact rnN4_cont1 h1 h2 hbad
       ·exact rnN4_cont2 h1 h2 hbad
       ·exact rnN4_cont3 h1 h2 hbad
      have HR:=Lib.hid hrr
      clear hrr hbad
      go_wp2_with fail
      go_ret
      exact RunePost.of rfl HR.out HB.out
     ·have q2z:decide ((192:Int)≤(x:Int))=false:=decide_eq_false (by omega)
      obtain ⟨X,hX⟩:∃ X,x % 64=X:=⟨_,rfl⟩
      rw [hX] at hax
      have hXb:X<64:=by omega
      have HXX:=Lib.hid hX
      clear hX
      obtain ⟨g',rfl⟩:∃ g',gk=g' + 1:=⟨gk - 1,by omega⟩
      go_wp2_with fail
      go_roundg g'
      case measure=>omega
      case rel =>
       refine ⟨HB.out,k+1,by omega,by omega,by omega,by go_num,?_,Lib.hid fun j a b=>?_⟩
       ·rw [vv_succ v0 _ _ _ k hk1 (by omega),HV.out]
        have e:(if k=1 then l.getD 1 0 else if k=2 then l.getD 2 0 else l.getD 3 0) % 64=X:=by
         rw [←HXX.out,←HX.out]
         rcases (by omega:k=1∨k=2∨k=3) with rfl | rfl | rfl <;> rfl
        rw [e]
        go_num
       ·rcases Nat.lt_or_ge j k with h | h
        ·exact HC.out j a h
        ·obtain rfl:j=k:=by omega
         rw [HX.out];unfold cont;omega
   ·obtain rfl:k=4:=by omega
    have dl:decide ((4:Int)<4)=false:=rfl
    have HV':Hid (vv (c % 8) (l.getD 1 0) (l.getD 2 0) (l.getD 3 0) 4=V):=Lib.hid (by rw [←HV0.out];exact HV.out)
    have hoff:off_ V 65536→r=0:=fun h=>by
     rw [←HRR.out]
     exact rnN4_off h1 h2 (HC.out 1 (by omega) (by omega)) (HC.out 2 (by omega) (by omega)) (HC.out 3 (by omega) (by omega)) (by rw [HV'.out];exact h)
    have hon:¬ off_ V 65536→r=4:=fun h=>by
     rw [←HRR.out]
     exact rnN4_yes h1 h2 (by omega) (HC.out 1 (by omega) (by omega)) (HC.out 2 (by omega) (by omega)) (HC.out 3 (by omega) (by omega)) (by rw [HV'.out];exact h)
    have HOFF:=Lib.hid hoff
    have HON:=Lib.hid hon
    clear hoff hon
    by_cases p1:V<65536
    ·have p1z:decide ((V:Int)<65536)=true:=decide_eq_true (by omega)
     have HR:=Lib.hid (HOFF.out (.inl p1))
     go_wp2_with fail
     go_ret
     exact RunePost.of rfl HR.out HB.out
    have p1z:decide ((V:Int)<65536)=false:=decide_eq_false (by omega)
    by_cases p2:1114111<V
    ·have p2z:decide ((1114111:Int)<(V:Int))=true:=decide_eq_true (by omega)
     have HR:=Lib.hid (HOFF.out (.inr (.inl p2)))
     go_wp2_with fail
     go_ret
     exact RunePost.of rfl HR.out HB.out
    have p2z:decide ((1114111:Int)<(V:Int))=false:=decide_eq_false (by omega)
    by_cases p3:55296≤V
    ·have p3z:decide ((55296:Int)≤(V:Int))=true:=decide_eq_true (by omega)
     by_cases p4:V≤57343
     ·have p4z:decide ((V:Int)≤57343)=true:=decide_eq_true (by omega)
      have HR:=Lib.hid (HOFF.out (.inr (.inr ⟨p3,p4⟩)))
      go_wp2_with fail
      go_ret
      exact RunePost.of rfl HR.out HB.out
     ·have p4z:decide ((V:Int)≤57343)=false:=decide_eq_false (by omega)
      have HR:=Lib.hid (HON.out (by unfold off_;omega))
      go_wp2_with fail
      go_ret
      exact RunePost.of rfl HR.out HB.out
    ·have p3z:decide ((55296:Int)≤(V:Int))=false:=decide_eq_false (by omega)
     have HR:=Lib.hid (HON.out (by unfold off_;omega))
     go_wp2_with fail
     go_ret
     exact RunePost.of rfl HR.out HB.out
end Go.Proofs.YtcibjcgipfpniaaGreatDoor
namespace Go.Proofs.YtcibjcgipfpniaaGreatDoor
open Go.RowKit
set_option linter.unusedVariables false
set_option linter.unusedSimpArgs false
attribute [local go_sem ↓] Go.wp_at_zero Go.wp_at_succ

theorem u8_slice:Tryz.prog.underlying 24 = some (.slice (Tryz.prog.elem 24)):=by kernel_rfl
theorem u8_size (W:World):(sizeOf (Tryz.prog.elem 24)).run Tryz.prog W = .ok 1 W:=by kernel_rfl
/-- Where a slice that is cut begins. -/
def cut (off n k:Nat):Nat:=if n=k then off else off+k
theorem cut_run (W:World) (b off n k:Nat) (hk:k≤n) :
  (Instr.sliceAt 24 (.slice (some ⟨b,off,none⟩) n n) (some (.int .i64 (k:Int))) none none).run Tryz.prog W = .ok (.slice (some ⟨b,cut off n k,none⟩) (n - k) (n - k)) W:=by
 rw [run_sliceAt_slice _ _ _ _ _ _ u8_slice,run_slice_l _ _ _ _ _ u8_slice .i64 (k:Int) (by omega) (by omega),u8_size]
 by_cases h:n=k <;> simp [Result.andThen,sliced,cut,h,Addr.add]
theorem whole_run (W:World) (b off n c:Nat) (hc:n≤c) :
  (Instr.sliceAt 24 (.slice (some ⟨b,off,none⟩) n c) none (some (.int .i64 (n:Int))) (some (.int .i64 (n:Int)))).run Tryz.prog W = .ok (.slice (some ⟨b,off,none⟩) n n) W:=by
 rw [run_sliceAt_slice _ _ _ _ _ _ u8_slice,run_slice_hm _ _ _ _ _ u8_slice .i64 .i64 (n:Int) (n:Int) (by omega) (by omega) (by omega),u8_size]
 by_cases h:n=0 <;> simp [Result.andThen,sliced,h,Addr.add]
theorem drawn_below {B:Nat} {a w:World} (h:Below B a w):∀ q,Below B a (w.drewN q)
 | 0=>h
 | q+1=>(drawn_below h q).drew
def dropA0 (A:Option Addr) (c:Nat):Option Addr:=A
/-- The bytes that are left, and where. -/
def Mem8 (w:World) (A:Option Addr) (n:Nat) (l:List Nat):Prop:=l.length=n∧(0<n→∃ b off,A=some ⟨b,off,none⟩∧b<w.heap.size∧Lies w b off l)∧∀ x∈l,x<256
section
variable {w W:World} {A:Option Addr} {n:Nat} {l:List Nat}
theorem Mem8.cut (h:Mem8 w A n l) (m:Nat) (z:Int) (hz:z=(m:Int)) (hm:m≤n) (h0:0<n):∃ A' k,(∀ W,(Instr.sliceAt 24 (.slice A n n) (some (.int .i64 z)) none none).run Tryz.prog W = .ok (.slice A' k k) W)∧Hid (Mem8 w A' k (l.drop m))∧k+m=n:=by
 subst hz
 obtain ⟨hn,hl,ho⟩:=h
 obtain ⟨b,off,rfl,hb,hL⟩:=hl h0
 refine ⟨_,n - m,fun W=>cut_run W b off n m hm,Lib.hid ⟨by rw [List.length_drop,hn],fun h1=>⟨b,off+m,?_,hb,hL.drop m⟩,fun x hx=>ho x (List.mem_of_mem_drop hx)⟩,by omega⟩
 unfold Go.Proofs.YtcibjcgipfpniaaGreatDoor.cut
 rw [if_neg (by omega)]
theorem Mem8.start {B c:Nat} (hr:Rd .u8 w B A c l) (hn:l.length=n) (hB:B≤w.heap.size) (ho:∀ x∈l,x<256):∃ A',(∀ W,(Instr.sliceAt 24 (.slice A n c) none (some (.int .i64 (n:Int))) (some (.int .i64 (n:Int)))).run Tryz.prog W = .ok (.slice A' n n) W)∧Mem8 w A' n l:=by
 have hc:=hr.1
 by_cases h0:n=0
 ·have hs:∃ A',∀ W,(Instr.sliceAt 24 (.slice A n c) none (some (.int .i64 (n:Int))) (some (.int .i64 (n:Int)))).run Tryz.prog W = .ok (.slice A' n n) W:=by
   subst h0
   refine ⟨dropA0 A c,fun W=>?_⟩
   rw [run_sliceAt_slice _ _ _ _ _ _ u8_slice,run_slice_hm _ _ _ _ _ u8_slice .i64 .i64 ((0:Nat):Int) ((0:Nat):Int) (by omega) (by omega) (by omega),u8_size]
   simp [Result.andThen,sliced,dropA0]
  obtain ⟨A',hs⟩:=hs
  exact ⟨A',hs,hn,fun h=>by omega,ho⟩
 ·obtain ⟨b,off,rfl,hb,hL⟩:=hr.2.2 (by omega)
  exact ⟨_,fun W=>whole_run W b off n c (by omega),hn,fun _=>⟨b,off,rfl,by omega,hL⟩,ho⟩
theorem Mem8.word (h:Mem8 w A n l) (h8:8≤n) (hW:Below w.heap.size w W):Calls Tryz.prog 129 #[.slice A n n] W fun e w'=>e = .returned (.int .u64 (w8 l:Int))∧∃ q,w'=W.drewN q:=by
 obtain ⟨hn,hl,ho⟩:=h
 obtain ⟨b,off,rfl,hb,hL⟩:=hl (by omega)
 exact w8_any W b off n n l ho (fun j hj=>(hW.cell (p:=⟨b,_,none⟩) hb).trans (hL j hj)) hn h8
/-- A byte's place. -/
theorem Mem8.at_ (h:Mem8 w A n l) (h0:0<n):∃ b off,A=some ⟨b,off,none⟩∧∀ W,Below w.heap.size w W→∀ j,j<n→W.cell? ⟨b,off+j,none⟩=some (.int .u8 ((l.getD j 0:Nat):Int)):=by
 obtain ⟨hn,hl,ho⟩:=h
 obtain ⟨b,off,rfl,hb,hL⟩:=hl h0
 exact ⟨b,off,rfl,fun W hW j hj=>(hW.cell (p:=⟨b,_,none⟩) hb).trans (hL j (by omega))⟩
end
theorem mask_word {l:List Nat} (h:Nat):bits .and .u64 ((w8 l:Nat):Int) 9259542123273814144=((w8 l &&& 9259542123273814144:Nat):Int):=u64_and_nat _ 9259542123273814144 (w8_lt l) (by omega)
end Go.Proofs.YtcibjcgipfpniaaGreatDoor
