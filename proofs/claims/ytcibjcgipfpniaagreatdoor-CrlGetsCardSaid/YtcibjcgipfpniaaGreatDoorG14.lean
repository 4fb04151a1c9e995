/- Words and laws for the statement, part 14. -/
import Derived.ChangeKeysEq
import Derived.Test.YtcibjcgipfpniaaGreatDoorG06
import Derived.Test.YtcibjcgipfpniaaGreatDoorG07
import Derived.Test.YtcibjcgipfpniaaGreatDoorG09
import Derived.Test.YtcibjcgipfpniaaGreatDoorG13
namespace Go.Proofs.YtcibjcgipfpniaaGreatDoor
open Go.RowKit
set_option linter.unusedVariables false
attribute [local go_sem ↓] Go.wp_at_zero Go.wp_at_succ

def GetPost (w:World) (tag:Nat) (b:List Nat) (nk:Nat) (e:Ending) (w':World):Prop :=
 ((∃ t,IsTime tag b nk t∧e = .returned (.tuple #[.int .i64 t,.bool true]))∨((∀ t,¬ IsTime tag b nk t)∧e = .returned (.tuple #[.int .i64 0,.bool false])))∧Below w.heap.size w w'

theorem get_noneWhen12 {w w':World} {tag:Nat} {b:List Nat} {nk:Nat} (h:∀ t,¬ IsTime tag b nk t) (hb:Below w.heap.size w w'):GetPost w tag b nk (.returned (.tuple #[.int .i64 0,.bool false])) w':=⟨.inr ⟨h,rfl⟩,hb⟩
theorem get_some {w w':World} {tag:Nat} {b:List Nat} {nk:Nat} {t:Int} (h:IsTime tag b nk t) (hb:Below w.heap.size w w'):GetPost w tag b nk (.returned (.tuple #[.int .i64 t,.bool true])) w':=⟨.inl ⟨t,h,rfl⟩,hb⟩

theorem quiet_first {P:Program} {f:FuncId} {args:Array Value} {w:World} {n:Nat} {v:Value} (h:∀ W:World,Calls P f args W fun e w'=>e = .returned v∧W=w'):Calls P f args (w.drewN n) fun e w'=>e = .returned v∧∃ m,w'=w.drewN m :=
 (h _).mono fun _ _ hh=>⟨hh.1,n,hh.2.symm⟩
def dayT (y m d:Int):Int:=if y=0∧m<3 then -365+(153*(m+9)+2)/5+d - 1 - 719468 else dayI y m d
theorem dayT_pos {y m d:Int} (h:1≤y):dayT y m d=dayI y m d:=by unfold dayT;rw [if_neg (by omega)]
theorem dayT_range {y m d:Int} (hy0:0≤y) (hy:y≤10000) (hm0:0≤m) (hm:m≤99) (hd0:0≤d) (hd:d≤99):-800000≤dayT y m d∧dayT y m d≤4000000∧(y=0→dayT y m d≤-600000):=by
 unfold dayT dayI
 by_cases h0:y=0∧m<3
 ·rw [if_pos h0];omega
 ·rw [if_neg h0]
  by_cases h3:m<3
  ·simp only [h3,if_true]
   omega
  ·simp only [h3,if_false]
   omega
set_option maxRecDepth 100000 in
theorem days_all (w:World) (y m d:Int) (hy0:0≤y) (hy:y≤10000) (hm0:0≤m) (hm:m≤99) (hd0:0≤d) (hd:d≤99) (v:Int) (hv:dayT y m d=v) :
  Calls Tryz.prog 123 #[.int .i64 y,.int .i64 m,.int .i64 d] w fun e w'=>e = .returned (.int .i64 v)∧w=w':=by
 by_cases h1:1≤y
 ·exact days_any w y m d h1 (by omega) hm0 (by omega) hd0 (by omega) v (by rw [←dayT_pos h1];exact hv)
 ·obtain rfl:y=0:=by omega
  have HV:=Lib.hid hv
  clear hv h1
  by_cases hm3:m<3
  ·go_enter Tryz.func123,Tryz.ntmps123
   go_wp2_with fail
   go_ret
   refine ⟨ret_int ?_,rfl⟩
   rw [←HV.out];unfold dayT
   rw [if_pos ⟨rfl,hm3⟩]
  ·go_enter Tryz.func123,Tryz.ntmps123
   go_wp2_with fail
   go_ret
   refine ⟨ret_int ?_,rfl⟩
   rw [←HV.out];unfold dayT dayI
   have hm4:¬ m<3:=by omega
   rw [if_neg (by omega)]
   simp only [hm4,if_false]
   omega

theorem T23a {b:List Nat} {nk x0 x1 x2 x3 x4 x5:Nat} {D T:Int} (p0:x0=pv b 0) (p1:x1=pv b 1) (p2:x2=pv b 2) (p3:x3=pv b 3) (p4:x4=pv b 4) (p5:x5=pv b 5) (hD:D=dayT (1900+(x0:Int)+100) x1 x2) (hT:T=D*86400+((x3:Int)*3600+(x4:Int)*60+(x5:Int))) (h50:x0<50) (t:Int) (h:IsTime 23 b nk t):T=t:=by
 obtain ⟨_,_,⟨_,_,h2⟩ | ⟨h2,_,_⟩⟩:=time_says h
 ·rw [←p0,←p1,←p2,←p3,←p4,←p5] at h2
  rw [hT,hD,←h2,dayT_pos (by omega)]
  unfold sayI year2
  rw [if_pos h50,show ((x0+2000:Nat):Int)=1900+(x0:Int)+100 by omega]
 ·cases h2
theorem T23b {b:List Nat} {nk x0 x1 x2 x3 x4 x5:Nat} {D T:Int} (p0:x0=pv b 0) (p1:x1=pv b 1) (p2:x2=pv b 2) (p3:x3=pv b 3) (p4:x4=pv b 4) (p5:x5=pv b 5) (hD:D=dayT (1900+(x0:Int)) x1 x2) (hT:T=D*86400+((x3:Int)*3600+(x4:Int)*60+(x5:Int))) (h50:¬ x0<50) (t:Int) (h:IsTime 23 b nk t):T=t:=by
 obtain ⟨_,_,⟨_,_,h2⟩ | ⟨h2,_,_⟩⟩:=time_says h
 ·rw [←p0,←p1,←p2,←p3,←p4,←p5] at h2
  rw [hT,hD,←h2,dayT_pos (by omega)]
  unfold sayI year2
  rw [if_neg h50,show ((x0+1900:Nat):Int)=1900+(x0:Int) by omega]
 ·cases h2
theorem T24 {b:List Nat} {nk x0 x1 x2 x3 x4 x5 x6:Nat} {D T:Int} (p0:x0=pv b 0) (p1:x1=pv b 1) (p2:x2=pv b 2) (p3:x3=pv b 3) (p4:x4=pv b 4) (p5:x5=pv b 5) (p6:x6=pv b 6) (hD:D=dayT (100*(x0:Int)+(x1:Int)) x2 x3) (hT:T=D*86400+((x4:Int)*3600+(x5:Int)*60+(x6:Int))) (t:Int) (h:IsTime 24 b nk t):T=t:=by
 obtain ⟨_,_,⟨h2,_,_⟩ | ⟨_,_,h3,h2⟩⟩:=time_says h
 ·cases h2
 ·rw [←p0,←p1,←p2,←p3,←p4,←p5,←p6] at h2
  rw [←p0,←p1] at h3
  rw [hT,hD,←h2,dayT_pos (by omega)]
  unfold sayI
  rw [show ((100*x0+x1:Nat):Int)=100*(x0:Int)+(x1:Int) by omega]

theorem same_no (w:World) (B B':Nat) (A A' K:Option Addr) (c c' n n' k kc ta tb:Nat) (l l':List Nat) (hn:l.length=n) (hn':l'.length=n') (hr:Rd .u8 w B A c l) (hr':Rd .u8 w B' A' c' l') (hB:B≤w.heap.size) (hB':B'≤w.heap.size) (ho:Oct8 l) (ho':Oct8 l') (hkc:k≤1000000)
  (hne:¬ (tb=ta∧l'=l∧k=0)) :
  Calls Tryz.prog 48 #[.agg #[.int .u8 ta,.slice A n c,.slice none 0 0],.agg #[.int .u8 tb,.slice A' n' c',.slice K k kc]] w fun e w'=>e = .returned (.bool false)∧Below w.heap.size w w':=by
 by_cases h1:ta=tb
 ·subst h1
  by_cases h2:l=l'
  ·subst h2
   obtain rfl:n'=n:=by omega
   exact same_kids w B B' A A' K c c' n' k kc ta l hn hr hr' hB hB' ho (by have:k≠0:=fun e=>hne ⟨rfl,rfl,e⟩;omega) hkc
  ·exact same_body w B B' A A' K c c' n n' k kc ta l l' hn hn' hr hr' hB hB' ho ho' h2
 ·exact same_tag w A A' K c c' n n' k kc ta tb h1

set_option maxRecDepth 100000 in
set_option maxHeartbeats 4000000 in
theorem get_any (w:World) (tag:Nat) (B:Nat) (A:Option Addr) (c n:Nat) (b:List Nat) (hn:b.length=n) (hr:Rd .u8 w B A c b) (hB:B≤w.heap.size) (ho:Oct8 b) (ht:tag<256) (K:Option Addr) (nk kc:Nat) (hnk:nk≤1000000) :
  Calls Tryz.prog 91 #[.agg #[.int .u8 tag,.slice A n c,.slice K nk kc]] w (GetPost w tag b nk):=by
 have hrb:Rd .u8 (w.alloc (.cells #[.int .u8 tag,.slice A n c,.slice K nk kc] 32)) B A c b:=hr.alloc hB _
 have hbel:Below w.heap.size w (w.alloc (.cells #[.int .u8 tag,.slice A n c,.slice K nk kc] 32)):=(Below.refl _ _).alloc (Nat.le_refl _) _
 have hbox:=Holds.fresh w 32 #[.int .u8 tag,.slice A n c,.slice K nk kc]
 have HB:=Lib.hid hn
 clear hn hr
 go_enter Tryz.func91,Tryz.ntmps91
 go_wp2_with fail
 refine (pairs_any _ B A c n b HB.out hrb (by simp;omega) ho).mono ?_
 rintro e w1 hp
 unfold PairsPost at hp
 rcases hp with ⟨hg,A1,c1,rfl,hr1,hb1⟩ | ⟨hg,rfl,hb1⟩
 case inr =>
  have HG:=Lib.hid (fun t (h:IsTime tag b nk t)=>hg (time_says h).1)
  have hbel1:=hbel.trans (hb1.mono (by simp))
  clear hg
  go_wp2_with fail
  go_ret2
  exact get_noneWhen12 HG.out hbel1
 case inl =>
 have hbox1:=hbox.under hb1 (by simp)
 have hbel1:=hbel.trans (hb1.mono (by simp))
 have hsz1:w.heap.size+1≤w1.heap.size:=by have:=hb1.size;simpa using this
 have HRB:=Lib.hid (hrb.under (hb1.mono (by simp;omega)))
 clear hb1 hbox hbel
 have hc1:=hbox1.cell
 obtain ⟨m,Hm⟩:∃ m,Hid (m=(b.length - 1) / 2):=⟨_,rfl⟩
 rw [←Hm.out] at hr1 ⊢
 have hm7:m≤7:=by have:=Hm.out;have:=hg.len;omega
 have HG:=Lib.hid hg
 have HR:=Lib.hid hr1
 have HBX:=Lib.hid hbox1
 clear hg hr1 hbox1
 by_cases h23:tag=23∧m=6
 ·obtain ⟨rfl,rfl⟩:=h23
  obtain ⟨bl,off,x0,rfl,_,hx0,Hx0⟩:=HR.out.at_ (i:=0) (by rw [pvs_length];omega)
  obtain ⟨_,_,x1,e0,_,hx1,Hx1⟩:=HR.out.at_ (i:=1) (by rw [pvs_length];omega)
  obtain ⟨rfl,rfl⟩:bl=_∧off=_:=by injection e0 with e0;injection e0 with e1 e2;exact ⟨e1,e2⟩
  clear e0
  obtain ⟨_,_,x2,e0,_,hx2,Hx2⟩:=HR.out.at_ (i:=2) (by rw [pvs_length];omega)
  obtain ⟨rfl,rfl⟩:bl=_∧off=_:=by injection e0 with e0;injection e0 with e1 e2;exact ⟨e1,e2⟩
  clear e0
  obtain ⟨_,_,x3,e0,_,hx3,Hx3⟩:=HR.out.at_ (i:=3) (by rw [pvs_length];omega)
  obtain ⟨rfl,rfl⟩:bl=_∧off=_:=by injection e0 with e0;injection e0 with e1 e2;exact ⟨e1,e2⟩
  clear e0
  obtain ⟨_,_,x4,e0,_,hx4,Hx4⟩:=HR.out.at_ (i:=4) (by rw [pvs_length];omega)
  obtain ⟨rfl,rfl⟩:bl=_∧off=_:=by injection e0 with e0;injection e0 with e1 e2;exact ⟨e1,e2⟩
  clear e0
  obtain ⟨_,_,x5,e0,_,hx5,Hx5⟩:=HR.out.at_ (i:=5) (by rw [pvs_length];omega)
  obtain ⟨rfl,rfl⟩:bl=_∧off=_:=by injection e0 with e0;injection e0 with e1 e2;exact ⟨e1,e2⟩
  clear e0
  have Hp0:Hid (x0=pv b 0):=Lib.hid (Hx0.out.trans (pvs_at b (by omega)))
  have hb0:x0≤99:=by rw [Hp0.out];exact pv_le HG.out (by have:=Hm.out;omega)
  clear Hx0
  have Hp1:Hid (x1=pv b 1):=Lib.hid (Hx1.out.trans (pvs_at b (by omega)))
  have hb1:x1≤99:=by rw [Hp1.out];exact pv_le HG.out (by have:=Hm.out;omega)
  clear Hx1
  have Hp2:Hid (x2=pv b 2):=Lib.hid (Hx2.out.trans (pvs_at b (by omega)))
  have hb2:x2≤99:=by rw [Hp2.out];exact pv_le HG.out (by have:=Hm.out;omega)
  clear Hx2
  have Hp3:Hid (x3=pv b 3):=Lib.hid (Hx3.out.trans (pvs_at b (by omega)))
  have hb3:x3≤99:=by rw [Hp3.out];exact pv_le HG.out (by have:=Hm.out;omega)
  clear Hx3
  have Hp4:Hid (x4=pv b 4):=Lib.hid (Hx4.out.trans (pvs_at b (by omega)))
  have hb4:x4≤99:=by rw [Hp4.out];exact pv_le HG.out (by have:=Hm.out;omega)
  clear Hx4
  have Hp5:Hid (x5=pv b 5):=Lib.hid (Hx5.out.trans (pvs_at b (by omega)))
  have hb5:x5≤99:=by rw [Hp5.out];exact pv_le HG.out (by have:=Hm.out;omega)
  clear Hx5
  have hx0:w1.cell? ⟨bl,off,none⟩=some (.int .i64 (x0:Int)):=hx0
  by_cases h50:x0<50
  ·have h50':decide ((x0:Int)<50)=true:=decide_eq_true (by omega)
   obtain ⟨D,HD⟩:∃ D,Hid (D=dayT (1900+(x0:Int)+100) (x1:Int) (x2:Int)):=⟨_,rfl⟩
   have hDr:=dayT_range (y:=1900+(x0:Int)+100) (m:=(x1:Int)) (d:=(x2:Int)) (by omega) (by omega) (by omega) (by omega) (by omega) (by omega)
   rw [←HD.out] at hDr
   have hD1:=hDr.1
   have hD2:=hDr.2.1
   have HD0:=Lib.hid hDr.2.2
   clear hDr
   obtain ⟨T,HT⟩:∃ T:Int,Hid (T=D*86400+((x3:Int)*3600+(x4:Int)*60+(x5:Int))):=⟨_,rfl⟩
   have HS:Hid (∀ t,IsTime 23 b nk t→T=t):=Lib.hid (by
    exact T23a Hp0.out Hp1.out Hp2.out Hp3.out Hp4.out Hp5.out HD.out HT.out h50)
   go_wp2_with fail
   have hw1:IntKind.i64.wrap (D*86400)=D*86400:=IntWalk.i64_in _ (by omega)
   have hw2:IntKind.i64.wrap ((x3:Int)*3600)=(x3:Int)*3600:=IntWalk.i64_in _ (by omega)
   have hw3:IntKind.i64.wrap ((x4:Int)*60)=(x4:Int)*60:=IntWalk.i64_in _ (by omega)
   have hw4:IntKind.i64.wrap ((x3:Int)*3600+(x4:Int)*60)=(x3:Int)*3600+(x4:Int)*60:=IntWalk.i64_in _ (by omega)
   have hw5:IntKind.i64.wrap ((x3:Int)*3600+(x4:Int)*60+(x5:Int))=(x3:Int)*3600+(x4:Int)*60+(x5:Int):=IntWalk.i64_in _ (by omega)
   have hw6:IntKind.i64.wrap (D*86400+((x3:Int)*3600+(x4:Int)*60+(x5:Int)))=D*86400+((x3:Int)*3600+(x4:Int)*60+(x5:Int)):=IntWalk.i64_in _ (by omega)
   have HDY:∀ W,Calls Tryz.prog 123 #[.int .i64 (1900+(x0:Int)+100),.int .i64 (x1:Int),.int .i64 (x2:Int)] W fun e w'=>e = .returned (.int .i64 D)∧W=w':=fun W=>days_all W _ _ _ (by omega) (by omega) (by omega) (by omega) (by omega) (by omega) D HD.out.symm
   go_quiet ((go_at_call 123;exact quiet_first (fun W=>HDY W)))
   rename_i nq
   clear hw1 hw2 hw3 hw4 hw5 hw6
   go_wp2_with fail
   rw [←HT.out]
   have hboxW:=HBX.out.drewN nq
   have hrbW:Rd .u8 (w1.drewN nq) B A c b:=HRB.out.drewN nq
   have hbelW:=below_drewN hbel1 nq
   have hszW:w.heap.size+1≤(w1.drewN nq).heap.size:=hsz1
   generalize w1.drewN nq=W at *
   have hcW:=hboxW.cell
   have hboxD:=Lib.hid hboxW.drew
   have hrbD:Hid (Rd .u8 W.drew B A c b):=Lib.hid hrbW
   have hbelD:=Lib.hid hbelW.drew
   by_cases hin:-631152000≤T∧T≤253402300799
   ·obtain ⟨h0,h1⟩:=hin
    obtain ⟨x,hx⟩:=date_is T h0 h1
    have HXX:=Lib.hid hx
    clear hx
    obtain ⟨tg,Htg⟩:∃ tg,Hid (tagOf x=tg):=⟨_,rfl⟩
    obtain ⟨N,HN⟩:∃ N,Hid ((bodyOf x).length=N):=⟨_,rfl⟩
    by_cases hI:23=tagOf x∧b=bodyOf x∧nk=0
    ·have HI:Hid (IsTime 23 b nk T):=Lib.hid ⟨x,h0,h1,HXX.out,hI.1,hI.2.1,hI.2.2⟩
     obtain ⟨hI1,hI2,rfl⟩:=hI
     obtain rfl:tg=23:=Htg.out.symm.trans hI1.symm
     obtain rfl:n=N:=HB.out.symm.trans ((congrArg List.length hI2).trans HN.out)
     have Hb:=Lib.hid hI2
     clear hI1 hI2
     go_region_law (first
      | (go_simp;go_at_call 27;refine (is_yes _ T h0 h1).mono ?_;rintro e w' ⟨rfl,rfl⟩;go_simp)
      | (go_simp;go_at_call 39;refine (time_yes _ T h0 h1 x HXX.out _ _ Htg.out HN.out).mono ?_;rintro e w2 ⟨A2,c2,rfl,hr2,hb2⟩;rw [←Hb.out] at hr2;have hbox2:=hboxD.out.under hb2 (by simp;omega);have hrb2:=(hrbD.out.under (hb2.mono (by simp;omega)):Rd .u8 w2 B A c b);have hcw2:=hbox2.cell;have hbel2:=hbelD.out.trans (hb2.mono (by simp;omega));have hsz2:=hb2.size;clear hb2 hbox2;go_simp)
      | (go_simp;go_at_call 48;refine (same_all _ _ B A2 A K c2 c n kc 23 b HB.out hr2 hrb2 (by simp) (by simp at hsz2;omega) ho).mono ?_;rintro e w3 ⟨rfl,hb3⟩;go_simp))
     all_goals
      go_wp2_with fail
      go_ret2
      exact get_some HI.out (hbel2.trans (hb3.mono (by simp at hsz2;omega)))
    ·have HI:Hid (∀ t,¬ IsTime 23 b nk t):=Lib.hid (fun t h=>by
      obtain rfl:=HS.out t h
      obtain ⟨z,_,_,hz,a1,a2,a3⟩:=h
      obtain rfl:=IsDate.same HXX.out hz
      exact hI ⟨a1,a2,a3⟩)
     have HNI:=Lib.hid (show ¬ (23=tg∧b=bodyOf x∧nk=0) by rw [←Htg.out];exact hI)
     clear hI
     go_region_law (first
      | (go_simp;go_at_call 27;refine (is_yes _ T h0 h1).mono ?_;rintro e w' ⟨rfl,rfl⟩;go_simp)
      | (go_simp;go_at_call 39;refine (time_yes _ T h0 h1 x HXX.out _ _ Htg.out HN.out).mono ?_;rintro e w2 ⟨A2,c2,rfl,hr2,hb2⟩;have hbox2:=hboxD.out.under hb2 (by simp;omega);have hrb2:=(hrbD.out.under (hb2.mono (by simp;omega)):Rd .u8 w2 B A c b);have hcw2:=hbox2.cell;have hbel2:=hbelD.out.trans (hb2.mono (by simp;omega));have hsz2:=hb2.size;clear hb2 hbox2;go_simp)
      | (go_simp;go_at_call 48;refine (same_no _ _ B A2 A K c2 c N n nk kc tg 23 (bodyOf x) b HN.out HB.out hr2 hrb2 (by simp) (by simp at hsz2;omega) (body_oct x) ho hnk HNI.out).mono ?_;rintro e w3 ⟨rfl,hb3⟩;go_simp))
     all_goals
      go_wp2_with fail
      go_ret2
      exact get_noneWhen12 HI.out (hbel2.trans (hb3.mono (by simp at hsz2;omega)))
   ·have HI:Hid (∀ t,¬ IsTime 23 b nk t):=Lib.hid (fun t h=>by
     obtain rfl:=HS.out t h
     obtain ⟨z,h0,h1,_⟩:=h
     exact hin ⟨h0,h1⟩)
    have hout:T < -631152000∨253402300799<T:=by omega
    clear hin
    go_big_quiet ((go_at_call 27;exact quiet_first (fun W=>is_no W T hout)))
    go_wp2_with fail
    go_ret2
    exact get_noneWhen12 HI.out (below_drewN hbelW _)
  ·have h50':decide ((x0:Int)<50)=false:=decide_eq_false (by omega)
   obtain ⟨D,HD⟩:∃ D,Hid (D=dayT (1900+(x0:Int)) (x1:Int) (x2:Int)):=⟨_,rfl⟩
   have hDr:=dayT_range (y:=1900+(x0:Int)) (m:=(x1:Int)) (d:=(x2:Int)) (by omega) (by omega) (by omega) (by omega) (by omega) (by omega)
   rw [←HD.out] at hDr
   have hD1:=hDr.1
   have hD2:=hDr.2.1
   have HD0:=Lib.hid hDr.2.2
   clear hDr
   obtain ⟨T,HT⟩:∃ T:Int,Hid (T=D*86400+((x3:Int)*3600+(x4:Int)*60+(x5:Int))):=⟨_,rfl⟩
   have HS:Hid (∀ t,IsTime 23 b nk t→T=t):=Lib.hid (by
    exact T23b Hp0.out Hp1.out Hp2.out Hp3.out Hp4.out Hp5.out HD.out HT.out h50)
   go_wp2_with fail
   have hw1:IntKind.i64.wrap (D*86400)=D*86400:=IntWalk.i64_in _ (by omega)
   have hw2:IntKind.i64.wrap ((x3:Int)*3600)=(x3:Int)*3600:=IntWalk.i64_in _ (by omega)
   have hw3:IntKind.i64.wrap ((x4:Int)*60)=(x4:Int)*60:=IntWalk.i64_in _ (by omega)
   have hw4:IntKind.i64.wrap ((x3:Int)*3600+(x4:Int)*60)=(x3:Int)*3600+(x4:Int)*60:=IntWalk.i64_in _ (by omega)
   have hw5:IntKind.i64.wrap ((x3:Int)*3600+(x4:Int)*60+(x5:Int))=(x3:Int)*3600+(x4:Int)*60+(x5:Int):=IntWalk.i64_in _ (by omega)
   have hw6:IntKind.i64.wrap (D*86400+((x3:Int)*3600+(x4:Int)*60+(x5:Int)))=D*86400+((x3:Int)*3600+(x4:Int)*60+(x5:Int)):=IntWalk.i64_in _ (by omega)
   have HDY:∀ W,Calls Tryz.prog 123 #[.int .i64 (1900+(x0:Int)),.int .i64 (x1:Int),.int .i64 (x2:Int)] W fun e w'=>e = .returned (.int .i64 D)∧W=w':=fun W=>days_all W _ _ _ (by omega) (by omega) (by omega) (by omega) (by omega) (by omega) D HD.out.symm
   go_quiet ((go_at_call 123;exact quiet_first (fun W=>HDY W)))
   rename_i nq
   clear hw1 hw2 hw3 hw4 hw5 hw6
   go_wp2_with fail
   rw [←HT.out]
   have hboxW:=HBX.out.drewN nq
   have hrbW:Rd .u8 (w1.drewN nq) B A c b:=HRB.out.drewN nq
   have hbelW:=below_drewN hbel1 nq
   have hszW:w.heap.size+1≤(w1.drewN nq).heap.size:=hsz1
   generalize w1.drewN nq=W at *
   have hcW:=hboxW.cell
   have hboxD:=Lib.hid hboxW.drew
   have hrbD:Hid (Rd .u8 W.drew B A c b):=Lib.hid hrbW
   have hbelD:=Lib.hid hbelW.drew
   by_cases hin:-631152000≤T∧T≤253402300799
   ·obtain ⟨h0,h1⟩:=hin
    obtain ⟨x,hx⟩:=date_is T h0 h1
    have HXX:=Lib.hid hx
    clear hx
    obtain ⟨tg,Htg⟩:∃ tg,Hid (tagOf x=tg):=⟨_,rfl⟩
    obtain ⟨N,HN⟩:∃ N,Hid ((bodyOf x).length=N):=⟨_,rfl⟩
    by_cases hI:23=tagOf x∧b=bodyOf x∧nk=0
    ·have HI:Hid (IsTime 23 b nk T):=Lib.hid ⟨x,h0,h1,HXX.out,hI.1,hI.2.1,hI.2.2⟩
     obtain ⟨hI1,hI2,rfl⟩:=hI
     obtain rfl:tg=23:=Htg.out.symm.trans hI1.symm
     obtain rfl:n=N:=HB.out.symm.trans ((congrArg List.length hI2).trans HN.out)
     have Hb:=Lib.hid hI2
     clear hI1 hI2
     go_region_law (first
      | (go_simp;go_at_call 27;refine (is_yes _ T h0 h1).mono ?_;rintro e w' ⟨rfl,rfl⟩;go_simp)
      | (go_simp;go_at_call 39;refine (time_yes _ T h0 h1 x HXX.out _ _ Htg.out HN.out).mono ?_;rintro e w2 ⟨A2,c2,rfl,hr2,hb2⟩;rw [←Hb.out] at hr2;have hbox2:=hboxD.out.under hb2 (by simp;omega);have hrb2:=(hrbD.out.under (hb2.mono (by simp;omega)):Rd .u8 w2 B A c b);have hcw2:=hbox2.cell;have hbel2:=hbelD.out.trans (hb2.mono (by simp;omega));have hsz2:=hb2.size;clear hb2 hbox2;go_simp)
      | (go_simp;go_at_call 48;refine (same_all _ _ B A2 A K c2 c n kc 23 b HB.out hr2 hrb2 (by simp) (by simp at hsz2;omega) ho).mono ?_;rintro e w3 ⟨rfl,hb3⟩;go_simp))
     all_goals
      go_wp2_with fail
      go_ret2
      exact get_some HI.out (hbel2.trans (hb3.mono (by simp at hsz2;omega)))
    ·have HI:Hid (∀ t,¬ IsTime 23 b nk t):=Lib.hid (fun t h=>by
      obtain rfl:=HS.out t h
      obtain ⟨z,_,_,hz,a1,a2,a3⟩:=h
      obtain rfl:=IsDate.same HXX.out hz
      exact hI ⟨a1,a2,a3⟩)
     have HNI:=Lib.hid (show ¬ (23=tg∧b=bodyOf x∧nk=0) by rw [←Htg.out];exact hI)
     clear hI
     go_region_law (first
      | (go_simp;go_at_call 27;refine (is_yes _ T h0 h1).mono ?_;rintro e w' ⟨rfl,rfl⟩;go_simp)
      | (go_simp;go_at_call 39;refine (time_yes _ T h0 h1 x HXX.out _ _ Htg.out HN.out).mono ?_;rintro e w2 ⟨A2,c2,rfl,hr2,hb2⟩;have hbox2:=hboxD.out.under hb2 (by simp;omega);have hrb2:=(hrbD.out.under (hb2.mono (by simp;omega)):Rd .u8 w2 B A c b);have hcw2:=hbox2.cell;have hbel2:=hbelD.out.trans (hb2.mono (by simp;omega));have hsz2:=hb2.size;clear hb2 hbox2;go_simp)
      | (go_simp;go_at_call 48;refine (same_no _ _ B A2 A K c2 c N n nk kc tg 23 (bodyOf x) b HN.out HB.out hr2 hrb2 (by simp) (by simp at hsz2;omega) (body_oct x) ho hnk HNI.out).mono ?_;rintro e w3 ⟨rfl,hb3⟩;go_simp))
     all_goals
      go_wp2_with fail
      go_ret2
      exact get_noneWhen12 HI.out (hbel2.trans (hb3.mono (by simp at hsz2;omega)))
   ·have HI:Hid (∀ t,¬ IsTime 23 b nk t):=Lib.hid (fun t h=>by
     obtain rfl:=HS.out t h
     obtain ⟨z,h0,h1,_⟩:=h
     exact hin ⟨h0,h1⟩)
    have hout:T < -631152000∨253402300799<T:=by omega
    clear hin
    go_big_quiet ((go_at_call 27;exact quiet_first (fun W=>is_no W T hout)))
    go_wp2_with fail
    go_ret2
    exact get_noneWhen12 HI.out (below_drewN hbelW _)
 by_cases h24:tag=24∧m=7
 ·obtain ⟨rfl,rfl⟩:=h24
  obtain ⟨bl,off,x0,rfl,_,hx0,Hx0⟩:=HR.out.at_ (i:=0) (by rw [pvs_length];omega)
  obtain ⟨_,_,x1,e0,_,hx1,Hx1⟩:=HR.out.at_ (i:=1) (by rw [pvs_length];omega)
  obtain ⟨rfl,rfl⟩:bl=_∧off=_:=by injection e0 with e0;injection e0 with e1 e2;exact ⟨e1,e2⟩
  clear e0
  obtain ⟨_,_,x2,e0,_,hx2,Hx2⟩:=HR.out.at_ (i:=2) (by rw [pvs_length];omega)
  obtain ⟨rfl,rfl⟩:bl=_∧off=_:=by injection e0 with e0;injection e0 with e1 e2;exact ⟨e1,e2⟩
  clear e0
  obtain ⟨_,_,x3,e0,_,hx3,Hx3⟩:=HR.out.at_ (i:=3) (by rw [pvs_length];omega)
  obtain ⟨rfl,rfl⟩:bl=_∧off=_:=by injection e0 with e0;injection e0 with e1 e2;exact ⟨e1,e2⟩
  clear e0
  obtain ⟨_,_,x4,e0,_,hx4,Hx4⟩:=HR.out.at_ (i:=4) (by rw [pvs_length];omega)
  obtain ⟨rfl,rfl⟩:bl=_∧off=_:=by injection e0 with e0;injection e0 with e1 e2;exact ⟨e1,e2⟩
  clear e0
  obtain ⟨_,_,x5,e0,_,hx5,Hx5⟩:=HR.out.at_ (i:=5) (by rw [pvs_length];omega)
  obtain ⟨rfl,rfl⟩:bl=_∧off=_:=by injection e0 with e0;injection e0 with e1 e2;exact ⟨e1,e2⟩
  clear e0
  obtain ⟨_,_,x6,e0,_,hx6,Hx6⟩:=HR.out.at_ (i:=6) (by rw [pvs_length];omega)
  obtain ⟨rfl,rfl⟩:bl=_∧off=_:=by injection e0 with e0;injection e0 with e1 e2;exact ⟨e1,e2⟩
  clear e0
  have Hp0:Hid (x0=pv b 0):=Lib.hid (Hx0.out.trans (pvs_at b (by omega)))
  have hb0:x0≤99:=by rw [Hp0.out];exact pv_le HG.out (by have:=Hm.out;omega)
  clear Hx0
  have Hp1:Hid (x1=pv b 1):=Lib.hid (Hx1.out.trans (pvs_at b (by omega)))
  have hb1:x1≤99:=by rw [Hp1.out];exact pv_le HG.out (by have:=Hm.out;omega)
  clear Hx1
  have Hp2:Hid (x2=pv b 2):=Lib.hid (Hx2.out.trans (pvs_at b (by omega)))
  have hb2:x2≤99:=by rw [Hp2.out];exact pv_le HG.out (by have:=Hm.out;omega)
  clear Hx2
  have Hp3:Hid (x3=pv b 3):=Lib.hid (Hx3.out.trans (pvs_at b (by omega)))
  have hb3:x3≤99:=by rw [Hp3.out];exact pv_le HG.out (by have:=Hm.out;omega)
  clear Hx3
  have Hp4:Hid (x4=pv b 4):=Lib.hid (Hx4.out.trans (pvs_at b (by omega)))
  have hb4:x4≤99:=by rw [Hp4.out];exact pv_le HG.out (by have:=Hm.out;omega)
  clear Hx4
  have Hp5:Hid (x5=pv b 5):=Lib.hid (Hx5.out.trans (pvs_at b (by omega)))
  have hb5:x5≤99:=by rw [Hp5.out];exact pv_le HG.out (by have:=Hm.out;omega)
  clear Hx5
  have Hp6:Hid (x6=pv b 6):=Lib.hid (Hx6.out.trans (pvs_at b (by omega)))
  have hb6:x6≤99:=by rw [Hp6.out];exact pv_le HG.out (by have:=Hm.out;omega)
  clear Hx6
  have hx0:w1.cell? ⟨bl,off,none⟩=some (.int .i64 (x0:Int)):=hx0
  have hx1':w1.cell? ⟨bl,off+1,none⟩=some (.int .i64 (x1:Int)):=hx1
  have hx2:w1.cell? ⟨bl,off+1+1,none⟩=some (.int .i64 (x2:Int)):=by rw [Nat.add_assoc];exact hx2
  have hx3:w1.cell? ⟨bl,off+1+2,none⟩=some (.int .i64 (x3:Int)):=by rw [Nat.add_assoc];exact hx3
  have hx4:w1.cell? ⟨bl,off+1+3,none⟩=some (.int .i64 (x4:Int)):=by rw [Nat.add_assoc];exact hx4
  have hx5:w1.cell? ⟨bl,off+1+4,none⟩=some (.int .i64 (x5:Int)):=by rw [Nat.add_assoc];exact hx5
  have hx6:w1.cell? ⟨bl,off+1+5,none⟩=some (.int .i64 (x6:Int)):=by rw [Nat.add_assoc];exact hx6
  have hc7:¬ c1=1:=by have:=HR.out.1;rw [pvs_length] at this;omega
  have hc71:(1:Int)≤(c1:Int):=by have:=HR.out.1;rw [pvs_length] at this;omega
  obtain ⟨D,HD⟩:∃ D,Hid (D=dayT (100*(x0:Int)+(x1:Int)) (x2:Int) (x3:Int)):=⟨_,rfl⟩
  have hDr:=dayT_range (y:=100*(x0:Int)+(x1:Int)) (m:=(x2:Int)) (d:=(x3:Int)) (by omega) (by omega) (by omega) (by omega) (by omega) (by omega)
  rw [←HD.out] at hDr
  have hD1:=hDr.1
  have hD2:=hDr.2.1
  have HD0:=Lib.hid hDr.2.2
  clear hDr
  obtain ⟨T,HT⟩:∃ T:Int,Hid (T=D*86400+((x4:Int)*3600+(x5:Int)*60+(x6:Int))):=⟨_,rfl⟩
  have HS:Hid (∀ t,IsTime 24 b nk t→T=t):=Lib.hid (by
   exact T24 Hp0.out Hp1.out Hp2.out Hp3.out Hp4.out Hp5.out Hp6.out HD.out HT.out)
  go_wp2_with fail
  have hv1:IntKind.i64.wrap (100*(x0:Int))=100*(x0:Int):=IntWalk.i64_in _ (by omega)
  have hv2:IntKind.i64.wrap (100*(x0:Int)+(x1:Int))=100*(x0:Int)+(x1:Int):=IntWalk.i64_in _ (by omega)
  go_quiet (fail)
  revert nq
  intro nqa
  clear hv1 hv2
  go_wp2_with fail
  have hw1:IntKind.i64.wrap (D*86400)=D*86400:=IntWalk.i64_in _ (by omega)
  have hw2:IntKind.i64.wrap ((x4:Int)*3600)=(x4:Int)*3600:=IntWalk.i64_in _ (by omega)
  have hw3:IntKind.i64.wrap ((x5:Int)*60)=(x5:Int)*60:=IntWalk.i64_in _ (by omega)
  have hw4:IntKind.i64.wrap ((x4:Int)*3600+(x5:Int)*60)=(x4:Int)*3600+(x5:Int)*60:=IntWalk.i64_in _ (by omega)
  have hw5:IntKind.i64.wrap ((x4:Int)*3600+(x5:Int)*60+(x6:Int))=(x4:Int)*3600+(x5:Int)*60+(x6:Int):=IntWalk.i64_in _ (by omega)
  have hw6:IntKind.i64.wrap (D*86400+((x4:Int)*3600+(x5:Int)*60+(x6:Int)))=D*86400+((x4:Int)*3600+(x5:Int)*60+(x6:Int)):=IntWalk.i64_in _ (by omega)
  have HDY:∀ W,Calls Tryz.prog 123 #[.int .i64 (100*(x0:Int)+(x1:Int)),.int .i64 (x2:Int),.int .i64 (x3:Int)] W fun e w'=>e = .returned (.int .i64 D)∧W=w':=fun W=>days_all W _ _ _ (by omega) (by omega) (by omega) (by omega) (by omega) (by omega) D HD.out.symm
  go_quiet ((go_at_call 123;exact quiet_on (fun W=>HDY W)))
  clear hw1 hw2 hw3 hw4 hw5 hw6
  go_wp2_with fail
  rw [←HT.out]
  try rw [World.drewN_drewN]
  have hboxW:=HBX.out.drewN (nqa+nq)
  have hrbW:Rd .u8 (w1.drewN (nqa+nq)) B A c b:=HRB.out.drewN (nqa+nq)
  have hbelW:=below_drewN hbel1 (nqa+nq)
  have hszW:w.heap.size+1≤(w1.drewN (nqa+nq)).heap.size:=hsz1
  generalize w1.drewN (nqa+nq)=W at *
  have hcW:=hboxW.cell
  have hboxD:=Lib.hid hboxW.drew
  have hrbD:Hid (Rd .u8 W.drew B A c b):=Lib.hid hrbW
  have hbelD:=Lib.hid hbelW.drew
  by_cases hin:-631152000≤T∧T≤253402300799
  ·obtain ⟨h0,h1⟩:=hin
   obtain ⟨x,hx⟩:=date_is T h0 h1
   have HXX:=Lib.hid hx
   clear hx
   obtain ⟨tg,Htg⟩:∃ tg,Hid (tagOf x=tg):=⟨_,rfl⟩
   obtain ⟨N,HN⟩:∃ N,Hid ((bodyOf x).length=N):=⟨_,rfl⟩
   by_cases hI:24=tagOf x∧b=bodyOf x∧nk=0
   ·have HI:Hid (IsTime 24 b nk T):=Lib.hid ⟨x,h0,h1,HXX.out,hI.1,hI.2.1,hI.2.2⟩
    obtain ⟨hI1,hI2,rfl⟩:=hI
    obtain rfl:tg=24:=Htg.out.symm.trans hI1.symm
    obtain rfl:n=N:=HB.out.symm.trans ((congrArg List.length hI2).trans HN.out)
    have Hb:=Lib.hid hI2
    clear hI1 hI2
    go_region_law (first
     | (go_simp;go_at_call 27;refine (is_yes _ T h0 h1).mono ?_;rintro e w' ⟨rfl,rfl⟩;go_simp)
     | (go_simp;go_at_call 39;refine (time_yes _ T h0 h1 x HXX.out _ _ Htg.out HN.out).mono ?_;rintro e w2 ⟨A2,c2,rfl,hr2,hb2⟩;rw [←Hb.out] at hr2;have hbox2:=hboxD.out.under hb2 (by simp;omega);have hrb2:=(hrbD.out.under (hb2.mono (by simp;omega)):Rd .u8 w2 B A c b);have hcw2:=hbox2.cell;have hbel2:=hbelD.out.trans (hb2.mono (by simp;omega));have hsz2:=hb2.size;clear hb2 hbox2;go_simp)
     | (go_simp;go_at_call 48;refine (same_all _ _ B A2 A K c2 c n kc 24 b HB.out hr2 hrb2 (by simp) (by simp at hsz2;omega) ho).mono ?_;rintro e w3 ⟨rfl,hb3⟩;go_simp))
    all_goals
     go_wp2_with fail
     go_ret2
     exact get_some HI.out (hbel2.trans (hb3.mono (by simp at hsz2;omega)))
   ·have HI:Hid (∀ t,¬ IsTime 24 b nk t):=Lib.hid (fun t h=>by
     obtain rfl:=HS.out t h
     obtain ⟨z,_,_,hz,a1,a2,a3⟩:=h
     obtain rfl:=IsDate.same HXX.out hz
     exact hI ⟨a1,a2,a3⟩)
    have HNI:=Lib.hid (show ¬ (24=tg∧b=bodyOf x∧nk=0) by rw [←Htg.out];exact hI)
    clear hI
    go_region_law (first
     | (go_simp;go_at_call 27;refine (is_yes _ T h0 h1).mono ?_;rintro e w' ⟨rfl,rfl⟩;go_simp)
     | (go_simp;go_at_call 39;refine (time_yes _ T h0 h1 x HXX.out _ _ Htg.out HN.out).mono ?_;rintro e w2 ⟨A2,c2,rfl,hr2,hb2⟩;have hbox2:=hboxD.out.under hb2 (by simp;omega);have hrb2:=(hrbD.out.under (hb2.mono (by simp;omega)):Rd .u8 w2 B A c b);have hcw2:=hbox2.cell;have hbel2:=hbelD.out.trans (hb2.mono (by simp;omega));have hsz2:=hb2.size;clear hb2 hbox2;go_simp)
     | (go_simp;go_at_call 48;refine (same_no _ _ B A2 A K c2 c N n nk kc tg 24 (bodyOf x) b HN.out HB.out hr2 hrb2 (by simp) (by simp at hsz2;omega) (body_oct x) ho hnk HNI.out).mono ?_;rintro e w3 ⟨rfl,hb3⟩;go_simp))
    all_goals
     go_wp2_with fail
     go_ret2
     exact get_noneWhen12 HI.out (hbel2.trans (hb3.mono (by simp at hsz2;omega)))
  ·have HI:Hid (∀ t,¬ IsTime 24 b nk t):=Lib.hid (fun t h=>by
    obtain rfl:=HS.out t h
    obtain ⟨z,h0,h1,_⟩:=h
    exact hin ⟨h0,h1⟩)
   have hout:T < -631152000∨253402300799<T:=by omega
   clear hin
   go_big_quiet ((go_at_call 27;exact quiet_first (fun W=>is_no W T hout)))
   go_wp2_with fail
   go_ret2
   exact get_noneWhen12 HI.out (below_drewN hbelW _)
 ·have HN:Hid (∀ t,¬ IsTime tag b nk t):=Lib.hid (fun t h=>by
   have hs:=(time_says h).2.2
   have:=Hm.out
   rcases hs with ⟨a1,a2,_⟩ | ⟨a1,a2,_⟩
   ·exact h23 ⟨a1,by omega⟩
   ·exact h24 ⟨a1,by omega⟩)
  by_cases g23:tag=23
  ·subst g23
   have q1:((m:Int) == 6)=false:=by rw [beq_eq_false_iff_ne];omega
   clear h23 h24
   go_wp2_with fail
   go_ret2
   exact get_noneWhen12 HN.out hbel1
  ·have q0:((tag:Int) == 23)=false:=by rw [beq_eq_false_iff_ne];omega
   by_cases g24:tag=24
   ·subst g24
    have q1:((m:Int) == 7)=false:=by rw [beq_eq_false_iff_ne];omega
    clear h23 h24 g23
    go_wp2_with fail
    go_ret2
    exact get_noneWhen12 HN.out hbel1
   ·have q1:((tag:Int) == 24)=false:=by rw [beq_eq_false_iff_ne];omega
    clear h23 h24 g23 g24
    go_wp2_with fail
    go_ret2
    exact get_noneWhen12 HN.out hbel1
end Go.Proofs.YtcibjcgipfpniaaGreatDoor
namespace Go.Proofs.YtcibjcgipfpniaaGreatDoor
open Go.RowKit
set_option linter.unusedVariables false
attribute [local go_sem ↓] Go.wp_at_zero Go.wp_at_succ

theorem IsTime.one {tag:Nat} {b:List Nat} {nk:Nat} {t t':Int} (h:IsTime tag b nk t) (h':IsTime tag b nk t'):t=t':=by
 obtain ⟨_,_,a⟩:=time_says h
 obtain ⟨_,_,a'⟩:=time_says h'
 rcases a with ⟨h1,_,e⟩ | ⟨h1,_,_,e⟩ <;> rcases a' with ⟨h1',_,e'⟩ | ⟨h1',_,_,e'⟩
 ·rw [←e,←e']
 ·omega
 ·omega
 ·rw [←e,←e']

end Go.Proofs.YtcibjcgipfpniaaGreatDoor
namespace Go.Proofs.YtcibjcgipfpniaaGreatDoor
open Go.RowKit
set_option linter.unusedVariables false
set_option linter.unusedSimpArgs false

/-- The time that a thing tells. -/
noncomputable def whenT (t:Tr):Option Int :=
 @dite _ (∃ u,IsTime t.tag t.body t.kids.length u) (Classical.propDecidable _) (fun h=>some (Classical.choose h)) (fun _=>none)
theorem when_some {t:Tr} {u:Int} (h:IsTime t.tag t.body t.kids.length u):whenT t=some u:=by
 have he:∃ u,IsTime t.tag t.body t.kids.length u:=⟨u,h⟩
 unfold whenT
 rw [dif_pos he,IsTime.one (Classical.choose_spec he) h]
theorem when_none {t:Tr} (h:∀ u,¬ IsTime t.tag t.body t.kids.length u):whenT t=none:=by
 unfold whenT
 rw [dif_neg (fun ⟨u,hu⟩=>h u hu)]
theorem when_back {t:Int} (h0:-631152000≤t) (h1:t≤253402300799):whenT (timeTr t)=some t :=
 when_some ⟨dateOf t,h0,h1,dateOf_is h0 h1,rfl,rfl,rfl⟩
/-- The number that a thing tells, in twenty bytes. -/
def serN (t:Tr):Option (List Nat):=if heldOk t.tag t.kids.length 2=true then gi t.body 20 else none
theorem serN_back {s:List Nat} (hd:Dg s) (h:okN s=true) (hb:nb s<160):serN (.mk 2 (intB s) [])=some s:=by
 unfold serN
 rw [if_pos (show heldOk (Tr.mk 2 (intB s) []).tag (Tr.mk 2 (intB s) []).kids.length 2=true from rfl)]
 exact gi_int hd (okN_nrm h).2 (okN_nrm h).1 (by omega)
/-- What one part tells: a number and a time. -/
noncomputable def serT (t:Tr):Option GV :=
 if (seqK 48 t).length=2 then
  match serN ((seqK 48 t).getD 0 default),whenT ((seqK 48 t).getD 1 default) with
  | some s,some u=>some ⟨s,u⟩
  | _,_=>none
 else none
theorem serT_two {t:Tr} {s:List Nat} {u:Int} (h2:(seqK 48 t).length=2) (hs:serN ((seqK 48 t).getD 0 default)=some s) (hu:whenT ((seqK 48 t).getD 1 default)=some u):serT t=some ⟨s,u⟩:=by
 unfold serT
 rw [if_pos h2,hs,hu]
theorem serT_len {t:Tr} (h2:(seqK 48 t).length≠2):serT t=none:=by
 unfold serT
 rw [if_neg h2]
theorem serT_num {t:Tr} (hs:serN ((seqK 48 t).getD 0 default)=none):serT t=none:=by
 unfold serT
 by_cases h2:(seqK 48 t).length=2
 ·rw [if_pos h2,hs]
 ·rw [if_neg h2]
theorem serT_when {t:Tr} (hu:whenT ((seqK 48 t).getD 1 default)=none):serT t=none:=by
 unfold serT
 by_cases h2:(seqK 48 t).length=2
 ·rw [if_pos h2,hu]
  cases serN ((seqK 48 t).getD 0 default) <;> rfl
 ·rw [if_neg h2]
theorem gn_seq (g:GV):seqK 48 (gnTr g)=[.mk 2 (intB g.ser) [],timeTr g.tm]:=by
 unfold seqK gnTr
 rw [if_pos (show seqOk (Tr.mk 48 [] [.mk 2 (intB g.ser) [],timeTr g.tm]).tag (Tr.mk 48 [] [.mk 2 (intB g.ser) [],timeTr g.tm]).body.length 48=true from rfl)]
 rfl
/-- One that may be. -/
def GnM (g:GV):Prop:=Dg g.ser∧okN g.ser=true∧nb g.ser<160∧-631152000≤g.tm∧g.tm≤253402300799
theorem ser_back {g:GV} (h:GnM g):serT (gnTr g)=some g:=by
 obtain ⟨h1,h2,h3,h4,h5⟩:=h
 refine serT_two (s:=g.ser) (u:=g.tm) ?_ ?_ ?_
 ·rw [gn_seq];rfl
 ·rw [gn_seq];exact serN_back h1 h2 h3
 ·rw [gn_seq];exact when_back h4 h5
/-- What is read of the things of a row is that row. -/
theorem gones_read {l l0:List GV} (h:∀ g∈l,GnM g) {ks:List Tr} (hk:ks=l.map gnTr) (hl:l0.length=ks.length) (ho:∀ j,j<ks.length→serT (ks.getD j default)=some (l0.getD j default)):l0=l:=by
 subst hk
 rw [List.length_map] at hl ho
 refine List.ext_getElem hl fun j h1 h2=>?_
 have h3:=ho j h2
 rw [show (l.map gnTr).getD j default=gnTr l[j] by simp [List.getD,h2],ser_back (h _ (List.getElem_mem h2))] at h3
 injection h3 with h3
 simpa [List.getD,h1] using h3.symm
theorem gones_inj {l l':List GV} (h:∀ g∈l,GnM g) (h':∀ g∈l',GnM g) (e:l.map gnTr=l'.map gnTr):l=l':=by
 have hl:=congrArg List.length e
 rw [List.length_map,List.length_map] at hl
 refine gones_read h' e (by rw [List.length_map]) fun j hj=>?_
 rw [List.length_map] at hj
 rw [show (l.map gnTr).getD j default=gnTr l[j] by simp [List.getD,hj],ser_back (h _ (List.getElem_mem hj))]
 simp [List.getD,hj]
theorem time_inj {t u:Int} (h:-631152000≤t∧t≤253402300799) (h':-631152000≤u∧u≤253402300799) (e:timeTr t=timeTr u):t=u:=by
 have h1:=when_back h.1 h.2
 rw [e,when_back h'.1 h'.2] at h1
 injection h1 with h1
 exact h1.symm
/-- The whole: what may be, with digits that are digits. -/
def CvM (v:CV):Prop:=crlOk v=true∧∀ g∈v.gone,Dg g.ser
theorem CvM.gones {v:CV} (h:CvM v):∀ g∈v.gone,GnM g:=fun g hg=>by
 have h1:=(crlOk_parts h.1).2.2.2.2.2.2 g hg
 exact ⟨h.2 g hg,h1.1.1,h1.1.2.2,h1.2.1,h1.2.2⟩
theorem clTr_inj {v v':CV} (h:CvM v) (h':CvM v') (e:clTr v=clTr v'):v=v':=by
 obtain ⟨p1,p2,p3,_⟩:=crlOk_parts h.1
 obtain ⟨q1,q2,q3,_⟩:=crlOk_parts h'.1
 unfold clTr clBody at e
 injection e with _ _ e
 injection e with e1 e2
 injection e1 with _ _ e1
 injection e1 with d e1
 injection e1 with t e1
 injection e1 with g _
 injection t with _ _ t
 injection t with t1 t2
 injection t2 with t2 _
 injection g with _ _ g
 injection e2 with e2 _
 injection e2 with _ e2 _
 injection e2 with _ e2
 exact cv_eq.2 ⟨dnTr_inj p1 q1 d,time_inj p2 q2 t1,time_inj p3 q3 t2,gones_inj h.gones h'.gones g,e2⟩
end Go.Proofs.YtcibjcgipfpniaaGreatDoor
namespace Go.Proofs.YtcibjcgipfpniaaGreatDoor
open Go.RowKit
set_option linter.unusedVariables false
set_option linter.unusedSimpArgs false
attribute [local go_sem ↓] Go.wp_at_zero Go.wp_at_succ

set_option maxRecDepth 100000 in
set_option maxHeartbeats 2000000 in
theorem digest_no (w:World) (cl:Cl) (h:ClP cl w) (hT:Lib.Utf8Tabs 0 1 w) (hsz:∀ x∈cl.iss,(bts x.s).length≤9223372036854775807) (hno:crlOk cl.v=false) :
  Calls Tryz.prog 8 #[.agg (ccell cl).toArray] w fun e w'=>e = .returned (.slice none 0 0)∧Below w.heap.size w w':=by
 have hq0:Below w.heap.size w (w.alloc (.cells (ccell cl).toArray 26)):=(Below.refl _ _).alloc (Nat.le_refl _) _
 have hH0:=Holds.fresh w 26 (ccell cl).toArray
 have his:=crlIs_any (w.alloc (.cells (ccell cl).toArray 26)) cl ((Off.of_c h).under hq0).at_ (Utf8Tabs_below hT hq0) hsz
 rw [hno] at his
 obtain ⟨ia,ic,iss,tat,tnx,ga,gc,gone,sa,sc,sig⟩:=cl
 simp only [ccell] at hq0 hH0 his ⊢
 generalize iss.length=isn at *
 generalize gone.length=gn at *
 generalize sig.length=sn at *
 have HIS:=Lib.hid his
 have HB0:=Lib.hid hq0
 have c0:=hH0.cell 0
 have c1:=hH0.cell 1
 have c2:=hH0.cell 2
 have c3:=hH0.cell 3
 have c4:=hH0.cell 4
 clear h hT hsz hno hq0 hH0 his
 go_enter Tryz.func8,Tryz.ntmps8
 go_wp2_with fail
 refine HIS.out.mono ?_
 rintro e w2 ⟨rfl,hb2⟩
 have HB2:=Lib.hid (HB0.out.trans (hb2.mono HB0.out.size))
 clear hb2 c0 c1 c2 c3 c4
 go_wp2_with fail
 go_ret
 exact ⟨rfl,HB2.out⟩
theorem rd_one (w:World) (x:Nat) (xi:Int) (hx:xi=(x:Int)):Off [] (fun w'=>Rd .u32 w' w'.heap.size (some ⟨w.heap.size,0,none⟩) 1 [x]) (w.alloc (.cells #[.int .u32 xi] 59)):=by
 subst hx
 refine Off.of_rd (B:=w.heap.size+1) ?_ (by simp)
 have hH:=Holds.fresh w 59 #[.int .u32 (x:Int)]
 refine ⟨Nat.le_refl _,by omega,fun _=>⟨w.heap.size,0,rfl,by omega,fun j hj=>?_⟩⟩
 obtain rfl:j=0:=by simp at hj;omega
 exact hH.cell 0
theorem gs_one {w:World} {g:Gn} (h:Off [] (GnP g) w):Off [] (GsP (some ⟨w.heap.size,0,none⟩) 1 [g]) (w.alloc (.cells (gcell g).toArray 44)):=by
 have hH:=Holds.fresh w 44 (gcell g).toArray
 intro w' h2 h3
 have hs:(w.alloc (.cells (gcell g).toArray 44)).heap.size=w.heap.size+1:=by simp
 have hH':Holds w' w.heap.size 44 (gcell g).toArray:=(h3 _ (by simp) (by omega)).trans hH
 refine ⟨⟨by simp,by omega,fun _=>⟨w.heap.size,0,rfl,by omega,fun j hj=>?_⟩⟩,fun x hx=>?_⟩
 ·obtain rfl:j=0:=by simp at hj;omega
  exact ⟨hH'.cell 0,hH'.cell 1⟩
 ·rw [List.mem_singleton.1 hx]
  exact (h.alloc _) w' h2 h3
theorem dg_one {x:Nat} (h:x<4294967296):Dg [x]:=fun y hy=>by rw [List.mem_singleton.1 hy];exact h
theorem off_gn {w:World} {A:Option Addr} {c:Nat} {l:List Nat} {t:Int} (h:Off [] (fun w'=>Rd .u32 w' w'.heap.size A c l) w) (hd:Dg l):Off [] (GnP ⟨A,c,l,t⟩) w:=fun w' h2 h3=>⟨h w' h2 h3,hd⟩
set_option maxRecDepth 100000 in
set_option maxHeartbeats 4000000 in
theorem known19_any (w:World) (hT:Lib.Utf8Tabs 0 1 w) :
  Calls Tryz.prog 15 #[] w fun e w'=>e = .returned (.bool true)∧Below w.heap.size w w':=by
 have hr1:=rd_one w 5 5 rfl
 have hg1:=gs_one (off_gn (t:=10) hr1 (dg_one (by decide)))
 have hs1:(w.alloc (.cells #[.int .u32 5] 59)).heap.size=w.heap.size+1:=by simp
 simp only [gcell] at hg1
 rw [hs1] at hg1
 have hg1:Off [] (GsP (some ⟨w.heap.size+1,0,none⟩) 1 [⟨some ⟨w.heap.size,0,none⟩,1,[5],10⟩]) ((w.alloc (.cells #[.int .u32 5] 59)).alloc (.cells #[.slice (some ⟨w.heap.size,0,none⟩) 1 1,.int .i64 10] 44)):=hg1
 obtain ⟨V,hV⟩:∃ V,V=((w.alloc (.cells #[.int .u32 5] 59)).alloc (.cells #[.slice (some ⟨w.heap.size,0,none⟩) 1 1,.int .i64 10] 44)).alloc (.cells #[.slice none 0 0,.int .i64 0,.int .i64 0,.slice (some ⟨w.heap.size+1,0,none⟩) 1 1,.slice none 0 0] 26):=⟨_,rfl⟩
 have hbV:Below w.heap.size w V:=by
  rw [hV]
  exact (((Below.refl _ _).alloc (Nat.le_refl _) _).alloc (by simp) _).alloc (by simp;omega) _
 have hgV:Off [] (GsP (some ⟨w.heap.size+1,0,none⟩) 1 [⟨some ⟨w.heap.size,0,none⟩,1,[5],10⟩]) V:=by rw [hV];exact hg1.alloc _
 have hHV:Holds V (w.heap.size+1+1) 26 #[.slice none 0 0,.int .i64 0,.int .i64 0,.slice (some ⟨w.heap.size+1,0,none⟩) 1 1,.slice none 0 0]:=by
  rw [hV]
  have h:=Holds.fresh ((w.alloc (.cells #[.int .u32 5] 59)).alloc (.cells #[.slice (some ⟨w.heap.size,0,none⟩) 1 1,.int .i64 10] 44)) 26 #[.slice none 0 0,.int .i64 0,.int .i64 0,.slice (some ⟨w.heap.size+1,0,none⟩) 1 1,.slice none 0 0]
  rwa [show ((w.alloc (.cells #[.int .u32 5] 59)).alloc (.cells #[.slice (some ⟨w.heap.size,0,none⟩) 1 1,.int .i64 10] 44)).heap.size=w.heap.size+1+1 by simp] at h
 have HGONE:Hid (∀ (W:World) (x:Nat) (xi t:Int),xi=(x:Int)→Below V.heap.size V W→Calls Tryz.prog 44 #[.agg #[.slice none 0 0,.int .i64 0,.int .i64 0,.slice (some ⟨w.heap.size+1,0,none⟩) 1 1,.slice none 0 0],.slice (some ⟨W.heap.size,0,none⟩) 1 1,.int .i64 t] (W.alloc (.cells #[.int .u32 xi] 59)) fun e w'=>e = .returned (.bool (goneS [⟨[5],10⟩] [x] t))∧Below (W.alloc (.cells #[.int .u32 xi] 59)).heap.size (W.alloc (.cells #[.int .u32 xi] 59)) w'):=Lib.hid fun W x xi t hx hW =>
  gone_any (W.alloc (.cells #[.int .u32 xi] 59)) ⟨none,0,[],0,0,some ⟨w.heap.size+1,0,none⟩,1,[⟨some ⟨w.heap.size,0,none⟩,1,[5],10⟩],none,0,[]⟩ ((hgV.under hW).alloc _) 0 (some ⟨W.heap.size,0,none⟩) 1 1 [x] (rd_one W x xi hx) rfl t
 have HDIG:Hid (∀ W,Below V.heap.size V W→Calls Tryz.prog 8 #[.agg #[.slice none 0 0,.int .i64 0,.int .i64 0,.slice (some ⟨w.heap.size+1,0,none⟩) 1 1,.slice none 0 0]] W fun e w'=>e = .returned (.slice none 0 0)∧Below W.heap.size W w'):=Lib.hid fun W hW =>
  digest_no W ⟨none,0,[],0,0,some ⟨w.heap.size+1,0,none⟩,1,[⟨some ⟨w.heap.size,0,none⟩,1,[5],10⟩],none,0,[]⟩ ⟨RdA.nil_ _ _ _ _ (Nat.zero_le _),(hgV.under hW).at_,Rd.nil_ _ _ _,fun x hx=>by cases hx⟩ (Utf8Tabs_below hT (hbV.trans (hW.mono hbV.size))) (fun x hx=>by cases hx) rfl
 have HBV:=Lib.hid hbV
 have HHV:=Lib.hid hHV
 have HLT:Hid (w.heap.size+1+1<V.heap.size):=Lib.hid hHV.lt
 have HV:=Lib.hid hV
 clear hr1 hg1 hs1 hbV hgV hHV hV hT
 have d1:goneS [⟨[5],10⟩] [5] 10=true:=by decide
 have d2:goneS [⟨[5],10⟩] [5] 9=false:=by decide
 have d3:goneS [⟨[5],10⟩] [6] 10=false:=by decide
 have hVs:V.heap.size=w.heap.size+1+1+1:=by rw [HV.out];simp
 have HC1:=HGONE.out V 5 5 10 rfl (Below.refl _ _)
 rw [d1] at HC1
 have HC1:Calls Tryz.prog 44 #[.agg #[.slice none 0 0,.int .i64 0,.int .i64 0,.slice (some ⟨w.heap.size+1,0,none⟩) 1 1,.slice none 0 0],.slice (some ⟨w.heap.size+1+1+1,0,none⟩) 1 1,.int .i64 10] (V.alloc (.cells #[.int .u32 5] 59)) fun e w'=>e = .returned (.bool true)∧Below (V.alloc (.cells #[.int .u32 5] 59)).heap.size (V.alloc (.cells #[.int .u32 5] 59)) w':=by rw [←hVs];exact HC1
 have HC1:=Lib.hid HC1
 have hb3:Below V.heap.size V (V.alloc (.cells #[.int .u32 5] 59)):=(Below.refl _ _).alloc (Nat.le_refl _) _
 have HB3:=Lib.hid hb3
 have c0:=HHV.out.cell 0
 have c1:=HHV.out.cell 1
 have c2:=HHV.out.cell 2
 have c3:=HHV.out.cell 3
 have c4:=HHV.out.cell 4
 rw [HV.out] at c0 c1 c2 c3 c4
 clear hb3 hVs
 go_enter Tryz.func15,Tryz.ntmps15
 go_wp2_with fail
 rw [←HV.out]
 refine HC1.out.mono ?_
 rintro e w1 ⟨rfl,hb1⟩
 have HB1:=Lib.hid (HB3.out.trans (hb1.mono HB3.out.size))
 clear hb1 c0 c1 c2 c3 c4 HC1 HV
 have hh:=HHV.out.under HB1.out HLT.out
 have c0:=hh.cell 0
 have c1:=hh.cell 1
 have c2:=hh.cell 2
 have c3:=hh.cell 3
 have c4:=hh.cell 4
 have hc:=HGONE.out w1 5 5 9 rfl HB1.out
 rw [d2] at hc
 have HC:=Lib.hid hc
 have hq:Below w1.heap.size w1 (w1.alloc (.cells #[.int .u32 5] 59)):=(Below.refl _ _).alloc (Nat.le_refl _) _
 have HQ:=Lib.hid (HB1.out.trans (hq.mono HB1.out.size))
 clear hh hc hq
 go_wp2_with fail
 refine HC.out.mono ?_
 rintro e w2 ⟨rfl,hb⟩
 have HB2:=Lib.hid (HQ.out.trans (hb.mono HQ.out.size))
 clear hb c0 c1 c2 c3 c4 HC HQ
 have hh:=HHV.out.under HB2.out HLT.out
 have c0:=hh.cell 0
 have c1:=hh.cell 1
 have c2:=hh.cell 2
 have c3:=hh.cell 3
 have c4:=hh.cell 4
 have hc:=HGONE.out w2 6 6 10 rfl HB2.out
 rw [d3] at hc
 have HC:=Lib.hid hc
 have hq:Below w2.heap.size w2 (w2.alloc (.cells #[.int .u32 6] 59)):=(Below.refl _ _).alloc (Nat.le_refl _) _
 have HQ:=Lib.hid (HB2.out.trans (hq.mono HB2.out.size))
 clear hh hc hq
 go_wp2_with fail
 refine HC.out.mono ?_
 rintro e w3 ⟨rfl,hb⟩
 have HB3:=Lib.hid (HQ.out.trans (hb.mono HQ.out.size))
 clear hb c0 c1 c2 c3 c4 HC HQ
 have hh:=HHV.out.under HB3.out HLT.out
 have c0:=hh.cell 0
 have c1:=hh.cell 1
 have c2:=hh.cell 2
 have c3:=hh.cell 3
 have c4:=hh.cell 4
 have HC:=Lib.hid (HDIG.out w3 HB3.out)
 clear hh
 go_wp2_with fail
 refine HC.out.mono ?_
 rintro e w4 ⟨rfl,hb⟩
 have HB4:=Lib.hid (HBV.out.trans ((HB3.out.trans (hb.mono HB3.out.size)).mono HBV.out.size))
 clear hb c0 c1 c2 c3 c4 HC
 go_wp2_with fail
 go_ret
 exact ⟨rfl,HB4.out⟩
end Go.Proofs.YtcibjcgipfpniaaGreatDoor
namespace Go.Proofs.YtcibjcgipfpniaaGreatDoor
open Go.RowKit
set_option linter.unusedVariables false
set_option linter.unusedSimpArgs false
attribute [local go_sem ↓] Go.wp_at_zero Go.wp_at_succ

theorem info_gone:(Tryz.prog.info? 44).map (fun i=>(i.zero,i.size,i.bytes))=some (some (.agg #[.slice none 0 0,.int .i64 0]),2,32):=by kernel_rfl
/-- A row of one's own of revoked serials. -/
structure Gns (A:Option Addr) (c n:Nat) (l:List Gn) (w:World):Prop where
 len:l.length=n
 own:OwnV 44 2 w A c n (l.flatMap gcell)
 each:∀ x∈l,Off (bl A) (GnP x) w
theorem RowG.of_own {w:World} {A:Option Addr} {c n:Nat} {l:List Gn} (hl:l.length=n) (h:OwnV 44 2 w A c n (l.flatMap gcell)):RowG w w.heap.size A c l:=by
 subst hl
 refine ⟨h.le.1,h.le.2,fun hn=>?_⟩
 have at3:∀ j,j<l.length→∀ t,t<2→∀ v,(gcell (l.getD j default))[t]?=some v→∃ g,A=some ⟨g,0,none⟩∧g<w.heap.size∧w.cell? ⟨g,2*j+t,none⟩=some v:=fun j hj t ht v hv=>by
  have e:l[j]?=some (l.getD j default):=by simp [List.getD,hj]
  have f:=flat_at (f:=gcell) (m:=2) (L:=l) (fun _ _=>rfl) e (j:=t) ht
  obtain ⟨g,hA,hlt,hc,_⟩:=h.at_ (j:=2*j+t) (v:=v) (by rw [f];exact hv)
  exact ⟨g,hA,hlt,hc⟩
 obtain ⟨g,rfl,hlt,_⟩:=at3 0 hn 0 (by omega) _ rfl
 refine ⟨g,0,rfl,hlt,fun j hj=>?_⟩
 have k:∀ t,t<2→∀ v,(gcell (l.getD j default))[t]?=some v→w.cell? ⟨g,2*j+t,none⟩=some v:=fun t ht v hv=>by
  obtain ⟨g',e,_,hc⟩:=at3 j hj t ht v hv
  injection e with e
  obtain rfl:g=g':=by injection e
  exact hc
 exact ⟨by rw [show 0+j*2=2*j+0 by omega];exact k 0 (by omega) _ rfl,by rw [show 0+j*2+1=2*j+1 by omega];exact k 1 (by omega) _ rfl⟩
section
variable {A:Option Addr} {c n:Nat} {l:List Gn} {w w':World}
theorem Gns.nil (w:World):Gns none 0 0 [] w:=⟨rfl,OwnV.nil _ _ _,fun x hx=>by cases hx⟩
theorem Gns.under (h:Gns A c n l w) (hb:Below w.heap.size w w'):Gns A c n l w' :=
 ⟨h.len,h.own.keep fun g _ hg=>hb.block g hg,fun x hx=>(h.each x hx).under hb⟩
theorem Gns.lt (h:Gns A c n l w) {g:Nat} (hg:blockOf A=some g):g<w.heap.size:=h.own.lt hg
theorem Gns.gs (h:Gns A c n l w):GsP A c l w:=⟨RowG.of_own h.len h.own,fun x hx=>(h.each x hx).at_⟩
theorem Gns.push {e:Gn} {g' c':Nat} (h:Gns A c n l w) (ht:Off (bl A) (GnP e) w) (ho:OwnV 44 2 w' (some ⟨g',0,none⟩) c' (n+1) (l.flatMap gcell ++ [.slice e.sa e.ser.length e.sc,.int .i64 e.tm])) (hg:w.grownBy w' (blockOf A))
  (ha:blockOf A=some g'∨g'=w.heap.size):Gns (some ⟨g',0,none⟩) c' (n+1) (l ++ [e]) w':=by
 have hy:∀ g,g∈bl (some ⟨g',0,none⟩)→g∈bl A∨w.heap.size≤g:=fun g hg=>by
  have e:=mem_bl.1 hg
  have e:g'=g:=by simpa [blockOf] using e
  subst e
  rcases ha with h2 | h2
  ·exact .inl (mem_bl.2 h2)
  ·exact .inr (by omega)
 have hA:∀ g,blockOf A=some g→g∈bl A:=fun g e=>mem_bl.2 e
 refine ⟨by simp [h.len],by rw [List.flatMap_append];simpa [gcell] using ho,fun x hx2=>?_⟩
 rcases List.mem_append.1 hx2 with h1 | h1
 ·exact (h.each x h1).push hg hA hy
 ·rw [List.mem_singleton.1 h1];exact ht.push hg hA hy
end
theorem one2g {ia:Option Addr} {n1 ic:Nat} {t:Int}:∀ u∈[Value.slice ia n1 ic,.int .i64 t],u.oneCell'=true:=by
 intro u hu
 simp only [List.mem_cons,List.not_mem_nil,or_false] at hu
 rcases hu with rfl | rfl <;> rfl
theorem ret_crl {R:Ending→World→Prop} {tmps:Array Value} {w:World} {g:Nat} {t:TypeId} {cs:Array Value} {v:Value} {fn:Func} {p u:Tmp}
  (hr:fn.results=#[.cell p 26,.tmp u]) (hp:tmps.getD p undef = .pointer (some ⟨g,0,none⟩)) (hu:tmps.getD u undef=v) (hg:Holds w g t cs) (hcs:cs.size=5) (hR:R (.returned (.tuple #[.agg cs,v])) w) :
  bodyPost Tryz.prog fn R .ret { tmps:=tmps,defers:=[] } w:=by
 have hi:(Tryz.prog.info? 26).map (·.size)=some cs.size:=by rw [hcs];kernel_rfl
 refine bodyPost_ret (v:=.tuple #[.agg cs,v]) ?_ rfl hR
 rw [results_cell_tmp hr]
 have hp':tmps[p]?.getD undef = .pointer (some ⟨g,0,none⟩):=by simpa using hp
 have hu':tmps[u]?.getD undef=v:=by simpa using hu
 simp [hp',hu',asAddr,run_loadVar_row w g t _ cs (0,0) _ hg Tryz.underlying26 rfl hi,Result.andThen]
theorem below_five {w w':World} (h:Below w.heap.size w w') (g:Nat) (hg:w.heap.size≤g) (a b c d e:Value):Below w.heap.size w (((((w'.setCell ⟨g,0,none⟩ a).setCell ⟨g,1,none⟩ b).setCell ⟨g,2,none⟩ c).setCell ⟨g,3,none⟩ d).setCell ⟨g,4,none⟩ e) :=
 ((((h.setCell (p:=⟨g,0,none⟩) hg _).setCell (p:=⟨g,1,none⟩) hg _).setCell (p:=⟨g,2,none⟩) hg _).setCell (p:=⟨g,3,none⟩) hg _).setCell (p:=⟨g,4,none⟩) hg _
end Go.Proofs.YtcibjcgipfpniaaGreatDoor
namespace Go.Proofs.YtcibjcgipfpniaaGreatDoor
open Go.RowKit
set_option linter.unusedVariables false
set_option linter.unusedSimpArgs false
attribute [local go_sem ↓] Go.wp_at_zero Go.wp_at_succ

set_option maxRecDepth 100000 in
set_option maxHeartbeats 8000000 in
theorem attr_any (w:World) (t:Lt) (h:Off [] (ThP t) w) (hf:FitA t.t) (hT:Lib.Utf8Tabs 0 1 w) :
  Calls Tryz.prog 121 #[t.val] w (AttrP w (attrT false t.t)):=by
 obtain ⟨T,hT'⟩:∃ T,T=t.t:=⟨_,rfl⟩
 obtain ⟨o,HOO⟩:∃ o,Hid (o=attrT false T):=⟨_,rfl⟩
 obtain ⟨qs,hqs⟩:∃ qs,qs=seqL 49 t:=⟨_,rfl⟩
 have HPS:Hid (seqK 49 T=qs.map Lt.t):=Lib.hid (by rw [hT',seq_map,hqs])
 rw [←hT',←HOO.out]
 have HFQ:Hid (∀ x∈qs,x.kids.length≤12000∧∀ p∈x.kids,p.body.length≤12000):=Lib.hid fun x hx=>by
  have h1:=seqL_mem (by rw [←hqs];exact hx)
  obtain ⟨h2,h3⟩:=hf.2 x.t (by rw [(t_parts t).2.2];exact List.mem_map_of_mem h1)
  rw [(t_parts x).2.2] at h2 h3
  rw [List.length_map] at h2
  refine ⟨h2,fun p hp=>?_⟩
  have h4:=h3 p.t (List.mem_map_of_mem hp)
  rwa [(t_parts p).2.1] at h4
 have hkl:t.kids.length≤100000:=by have:=hf.1;rw [(t_parts t).2.2,List.length_map] at this;omega
 have hth:=h.at_
 obtain ⟨tag,ba,bc,body,ka,kc,kids⟩:=t
 have hko:=kids_off h
 have hq2:qs=if seqOk tag body.length 49=true then kids else []:=hqs
 have htag:tag<256:=(ThP.iff.1 hth).1
 have hkl2:kids.length≤100000:=hkl
 obtain ⟨n,hn⟩:∃ n,n=body.length:=⟨_,rfl⟩
 obtain ⟨kn,hkn⟩:∃ k,k=kids.length:=⟨_,rfl⟩
 rw [←hn] at hq2
 rw [←hkn] at hkl2
 have hval:(Lt.mk tag ba bc body ka kc kids).val = .agg #[.int .u8 (tag:Int),.slice ba n bc,.slice ka kn kc]:=by rw [hn,hkn];rfl
 rw [hval]
 have hH1:=Holds.fresh w 32 #[.int .u8 (tag:Int),.slice ba n bc,.slice ka kn kc]
 have hs1:(w.alloc (.cells #[.int .u8 (tag:Int),.slice ba n bc,.slice ka kn kc] 32)).heap.size=w.heap.size+1:=by simp
 have hH2:=hH1.alloc (.cells #[.int .i64 0,.string ⟨#[]⟩] 83)
 have hE2:Holds ((w.alloc (.cells #[.int .u8 (tag:Int),.slice ba n bc,.slice ka kn kc] 32)).alloc (.cells #[.int .i64 0,.string ⟨#[]⟩] 83)) (w.heap.size+1) 83 #[.int .i64 0,.string ⟨#[]⟩]:=by
  have:=Holds.fresh (w.alloc (.cells #[.int .u8 (tag:Int),.slice ba n bc,.slice ka kn kc] 32)) 83 #[.int .i64 0,.string ⟨#[]⟩]
  rw [hs1] at this
  exact this
 have hB2:Below w.heap.size w ((w.alloc (.cells #[.int .u8 (tag:Int),.slice ba n bc,.slice ka kn kc] 32)).alloc (.cells #[.int .i64 0,.string ⟨#[]⟩] 83)):=((Below.refl _ _).alloc (Nat.le_refl _) _).alloc (by omega) _
 obtain ⟨sq,hsq⟩:∃ b,seqOk tag n 49=b:=⟨_,rfl⟩
 rw [hsq] at hq2
 have hgs:=getSeq_any ((w.alloc (.cells #[.int .u8 (tag:Int),.slice ba n bc,.slice ka kn kc] 32)).alloc (.cells #[.int .i64 0,.string ⟨#[]⟩] 83)) [w.heap.size+1] tag n bc kn kc 49 ba ka kids (((hko.new (g:=w.heap.size+1) (by omega)).alloc _).alloc _) hkn.symm (by omega) hkl2 (fun x hx=>by rw [List.mem_singleton.1 hx];exact hE2.lt)
 rw [hsq] at hgs
 have HGS:=Lib.hid hgs
 have HQS:=Lib.hid hq2
 have c0:=hH2.cell 0
 have c1:=hH2.cell 1
 have c2:=hH2.cell 2
 have HE2:=Lib.hid hE2
 have HB2:=Lib.hid hB2
 have HT:=Lib.hid hT
 clear h hf hqs hkl hth hT' hko hq2 htag hn hkn hval hH1 hs1 hH2 hE2 hB2 hgs hkl2 hsq hT
 go_enter Tryz.func121,Tryz.ntmps121
 go_wp2_with fail
 refine HGS.out.mono ?_
 intro e w3 hm
 obtain ⟨A3,c3,rfl,hk3,hb3⟩:=hm.one
 rw [←HQS.out] at hk3 ⊢
 have HB3:=Lib.hid (HB2.out.trans (hb3.mono HB2.out.size))
 have HE3:=Lib.hid (HE2.out.under hb3 HE2.out.lt)
 have HK3:=Lib.hid (hk3.less (ys:=[]) (fun g hg=>by cases hg))
 obtain ⟨m,hm'⟩:∃ m,m=qs.length:=⟨_,rfl⟩
 have HM:=Lib.hid hm'
 rw [←hm']
 have hmc:m≤c3:=by rw [hm'];exact hk3.at_.1.1
 have hc63:=hk3.at_.1.2.1
 clear hm hb3 hk3 hm' HGS c0 c1 c2
 have HX1:Hid (bad false 1 m=true→o=none):=Lib.hid fun hb=>by rw [HOO.out];unfold attrT;rw [HPS.out,List.length_map,←HM.out,if_pos hb]
 by_cases hq1:m<1
 case pos =>
  have HNO:Hid (o=none):=Lib.hid (HX1.out (by unfold bad;rw [if_neg (by decide)];exact decide_eq_true hq1))
  have d1:((m:Int) == 0)=true:=by simp;omega
  have z0:=HE3.out.cell 0
  have z1:=HE3.out.cell 1
  have y0:=HE3.out.open_ 0
  have y1:=HE3.out.open_ 1
  go_wp2_with fail
  rw [HNO.out]
  exact ret_att rfl rfl rfl ((HE3.out.stored 0 _).stored 1 _) rfl ⟨_,_,rfl,below_att HB3.out (Nat.le_succ _) _ _⟩
 case neg =>
  have d1:((m:Int) == 0)=false:=by simp;omega
  clear HX1
  obtain ⟨g,off,rfl,hg,hcs⟩:=KiP.cells (j:=0) HK3.out (by rw [←HM.out];omega)
  obtain ⟨p0,p1,p2⟩:=hcs w3 (Below.refl _ _)
  have ht0:=KiP.kid HK3.out (j:=0) (by rw [←HM.out];omega)
  have hf0:=HFQ.out _ (getD_mem (l:=qs) (j:=0) (by rw [←HM.out];omega))
  have HD0:Hid ((seqK 49 T).getD 0 default=(qs.getD 0 default).t):=Lib.hid (by rw [HPS.out];exact lt_at (by rw [←HM.out];omega))
  obtain ⟨q0,hq0⟩:∃ q,q=qs.getD 0 default:=⟨_,rfl⟩
  rw [←hq0] at p0 p1 p2 ht0 hf0 HD0
  obtain ⟨rs,hrs⟩:∃ rs,rs=seqL 48 q0:=⟨_,rfl⟩
  have HRS:Hid (seqK 48 ((seqK 49 T).getD 0 default)=rs.map Lt.t):=Lib.hid (by rw [HD0.out,seq_map,hrs])
  have HFR:Hid (∀ x∈rs,x.body.length≤12000):=Lib.hid fun x hx=>hf0.2 x (seqL_mem (by rw [←hrs];exact hx))
  have HX0:Hid (bad false 1 m≠true):=Lib.hid (by unfold bad;rw [if_neg (by decide)];simp;omega)
  rw [show off+0*3=off by omega] at p0 p1 p2
  clear hq0 hcs HD0 HFQ
  obtain ⟨x1,b1a,b1c,b1,k1a,k1c,k1⟩:=q0
  dsimp only [Lt.tag,Lt.ba,Lt.bc,Lt.body,Lt.ka,Lt.kc,Lt.kids] at p0 p1 p2 hf0
  have hx1:x1<256:=(ThP.iff.1 ht0.at_).1
  have hrs2:rs=if seqOk x1 b1.length 48=true then k1 else []:=hrs
  obtain ⟨n1,hn1⟩:∃ n,b1.length=n:=⟨_,rfl⟩
  obtain ⟨m1,hm1⟩:∃ n,k1.length=n:=⟨_,rfl⟩
  rw [hn1] at p1 hrs2
  rw [hm1] at p2 hf0
  obtain ⟨sr,hsr⟩:∃ b,seqOk x1 n1 48=b:=⟨_,rfl⟩
  rw [hsr] at hrs2
  have hgs:=getSeq_any w3 [] x1 n1 b1c m1 k1c 48 b1a k1a k1 (kids_off ht0) hm1 (by omega) (by omega) (by simp)
  rw [hsr] at hgs
  have HGS:=Lib.hid hgs
  have HRS2:=Lib.hid hrs2
  clear hgs hrs hrs2 hsr hn1 hm1 ht0
  go_wp2_with fail
  refine HGS.out.mono ?_
  intro e w4 hm
  obtain ⟨A4,c4,rfl,hk4,hb4⟩:=hm.one
  rw [←HRS2.out] at hk4 ⊢
  have HB4:=Lib.hid (HB3.out.trans (hb4.mono HB3.out.size))
  have HE4:=Lib.hid (HE3.out.under hb4 HE3.out.lt)
  have HK4:=Lib.hid hk4
  obtain ⟨r,hr'⟩:∃ r,r=rs.length:=⟨_,rfl⟩
  have HR:=Lib.hid hr'

  rw [←hr']
  have hrc:r≤c4:=by rw [hr'];exact hk4.at_.1.1
  have hr63:=hk4.at_.1.2.1
  clear hm hb4 hk4 hr' HGS p0 p1 p2
  have HX2:Hid (bad false 2 r=true→o=none):=Lib.hid fun hb=>by rw [HOO.out];unfold attrT;rw [HPS.out,List.length_map,←HM.out,if_neg HX0.out,←HPS.out,HRS.out,List.length_map,←HR.out,if_pos hb]
  by_cases hq2:r<2
  case pos =>
   have HNO:Hid (o=none):=Lib.hid (HX2.out (by unfold bad;rw [if_neg (by decide)];exact decide_eq_true hq2))
   have d1:decide ((r:Int)<2)=true:=decide_eq_true (by omega)
   have z0:=HE4.out.cell 0
   have z1:=HE4.out.cell 1
   have y0:=HE4.out.open_ 0
   have y1:=HE4.out.open_ 1
   go_wp2_with fail
   rw [HNO.out]
   exact ret_att rfl rfl rfl ((HE4.out.stored 0 _).stored 1 _) rfl ⟨_,_,rfl,below_att HB4.out (Nat.le_succ _) _ _⟩
  case neg =>
   have d1:decide ((r:Int)<2)=false:=decide_eq_false (by omega)
   have HX3:Hid (bad false 2 r≠true):=Lib.hid (by unfold bad;rw [if_neg (by decide)];simp;omega)
   clear HX2
   obtain ⟨g5,off5,rfl,hg5,hcs⟩:=KiP.cells (j:=0) HK4.out (by rw [←HR.out];omega)
   obtain ⟨g6,off6,he6,hg6,hcs6⟩:=KiP.cells (j:=1) HK4.out (by rw [←HR.out];omega)
   injection he6 with he6
   obtain rfl:g5=g6:=by injection he6
   obtain rfl:off5=off6:=by injection he6
   obtain ⟨p0,p1,p2⟩:=hcs w4 (Below.refl _ _)
   have hta:=KiP.kid HK4.out (j:=0) (by rw [←HR.out];omega)
   have htb:=KiP.kid HK4.out (j:=1) (by rw [←HR.out];omega)
   have hba:=HFR.out _ (getD_mem (l:=rs) (j:=0) (by rw [←HR.out];omega))
   have hbb:=HFR.out _ (getD_mem (l:=rs) (j:=1) (by rw [←HR.out];omega))
   have HO1:Hid (o=if (txB (rs.getD 1 default).t).isSome=true∧(idB (rs.getD 0 default).t).length=3 then some ⟨((idB (rs.getD 0 default).t).getD 2 0:Nat),str (rs.getD 1 default).t.body⟩ else none):=Lib.hid (by
    rw [HOO.out];unfold attrT
    rw [HPS.out,List.length_map,←HM.out,if_neg HX0.out,←HPS.out,HRS.out,List.length_map,←HR.out,if_neg HX3.out,lt_at (by rw [←HR.out];omega),lt_at (by rw [←HR.out];omega)])
   obtain ⟨qa,hqa⟩:∃ q,q=rs.getD 0 default:=⟨_,rfl⟩
   obtain ⟨qb,hqb⟩:∃ q,q=rs.getD 1 default:=⟨_,rfl⟩
   rw [←hqa] at p0 p1 p2 hta hba HO1
   rw [←hqb] at hcs6 htb hbb HO1
   rw [show off5+0*3=off5 by omega] at p0 p1 p2
   rw [show off5+1*3=off5+3 by omega] at hcs6
   have HC6:=Lib.hid hcs6
   clear hqa hqb hcs hcs6 he6 HX0 HX3 HPS HRS HOO HFR HRS2
   obtain ⟨xa,aa,ac,ab,aka,akc,akk⟩:=qa
   obtain ⟨xb,ba',bc',bb,bka,bkc,bkk⟩:=qb
   dsimp only [Lt.tag,Lt.ba,Lt.bc,Lt.body,Lt.ka,Lt.kc,Lt.kids] at p0 p1 p2 HC6 hba hbb
   have hia:idB (Lt.mk xa aa ac ab aka akc akk).t=if (heldOk xa akk.length 6 && idOk ab)=true then ab else []:=by rw [Lt.t_mk];unfold idB;simp [Tr.tag,Tr.kids,Tr.body]
   have htx:txB (Lt.mk xb ba' bc' bb bka bkc bkk).t=txOf xb bkk.length bb:=by rw [Lt.t_mk];unfold txB;simp [Tr.tag,Tr.kids,Tr.body]
   have hbo:(Lt.mk xb ba' bc' bb bka bkc bkk).t.body=bb:=by rw [Lt.t_mk];rfl
   rw [hia,htx,hbo] at HO1
   obtain ⟨na,hna⟩:∃ n,ab.length=n:=⟨_,rfl⟩
   obtain ⟨nb,hnb⟩:∃ n,bb.length=n:=⟨_,rfl⟩
   obtain ⟨ka',hka⟩:∃ n,akk.length=n:=⟨_,rfl⟩
   obtain ⟨kb',hkb⟩:∃ n,bkk.length=n:=⟨_,rfl⟩
   rw [hna] at p1 hba
   rw [hka] at p2 HO1
   rw [hnb] at HC6 hbb
   rw [hkb] at HC6 HO1
   obtain ⟨_,hra,hoa,_⟩:=ThP.iff.1 hta.at_
   obtain ⟨_,_,hob,_⟩:=ThP.iff.1 htb.at_
   have HGI:=Lib.hid (getID_any w4 xa na ac ka' akc _ aa aka ab hra hna (Nat.le_refl _) hoa)
   have HTB:=Lib.hid htb
   have HNB:=Lib.hid hnb
   have HOB:=Lib.hid hob
   have HOA:=Lib.hid hoa
   clear hra hoa hob hta htb hnb hna hka hkb hia htx hbo
   go_wp2_with fail
   refine HGI.out.mono ?_
   intro e w5 hm
   obtain ⟨A5,c5,rfl,hm5,hb5⟩:=hm.one
   have hidb:(if (heldOk xa ka' 6 && idOk ab)=true then some ab else none:Option (List Nat)).getD []=if (heldOk xa ka' 6 && idOk ab)=true then ab else []:=by split <;> rfl
   obtain ⟨is_,his⟩:∃ b,(heldOk xa ka' 6 && idOk ab)=b:=⟨_,rfl⟩
   have hiss:(if (heldOk xa ka' 6 && idOk ab)=true then some ab else none:Option (List Nat)).isSome=is_:=by rw [his];cases is_ <;> rfl
   rw [hidb] at hm5 ⊢
   rw [hiss]
   obtain ⟨D,hD⟩:∃ D,(if (heldOk xa ka' 6 && idOk ab)=true then ab else [])=D:=⟨_,rfl⟩
   rw [hD] at hm5 HO1 ⊢
   have hDo:∀ y∈D,y<256:=fun y hy=>by
    rw [←hD] at hy
    split at hy
    ·exact HOA.out y hy
    ·cases hy
   have HDO:=Lib.hid hDo
   have hDn:is_=false→D=[]:=fun h=>by rw [←hD,his,h];rfl
   obtain ⟨nd,hnd⟩:∃ n,D.length=n:=⟨_,rfl⟩
   rw [hnd] at HO1 ⊢
   have HDN:=Lib.hid hDn
   have HND:=Lib.hid hnd
   have HB5:=Lib.hid (HB4.out.trans (hb5.mono HB4.out.size))
   have HE5:=Lib.hid (HE4.out.under hb5 HE4.out.lt)
   have HM5:=Lib.hid hm5
   obtain ⟨p0,p1,p2⟩:=HC6.out w5 hb5
   have hrb:=(ThP.iff.1 (HTB.out.under hb5).at_).2.1
   have hndc:nd≤c5:=by rw [←hnd];exact hm5.le.1
   have hnd63:=hm5.le.2
   have HGT:=Lib.hid (getText_any w5 xb nb bc' kb' bkc _ ba' bka bb hrb HNB.out (Nat.le_refl _) HOB.out (Utf8Tabs_below HT.out HB5.out))
   clear hm hb5 hm5 hidb his hiss hD hDn hDo hnd hrb HGI
   go_wp2_with fail
   refine HGT.out.mono ?_
   intro e w6 hm
   obtain ⟨rfl,hb6⟩:=hm.one
   have HB6:=Lib.hid (HB5.out.trans (hb6.mono HB5.out.size))
   have HE6:=Lib.hid (HE5.out.under hb6 HE5.out.lt)
   have HM6:=Lib.hid (HM5.out.under hb6)
   obtain ⟨tk,htk⟩:∃ b,(txOf xb kb' bb).isSome=b:=⟨_,rfl⟩
   have htg:tk=true→(txOf xb kb' bb).getD []=bb:=fun h=>by
    rw [h] at htk
    unfold txOf at htk ⊢
    split at htk
    ·rename_i h2;rw [if_pos h2];rfl
    ·cases htk
   obtain ⟨X,hX⟩:∃ X,(txOf xb kb' bb).getD []=X:=⟨_,rfl⟩
   rw [hX] at htg
   rw [htk] at HO1
   rw [htk,hX]
   have HTG:=Lib.hid htg
   have z0:=HE6.out.cell 0
   have z1:=HE6.out.cell 1
   have y0:=HE6.out.open_ 0
   have y1:=HE6.out.open_ 1
   clear hm hb6 htk htg hX HGT p0 p1 p2 HM5 HE5
   by_cases hall:tk=true∧nd=3
   ·obtain ⟨rfl,rfl⟩:=hall
    have HSO:Hid (o=some ⟨((D.getD 2 0:Nat):Int),str bb⟩):=Lib.hid (by rw [HO1.out,if_pos ⟨rfl,rfl⟩])
    have hX2:=HTG.out rfl
    subst hX2

    obtain ⟨g7,off7,rfl,hg7,hc7⟩:=HM6.out.rd.2.2 (by rw [HND.out];omega)
    have k7:=hc7 2 (by rw [HND.out];omega)
    have ho7:D.getD 2 0<256:=HDO.out _ (by
     have h:2<D.length:=by rw [HND.out];omega
     simp [List.getD,h])
    obtain ⟨y,hy⟩:∃ y,D.getD 2 0=y:=⟨_,rfl⟩
    rw [hy] at k7 ho7 HSO
    clear hc7 hy HO1
    go_wp2_with fail
    rw [HSO.out]
    exact ret_att rfl rfl rfl ((HE6.out.stored 0 _).stored 1 _) rfl ⟨rfl,below_att HB6.out (Nat.le_succ _) _ _⟩
   ·have HNO:Hid (o=none):=Lib.hid (by rw [HO1.out,if_neg hall])
    cases tk
    ·go_wp2_with fail
     rw [HNO.out]
     exact ret_att rfl rfl rfl ((HE6.out.stored 0 _).stored 1 _) rfl ⟨_,_,rfl,below_att HB6.out (Nat.le_succ _) _ _⟩
    ·have hn3:nd≠3:=fun h=>hall ⟨rfl,h⟩
     have d3:((nd:Int) != 3)=true:=by simp;omega
     go_wp2_with fail
     rw [HNO.out]
     exact ret_att rfl rfl rfl ((HE6.out.stored 0 _).stored 1 _) rfl ⟨_,_,rfl,below_att HB6.out (Nat.le_succ _) _ _⟩
end Go.Proofs.YtcibjcgipfpniaaGreatDoor
