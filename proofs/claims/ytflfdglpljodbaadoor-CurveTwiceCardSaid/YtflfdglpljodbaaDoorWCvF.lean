/-
  The program: wide points as points. The program: a sum; a point, many times. The program: a point, many times. Two points that are one; the first point; numbers that are such.
-/
import Derived.Test.YtflfdglpljodbaaDoorWCv19
import Derived.Test.YtflfdglpljodbaaDoorWCvE
import Derived.Test.YtflfdglpljodbaaDoorWCvC
import Derived.Deep.RegionLaw
import Derived.Deep.RegionHeld3
import Derived.Deep.DrawnRows
import Derived.Test.YtflfdglpljodbaaDoorWModM
import Derived.Test.YtflfdglpljodbaaDoorWRefB
set_option maxRecDepth 100000
set_option maxHeartbeats 20000000
namespace Go.Proofs.YtflfdglpljodbaaDoor
open Go.RowKit
set_option linter.unusedVariables false
set_option linter.unusedSimpArgs false
def WdR (Q:Luc.Pt) (w:World) (e:Ending) (w':World):Prop :=
 ∃ (j:Luc.Jc) (x0 x1 x2 x3 y0 y1 y2 y3 z0 z1 z2 z3:Nat),e = .returned (.agg #[.int .u64 (x0:Int),.int .u64 (x1:Int),.int .u64 (x2:Int),.int .u64 (x3:Int),.int .u64 (y0:Int),.int .u64 (y1:Int),.int .u64 (y2:Int),.int .u64 (y3:Int),.int .u64 (z0:Int),.int .u64 (z1:Int),.int .u64 (z2:Int),.int .u64 (z3:Int)])∧(nm (en j.x)=[x0,x1,x2,x3]∧nm (en j.y)=[y0,y1,y2,y3]∧nm (en j.z)=[z0,z1,z2,z3])∧Luc.Rep j=Q∧Below w.heap.size w w'
theorem dig_any (f:Luc.F):∃ a b c d,nm (en f)=[a,b,c,d]:=by
 obtain ⟨a,b,c,d,h⟩:=four (nm_len (en f))
 exact ⟨a,b,c,d,h⟩
theorem wideInf (w:World) (Ax Ay:Option Addr) (nx cx ny cy:Nat) :
  Calls Tryd.prog 43 #[.agg #[.slice Ax nx cx,.slice Ay ny cy,.bool true]] w fun e w'=>e = .returned (.agg #[.int .u64 0,.int .u64 0,.int .u64 0,.int .u64 0,.int .u64 0,.int .u64 0,.int .u64 0,.int .u64 0,.int .u64 0,.int .u64 0,.int .u64 0,.int .u64 0])∧Below w.heap.size w w':=by
 go_enter Tryd.func43,Tryd.ntmps43
 go_wp2_with fail
 have e:(w.alloc (.cells #[.slice Ax nx cx,.slice Ay ny cy,.bool true] 26)).heap.size=w.heap.size+1:=by simp
 have hR:=Holds.fresh (w.alloc (.cells #[.slice Ax nx cx,.slice Ay ny cy,.bool true] 26)) 69 #[.int .u64 0,.int .u64 0,.int .u64 0,.int .u64 0,.int .u64 0,.int .u64 0,.int .u64 0,.int .u64 0,.int .u64 0,.int .u64 0,.int .u64 0,.int .u64 0]
 rw [e] at hR
 exact ret_wd (g:=w.heap.size+1) rfl rfl hR rfl ⟨rfl,((Below.refl _ _).alloc (Nat.le_refl _) _).alloc (by simp) _⟩
theorem wideP (w:World) (hm:CMet w) {Q:Luc.Pt} {A1 A2:Option Addr} {c1 c2:Nat} {l1 l2:List Nat} {inf:Bool} (h:PtV Q w A1 c1 l1 A2 c2 l2 inf) :
  Calls Tryd.prog 43 #[.agg #[.slice A1 l1.length c1,.slice A2 l2.length c2,.bool inf]] w (WdR Q w):=by
 rcases Q with _ | ⟨u,v⟩
 ·obtain rfl:inf=true:=h.inf
  refine (wideInf w A1 A2 _ c1 _ c2).mono ?_
  rintro e w' ⟨rfl,hb⟩
  exact ⟨⟨0,0,0⟩,0,0,0,0,0,0,0,0,0,0,0,0,rfl,⟨dig0,dig0,dig0⟩,Luc.Rep.no rfl,hb⟩
 ·obtain rfl:inf=false:=h.inf
  have hx:NR w A1 c1 l1 u:=h.x
  have hy:NR w A2 c2 l2 v:=h.y
  obtain ⟨x0,x1,x2,x3,dx⟩:=dig_any u
  obtain ⟨y0,y1,y2,y3,dy⟩:=dig_any v
  obtain ⟨z0,z1,z2,z3,dz⟩:=dig_any 1
  refine (wideOf_any w hm A1 A2 c1 c2 l1 l2 hx.rd hy.rd hx.dg hy.dg hx.le hy.le (x0:=x0) (x1:=x1) (x2:=x2) (x3:=x3) (y0:=y0) (y1:=y1) (y2:=y2) (y3:=y3) (u0:=z0) (u1:=z1) (u2:=z2) (u3:=z3) (by rw [hx.val];exact dx) (by rw [hy.val];exact dy) dz).mono ?_
  rintro e w' ⟨rfl,hb⟩
  exact ⟨⟨u,v,1⟩,_,_,_,_,_,_,_,_,_,_,_,_,rfl,⟨dx,dy,dz⟩,Luc.Rep.yes Luc.one_ne (by show u=_;grind) (by show v=_;grind),hb⟩
theorem doubleP (w:World) (hm:CMet w) (j:Luc.Jc) {x0 x1 x2 x3 y0 y1 y2 y3 z0 z1 z2 z3:Nat} (hd:(nm (en j.x)=[x0,x1,x2,x3]∧nm (en j.y)=[y0,y1,y2,y3]∧nm (en j.z)=[z0,z1,z2,z3])) (ho:Luc.OnC (Luc.Rep j)) :
  Calls Tryd.prog 63 #[.agg #[.int .u64 (x0:Int),.int .u64 (x1:Int),.int .u64 (x2:Int),.int .u64 (x3:Int),.int .u64 (y0:Int),.int .u64 (y1:Int),.int .u64 (y2:Int),.int .u64 (y3:Int),.int .u64 (z0:Int),.int .u64 (z1:Int),.int .u64 (z2:Int),.int .u64 (z3:Int)]] w (WdR (Luc.add (Luc.Rep j) (Luc.Rep j)) w):=by
 obtain ⟨X0,X1,X2,X3,dx⟩:=dig_any (Luc.dbl j).x
 obtain ⟨Y0,Y1,Y2,Y3,dy⟩:=dig_any (Luc.dbl j).y
 obtain ⟨Z0,Z1,Z2,Z3,dz⟩:=dig_any (Luc.dbl j).z
 refine (doubleE w hm j hd.1 hd.2.1 hd.2.2 dx dy dz).mono ?_
 rintro e w' ⟨rfl,hb⟩
 exact ⟨Luc.dbl j,_,_,_,_,_,_,_,_,_,_,_,_,rfl,⟨dx,dy,dz⟩,Luc.dbl_rep ho,hb⟩
theorem plusP (w:World) (hm:CMet w) (j:Luc.Jc) {x0 x1 x2 x3 y0 y1 y2 y3 z0 z1 z2 z3:Nat} (hd:(nm (en j.x)=[x0,x1,x2,x3]∧nm (en j.y)=[y0,y1,y2,y3]∧nm (en j.z)=[z0,z1,z2,z3])) (ho:Luc.OnC (Luc.Rep j)) {Q:Luc.Pt} {A1 A2:Option Addr} {c1 c2:Nat} {l1 l2:List Nat} {inf:Bool} (h:PtV Q w A1 c1 l1 A2 c2 l2 inf) (hq:Luc.OnC Q) :
  Calls Tryd.prog 42 #[.agg #[.int .u64 (x0:Int),.int .u64 (x1:Int),.int .u64 (x2:Int),.int .u64 (x3:Int),.int .u64 (y0:Int),.int .u64 (y1:Int),.int .u64 (y2:Int),.int .u64 (y3:Int),.int .u64 (z0:Int),.int .u64 (z1:Int),.int .u64 (z2:Int),.int .u64 (z3:Int)],.agg #[.slice A1 l1.length c1,.slice A2 l2.length c2,.bool inf]] w (WdR (Luc.add (Luc.Rep j) Q) w):=by
 rcases Q with _ | ⟨u,v⟩
 ·obtain rfl:inf=true:=h.inf
  refine (plusInf w A1 A2 _ c1 _ c2).mono ?_
  rintro e w' ⟨rfl,hb⟩
  exact ⟨j,_,_,_,_,_,_,_,_,_,_,_,_,rfl,hd,(Luc.add_none _).symm,hb⟩
 ·obtain rfl:inf=false:=h.inf
  have hx:NR w A1 c1 l1 u:=h.x
  have hy:NR w A2 c2 l2 v:=h.y
  obtain ⟨X0,X1,X2,X3,dx⟩:=dig_any (Luc.pls j u v).x
  obtain ⟨Y0,Y1,Y2,Y3,dy⟩:=dig_any (Luc.pls j u v).y
  obtain ⟨Z0,Z1,Z2,Z3,dz⟩:=dig_any (Luc.pls j u v).z
  refine (plusE w hm j u v A1 A2 c1 c2 l1 l2 hx.rd hy.rd hx.dg hy.dg hx.le hy.le hx.val hy.val hd.1 hd.2.1 hd.2.2 dx dy dz).mono ?_
  rintro e w' ⟨rfl,hb⟩
  exact ⟨Luc.pls j u v,_,_,_,_,_,_,_,_,_,_,_,_,rfl,⟨dx,dy,dz⟩,Luc.pls_rep ho hq,hb⟩
theorem mm_backF (f:Luc.F):mm (en f) 1=f.val:=by
 have h:en f*1*cI % cP=f.val % cP:=by
  unfold en enc
  rw [Nat.mul_one]
  refine (mod_mul_left (Nat.mod_mod _ _)).trans ?_
  rw [Nat.mul_assoc]
  refine (mod_mul_right' (b:=1) ?_).trans (by rw [Nat.mul_one])
  rw [cRI]
  decide
 unfold mm
 rw [h]
 exact Nat.mod_eq_of_lt f.isLt
theorem flatP (w:World) (hm:CMet w) (j:Luc.Jc) {x0 x1 x2 x3 y0 y1 y2 y3 z0 z1 z2 z3:Nat} (hd:(nm (en j.x)=[x0,x1,x2,x3]∧nm (en j.y)=[y0,y1,y2,y3]∧nm (en j.z)=[z0,z1,z2,z3])) :
  Calls Tryd.prog 41 #[.agg #[.int .u64 (x0:Int),.int .u64 (x1:Int),.int .u64 (x2:Int),.int .u64 (x3:Int),.int .u64 (y0:Int),.int .u64 (y1:Int),.int .u64 (y2:Int),.int .u64 (y3:Int),.int .u64 (z0:Int),.int .u64 (z1:Int),.int .u64 (z2:Int),.int .u64 (z3:Int)]] w (PtR (Luc.Rep j) w):=by
 by_cases hz:j.z=0
 ·have hE:∀ W,(Op.equalIn 10000 67 (.agg #[.int .u64 (z0:Int),.int .u64 (z1:Int),.int .u64 (z2:Int),.int .u64 (z3:Int)]) (.agg #[.int .u64 0,.int .u64 0,.int .u64 0,.int .u64 0])).run Tryd.prog W = .ok true W:=fun W=>(eqE W j.z 0 hd.2.2 dig0).trans (by rw [decide_eq_true hz])
  have e:(w.alloc (.cells #[.int .u64 (x0:Int),.int .u64 (x1:Int),.int .u64 (x2:Int),.int .u64 (x3:Int),.int .u64 (y0:Int),.int .u64 (y1:Int),.int .u64 (y2:Int),.int .u64 (y3:Int),.int .u64 (z0:Int),.int .u64 (z1:Int),.int .u64 (z2:Int),.int .u64 (z3:Int)] 69)).heap.size=w.heap.size+1:=by simp
  have hR:=Holds.fresh (w.alloc (.cells #[.int .u64 (x0:Int),.int .u64 (x1:Int),.int .u64 (x2:Int),.int .u64 (x3:Int),.int .u64 (y0:Int),.int .u64 (y1:Int),.int .u64 (y2:Int),.int .u64 (y3:Int),.int .u64 (z0:Int),.int .u64 (z1:Int),.int .u64 (z2:Int),.int .u64 (z3:Int)] 69)) 26 #[.slice none 0 0,.slice none 0 0,.bool true]
  rw [e] at hR
  rw [Luc.Rep.no hz]
  clear hz hd hm e
  go_enter Tryd.func41,Tryd.ntmps41
  go_wp2_with fail
  exact ret_pt (g:=w.heap.size+1) rfl rfl hR rfl ⟨none,0,[],none,0,[],true,rfl,PtV.none _,((Below.refl _ _).alloc (Nat.le_refl _) _).alloc (by simp) _⟩
 ·have hi:=Luc.mul_finv hz
  have e1:enc (Luc.finv j.z).val=en (Luc.finv j.z):=rfl
  refine (flat_any w hm (en j.x) (en j.y) (en j.z) (Luc.finv j.z).val (en_lt _) (en_lt _) (en_lt _) (by rw [mm_backF];have:=congrArg Fin.val hi;rw [Fin.val_mul] at this;exact this) hd.1 hd.2.1 hd.2.2).mono ?_
  rintro e w' ⟨A1,c1,r1,A2,c2,r2,rfl,h1,h2,h3,h4,hb⟩
  rw [e1,en_mul,en_mul,mm_backF] at h1
  rw [e1,en_mul,en_mul,en_mul,mm_backF] at h2
  have hr:Luc.Rep j=some (j.x*(Luc.finv j.z*Luc.finv j.z),j.y*(Luc.finv j.z*Luc.finv j.z*Luc.finv j.z)):=by unfold Luc.Rep;rw [if_neg hz]
  rw [hr]
  exact ⟨A1,c1,r1,A2,c2,r2,false,rfl,⟨rfl,⟨h3,h1⟩,⟨h4,h2⟩⟩,hb⟩
theorem lB_val:val lB=Luc.cBf.val:=by decide +kernel
theorem rhs_on (u v:Luc.F):v.val*v.val % cP=rhsR u.val↔Luc.On u v:=by
 have h1:(v*v).val=v.val*v.val % cP:=Fin.val_mul _ _
 have h2:(u*(u*u) - (u+(u+u))+Luc.cBf).val=rhsR u.val:=by
  unfold rhsR
  rw [lB_val,Fin.val_add]
  show (_+_) % cP=_
  rw [←sub_val (f:=u*(u*u)) (g:=u+(u+u)) (a:=u.val*(u.val*u.val % cP) % cP) (b:=(u.val+(u.val+u.val) % cP) % cP) (by rw [Fin.val_mul,Fin.val_mul];rfl) (by rw [Fin.val_add,Fin.val_add];rfl)]
 rw [←h1,←h2,←Fin.ext_iff]
 unfold Luc.On
 have e:u*(u*u) - (u+(u+u))+Luc.cBf=u*u*u - 3*u+Luc.cBf:=by grind
 rw [e]
theorem okN_yes {l:List Nat} (hl:l.length≤8) (hn:nrm l):okN l=true:=by
 unfold okN
 rcases hn with h | h
 ·rw [h];rfl
 ·rw [decide_eq_true (show l.length≤256 by omega),beq_eq_false_iff_ne.2 h];cases decide (l.length=0) <;> rfl
theorem ptOk_yes {w:World} {Q:Luc.Pt} {A1 A2:Option Addr} {c1 c2:Nat} {l1 l2:List Nat} {inf:Bool} (h:PtV Q w A1 c1 l1 A2 c2 l2 inf) (ho:Luc.OnC Q):ptOk l1 l2 inf=true:=by
 rcases Q with _ | ⟨u,v⟩
 ·obtain rfl:inf=true:=h.inf
  unfold ptOk
  rw [if_pos rfl,decide_eq_true (h.x.zero_iff.2 rfl),decide_eq_true (h.y.zero_iff.2 rfl)]
  rfl
 ·obtain rfl:inf=false:=h.inf
  have hx:NR w A1 c1 l1 u:=h.x
  have hy:NR w A2 c2 l2 v:=h.y
  unfold ptOk blw
  rw [if_neg (by simp),okN_yes hx.le hx.nrm,okN_yes hy.le hy.nrm,hx.val,hy.val,decide_eq_true (show u.val<cP from u.isLt),decide_eq_true (show v.val<cP from v.isLt),decide_eq_true ((rhs_on u v).2 ho)]
  rfl
theorem isP (w:World) (hm:CMet w) {Q:Luc.Pt} {A1 A2:Option Addr} {c1 c2:Nat} {l1 l2:List Nat} {inf:Bool} (h:PtV Q w A1 c1 l1 A2 c2 l2 inf) (ho:Luc.OnC Q) :
  Calls Tryd.prog 19 #[.agg #[.slice A1 l1.length c1,.slice A2 l2.length c2,.bool inf]] w fun e w'=>e = .returned (.bool true)∧Below w.heap.size w w':=by
 have:=curveIs_any w hm A1 A2 c1 c2 l1 l2 inf h.x.rd h.y.rd h.x.dg h.y.dg
 rwa [ptOk_yes h ho] at this
end Go.Proofs.YtflfdglpljodbaaDoor
namespace Go.Proofs.YtflfdglpljodbaaDoor
open Go.RowKit
set_option linter.unusedVariables false
set_option linter.unusedSimpArgs false
theorem PtV.under' {Q:Luc.Pt} {W W':World} {A1:Option Addr} {c1:Nat} {l1:List Nat} {A2:Option Addr} {c2:Nat} {l2:List Nat} {inf:Bool} (h:PtV Q W A1 c1 l1 A2 c2 l2 inf) (hb:Below W.heap.size W W'):PtV Q W' A1 c1 l1 A2 c2 l2 inf:=h.under hb
theorem addP (w:World) (hm:CMet w) {P Q:Luc.Pt} {A1 A2 B1 B2:Option Addr} {c1 c2 d1 d2:Nat} {l1 l2 m1 m2:List Nat} {inf jnf:Bool} (hp:PtV P w A1 c1 l1 A2 c2 l2 inf) (hq:PtV Q w B1 d1 m1 B2 d2 m2 jnf) (ho:Luc.OnC P) (ho2:Luc.OnC Q) :
  Calls Tryd.prog 14 #[.agg #[.slice A1 l1.length c1,.slice A2 l2.length c2,.bool inf],.agg #[.slice B1 m1.length d1,.slice B2 m2.length d2,.bool jnf]] w (PtR (Luc.add P Q) w):=by
 obtain ⟨w1,hw1⟩:∃ W,W=w.alloc (.cells #[.slice A1 l1.length c1,.slice A2 l2.length c2,.bool inf] 26):=⟨_,rfl⟩
 have hz1:w1.heap.size=w.heap.size+1:=by rw [hw1];simp
 have hb1:Below w.heap.size w w1:=by rw [hw1];exact (Below.refl _ _).alloc (Nat.le_refl _) _
 obtain ⟨w2,hw2⟩:∃ W,W=w1.alloc (.cells #[.slice B1 m1.length d1,.slice B2 m2.length d2,.bool jnf] 26):=⟨_,rfl⟩
 have hz2:w2.heap.size=w.heap.size+1+1:=by rw [hw2];simp [hz1]
 have hb2:Below w.heap.size w w2:=by rw [hw2];exact hb1.alloc hb1.size _
 obtain ⟨W0,hw3⟩:∃ W,W=w2.alloc (.cells #[.slice none 0 0,.slice none 0 0,.bool false] 26):=⟨_,rfl⟩
 have hb3:Below w.heap.size w W0:=by rw [hw3];exact hb2.alloc hb2.size _
 have PB0:Hid (Holds W0 w.heap.size 26 #[.slice A1 l1.length c1,.slice A2 l2.length c2,.bool inf]):=lH (by rw [hw3,hw2,hw1];exact ((Holds.fresh w _ _).alloc _).alloc _)
 have QB0:Hid (Holds W0 (w.heap.size+1) 26 #[.slice B1 m1.length d1,.slice B2 m2.length d2,.bool jnf]):=lH (by rw [hw3,hw2,←hz1];exact (Holds.fresh w1 _ _).alloc _)
 have RB0:Hid (Holds W0 (w.heap.size+1+1) 26 #[.slice none 0 0,.slice none 0 0,.bool false]):=lH (by rw [hw3,←hz2];exact Holds.fresh w2 _ _)
 have HB0:=lH hb3
 have HM:=lH hm
 have HP:=lH hp
 have HQ:=lH hq
 have HO:=lH ho
 have HO2:=lH ho2
 have HI:=lH (isP W0 (hm.under hb3) (hp.under hb3) ho)
 have HW:=lH (hw1 ▸ hw2 ▸ hw3:W0=((w.alloc (.cells #[.slice A1 l1.length c1,.slice A2 l2.length c2,.bool inf] 26)).alloc (.cells #[.slice B1 m1.length d1,.slice B2 m2.length d2,.bool jnf] 26)).alloc (.cells #[.slice none 0 0,.slice none 0 0,.bool false] 26))
 clear hw1 hz1 hb1 hw2 hz2 hb2 hw3 hb3 hm hp hq ho ho2
 go_enter Tryd.func14,Tryd.ntmps14
 go_wp2_with fail
 rw [←HW.out]
 clear HW
 refine HI.out.mono ?_
 rintro e W1 ⟨rfl,hb⟩
 have PB1:=lH (PB0.out.under hb (Holds.lt PB0.out))
 have QB1:=lH (QB0.out.under hb (Holds.lt QB0.out))
 have RB1:=lH (RB0.out.under hb (Holds.lt RB0.out))
 have HB1:=lH (HB0.out.trans (hb.mono HB0.out.size))
 clear PB0 QB0 RB0 HB0
 clear hb HI
 have HI:=lH (isP W1 (HM.out.under HB1.out) (HQ.out.under HB1.out) HO2.out)
 have q0:=QB1.out.cell 0
 have q1:=QB1.out.cell 1
 have q2:=QB1.out.cell 2
 go_wp2_with fail
 refine HI.out.mono ?_
 rintro e W2 ⟨rfl,hb⟩
 have PB2:=lH (PB1.out.under hb (Holds.lt PB1.out))
 have QB2:=lH (QB1.out.under hb (Holds.lt QB1.out))
 have RB2:=lH (RB1.out.under hb (Holds.lt RB1.out))
 have HB2:=lH (HB1.out.trans (hb.mono HB1.out.size))
 clear PB1 QB1 RB1 HB1
 clear hb HI q0 q1 q2
 go_wp2_with fail
 refine wp_region_noPanic ?_
 refine wp_region_held_drew (S:=fun W=>Holds W w.heap.size 26 #[.slice A1 l1.length c1,.slice A2 l2.length c2,.bool inf]∧Holds W (w.heap.size+1) 26 #[.slice B1 m1.length d1,.slice B2 m2.length d2,.bool jnf]∧True) (by kernel_rfl) (⟨PB2.out,QB2.out,trivial⟩) (fun hHeld=>?_)
 obtain ⟨W3,hV⟩:∃ W,W=W2.drew:=⟨_,rfl⟩
 rw [←hV]
 have hb:Below W2.heap.size W2 W3:=by rw [hV];exact (Below.refl _ W2).drew
 have PB3:=lH (PB2.out.under hb (Holds.lt PB2.out))
 have QB3:=lH (QB2.out.under hb (Holds.lt QB2.out))
 have RB3:=lH (RB2.out.under hb (Holds.lt RB2.out))
 have HB3:=lH (HB2.out.trans (hb.mono HB2.out.size))
 clear PB2 QB2 RB2 HB2
 have HS3:Hid ((fun W=>Holds W w.heap.size 26 #[.slice A1 l1.length c1,.slice A2 l2.length c2,.bool inf]∧Holds W (w.heap.size+1) 26 #[.slice B1 m1.length d1,.slice B2 m2.length d2,.bool jnf]∧True) W3):=lH ⟨PB3.out,QB3.out,trivial⟩
 replace hHeld:(fun W=>Holds W w.heap.size 26 #[.slice A1 l1.length c1,.slice A2 l2.length c2,.bool inf]∧Holds W (w.heap.size+1) 26 #[.slice B1 m1.length d1,.slice B2 m2.length d2,.bool jnf]∧True) W3:=HS3.out
 clear hb hV
 refine tk 0 ⟨some 14,.load 26 (.tmp 2),26,_,_,none⟩ ?_ rfl ?_ hHeld ?_
 rotate_left 1
 ·(intro W hW;have h0:=hW.1.cell 0;have h1:=hW.1.cell 1;have h2:=hW.1.cell 2;(try dsimp only at hW);go_simp;try with_reducible rfl)
 try simp only [aP]
 refine tk 2 ⟨some 16,.load 26 (.tmp 3),26,_,_,none⟩ ?_ rfl ?_ hHeld ?_
 rotate_left 1
 ·(intro W hW;have h0:=hW.2.1.cell 0;have h1:=hW.2.1.cell 1;have h2:=hW.2.1.cell 2;(try dsimp only at hW);go_simp;try with_reducible rfl)
 try simp only [aP]
 refine rdy 1 ⟨some 15,.call ⟨ .value (.func 43),#[.tmp 14],#[26]⟩,69,_,_,none⟩ rfl (fun K hK=>?_)
 go_simp
 refine (wideP W3 (HM.out.under HB3.out) (HP.out.under' HB3.out)).mono ?_
 rintro e W4 ⟨j,x0,x1,x2,x3,y0,y1,y2,y3,z0,z1,z2,z3,rfl,hd,hj,hb⟩
 have PB4:=lH (PB3.out.under hb (Holds.lt PB3.out))
 have QB4:=lH (QB3.out.under hb (Holds.lt QB3.out))
 have RB4:=lH (RB3.out.under hb (Holds.lt RB3.out))
 have HB4:=lH (HB3.out.trans (hb.mono HB3.out.size))
 clear PB3 QB3 RB3 HB3
 have HS4:Hid ((fun W=>Holds W w.heap.size 26 #[.slice A1 l1.length c1,.slice A2 l2.length c2,.bool inf]∧Holds W (w.heap.size+1) 26 #[.slice B1 m1.length d1,.slice B2 m2.length d2,.bool jnf]∧True) W4):=lH ⟨PB4.out,QB4.out,trivial⟩
 have HD:=lH hd
 have HJ:=lH hj
 clear hb hd hj
 go_simp
 refine hK.out _ _ (HS4.out) (fun hHeld=>?_)
 clear hK K
 try simp only [aP]
 refine rdy 3 ⟨some 17,.call ⟨ .value (.func 42),#[.tmp 15,.tmp 16],#[69,26]⟩,69,_,_,none⟩ rfl (fun K hK=>?_)
 go_simp
 refine (plusP W4 (HM.out.under HB4.out) j HD.out (by rw [HJ.out];exact HO.out) (HQ.out.under' HB4.out) HO2.out).mono ?_
 rintro e W5 ⟨j2,X0,X1,X2,X3,Y0,Y1,Y2,Y3,Z0,Z1,Z2,Z3,rfl,hd,hj,hb⟩
 have PB5:=lH (PB4.out.under hb (Holds.lt PB4.out))
 have QB5:=lH (QB4.out.under hb (Holds.lt QB4.out))
 have RB5:=lH (RB4.out.under hb (Holds.lt RB4.out))
 have HB5:=lH (HB4.out.trans (hb.mono HB4.out.size))
 clear PB4 QB4 RB4 HB4
 have HS5:Hid ((fun W=>Holds W w.heap.size 26 #[.slice A1 l1.length c1,.slice A2 l2.length c2,.bool inf]∧Holds W (w.heap.size+1) 26 #[.slice B1 m1.length d1,.slice B2 m2.length d2,.bool jnf]∧True) W5):=lH ⟨PB5.out,QB5.out,trivial⟩
 rw [HJ.out] at hj
 have HD2:=lH hd
 have HJ2:=lH hj
 clear hb hd hj
 go_simp
 refine hK.out _ _ (HS5.out) (fun hHeld=>?_)
 clear hK K
 try simp only [aP]
 refine rdy 4 ⟨some 18,.call ⟨ .value (.func 41),#[.tmp 17],#[69]⟩,26,_,_,none⟩ rfl (fun K hK=>?_)
 go_simp
 refine (flatP W5 (HM.out.under HB5.out) j2 HD2.out).mono ?_
 rintro e W6 ⟨A,ca,la,B,cb,lb,knf,rfl,hq,hb⟩
 have PB6:=lH (PB5.out.under hb (Holds.lt PB5.out))
 have QB6:=lH (QB5.out.under hb (Holds.lt QB5.out))
 have RB6:=lH (RB5.out.under hb (Holds.lt RB5.out))
 have HB6:=lH (HB5.out.trans (hb.mono HB5.out.size))
 clear PB5 QB5 RB5 HB5
 have HS6:Hid ((fun W=>Holds W w.heap.size 26 #[.slice A1 l1.length c1,.slice A2 l2.length c2,.bool inf]∧Holds W (w.heap.size+1) 26 #[.slice B1 m1.length d1,.slice B2 m2.length d2,.bool jnf]∧True) W6):=lH ⟨PB6.out,QB6.out,trivial⟩
 rw [HJ2.out] at hq
 have HR:=lH hq
 clear hb hq
 go_simp
 refine hK.out _ _ (HS6.out) (fun hHeld=>?_)
 clear hK K
 try simp only [aP]
 refine rdy 5 ⟨none,.store 26 (.tmp 4) (.tmp 18),0,_,_,none⟩ rfl (fun K hK=>?_)
 have r0:=RB6.out.cell 0
 have r1:=RB6.out.cell 1
 have r2:=RB6.out.cell 2
 have or0:=RB6.out.open_ 0
 have or1:=RB6.out.open_ 1
 have or2:=RB6.out.open_ 2
 obtain ⟨VL,hN⟩:∃ W,W=(((W6.setCell ⟨(w.heap.size+1+1),0,none⟩ (.slice A la.length ca)).setCell ⟨(w.heap.size+1+1),1,none⟩ (.slice B lb.length cb)).setCell ⟨(w.heap.size+1+1),2,none⟩ (.bool knf)):=⟨_,rfl⟩
 go_simp
 rw [←hN]
 have HRL:Hid (Holds VL (w.heap.size+1+1) 26 #[.slice A la.length ca,.slice B lb.length cb,.bool knf]):=lH (by rw [hN];exact set3 RB6.out _ _ _)
 have HBL:Hid (Below w.heap.size w VL):=lH (by rw [hN];exact below3 HB6.out (by omega) _ _ _)
 have HSL:Hid ((fun W=>Holds W w.heap.size 26 #[.slice A1 l1.length c1,.slice A2 l2.length c2,.bool inf]∧Holds W (w.heap.size+1) 26 #[.slice B1 m1.length d1,.slice B2 m2.length d2,.bool jnf]∧True) VL):=lH ⟨by rw [hN];exact holds_aside3 PB6.out (k:=(w.heap.size+1+1)) (by omega) _ _ _,by rw [hN];exact holds_aside3 QB6.out (k:=(w.heap.size+1+1)) (by omega) _ _ _,trivial⟩
 have HV:Hid (PtV (Luc.add P Q) VL A ca la B cb lb knf):=lH ⟨HR.out.inf,by rw [hN];exact HR.out.x.store3 RB6.out no_numsP _ _ _,by rw [hN];exact HR.out.y.store3 RB6.out no_numsP _ _ _⟩
 clear hN r0 r1 r2 or0 or1 or2
 refine hK.out _ _ (HSL.out) (fun hHeld=>?_)
 clear hK K
 try simp only [aP]
 refine wpAnyH_done (by kernel_rfl) ?_ _
 refine NoPanic.normal ?_
 go_wp2_with fail
 exact ret_pt (g:=w.heap.size+1+1) rfl rfl HRL.out rfl ⟨A,ca,la,B,cb,lb,knf,rfl,HV.out,HBL.out⟩
end Go.Proofs.YtflfdglpljodbaaDoor
namespace Go.Proofs.YtflfdglpljodbaaDoor
open Go.RowKit
set_option linter.unusedVariables false
set_option linter.unusedSimpArgs false
theorem lN_val:val lN=Luc.cNn:=by decide +kernel
theorem num_len8N {r:List Nat} {v:Nat} (h:NumIs r (v % val lN)):r.length≤8:=by
 refine num_len8 h (Nat.lt_of_lt_of_le (Nat.mod_lt _ (by rw [lN_val];decide)) ?_)
 rw [lN_val]
 decide
theorem timesP (w:World) (hm:CMet w) {P:Luc.Pt} {A A1 A2:Option Addr} {c c1 c2:Nat} {l l1 l2:List Nat} {inf:Bool} (hr:Rd .u32 w w.heap.size A c l) (hd:Dg l) (hs:l.length≤4000) (hp:PtV P w A1 c1 l1 A2 c2 l2 inf) (ho:Luc.OnC P) :
  Calls Tryd.prog 22 #[.slice A l.length c,.agg #[.slice A1 l1.length c1,.slice A2 l2.length c2,.bool inf]] w (PtR (Luc.nmul P (val l % val lN)) w):=by
 obtain ⟨w1,hw1⟩:∃ W,W=w.alloc (.cells #[.slice A1 l1.length c1,.slice A2 l2.length c2,.bool inf] 26):=⟨_,rfl⟩
 have hz1:w1.heap.size=w.heap.size+1:=by rw [hw1];simp
 have hb1:Below w.heap.size w w1:=by rw [hw1];exact (Below.refl _ _).alloc (Nat.le_refl _) _
 obtain ⟨w2,hw2⟩:∃ W,W=w1.alloc (.cells #[.slice none 0 0,.slice none 0 0,.bool false] 26):=⟨_,rfl⟩
 have hz2:w2.heap.size=w.heap.size+1+1:=by rw [hw2];simp [hz1]
 have hb2:Below w.heap.size w w2:=by rw [hw2];exact hb1.alloc hb1.size _
 have PB2:Hid (Holds w2 w.heap.size 26 #[.slice A1 l1.length c1,.slice A2 l2.length c2,.bool inf]):=lH (by rw [hw2,hw1];exact (Holds.fresh w _ _).alloc _)
 have RB2:Hid (Holds w2 (w.heap.size+1) 26 #[.slice none 0 0,.slice none 0 0,.bool false]):=lH (by rw [hw2,←hz1];exact Holds.fresh w1 _ _)
 have HB2:=lH hb2
 have HM:=lH hm
 have HP:=lH hp
 have HO:=lH ho
 have HR:=lH hr
 have HI:=lH (isP w2 (hm.under hb2) (hp.under hb2) ho)
 have HW:=lH (hw1 ▸ hw2:w2=(w.alloc (.cells #[.slice A1 l1.length c1,.slice A2 l2.length c2,.bool inf] 26)).alloc (.cells #[.slice none 0 0,.slice none 0 0,.bool false] 26))
 have HD0:=lH hd
 clear hw1 hz1 hb1 hw2 hb2 hm hp ho hr
 go_enter Tryd.func22,Tryd.ntmps22
 go_wp2_with fail
 rw [←HW.out]
 clear HW
 refine HI.out.mono ?_
 rintro e w3 ⟨rfl,hb3⟩
 have PB3:=lH (PB2.out.under hb3 (Holds.lt PB2.out))
 have RB3:=lH (RB2.out.under hb3 (Holds.lt RB2.out))
 have HB3:=lH (HB2.out.trans (hb3.mono HB2.out.size))
 clear hb3 PB2 RB2 HB2 HI
 go_wp2_with fail
 refine (curveN_any w3).mono ?_
 rintro e w4 ⟨g,hg,rfl,hP,hb4⟩
 have PB4:=lH (PB3.out.under hb4 (Holds.lt PB3.out))
 have RB4:=lH (RB3.out.under hb4 (Holds.lt RB3.out))
 have HB4:=lH (HB3.out.trans (hb4.mono HB3.out.size))
 have HD:=lH (div_any w4 w4.heap.size w4.heap.size A (some ⟨g,0,none⟩) c 8 l lN ((HR.out.under HB4.out).more HB4.out.size) (Eight.rd hP rfl) (Nat.le_refl _) (Nat.le_refl _) HD0.out lN_ok.1 hs (by decide) (by decide +kernel))
 clear hg hP hb4 PB3 RB3 HB3
 go_wp2_with fail
 refine HD.out.mono ?_
 rintro e w5 ⟨A7,c7,qq,A3,c3,r,rfl,hnq,hnr,hfq,hfr,hb5⟩
 have PB5:=lH (PB4.out.under hb5 (Holds.lt PB4.out))
 have RB5:=lH (RB4.out.under hb5 (Holds.lt RB4.out))
 have HB5:=lH (HB4.out.trans (hb5.mono HB4.out.size))
 have HR5:=lH hfr.1
 have HNR:=lH hnr
 clear hnq hnr hfq hfr hb5 PB4 RB4 HB4 HD
 go_wp2_with fail
 obtain ⟨w6,hw6⟩:∃ W,W=w5.alloc (.cells #[.int .u64 0,.int .u64 0,.int .u64 0,.int .u64 0,.int .u64 0,.int .u64 0,.int .u64 0,.int .u64 0,.int .u64 0,.int .u64 0,.int .u64 0,.int .u64 0] 69):=⟨_,rfl⟩
 rw [←hw6]
 obtain ⟨s,hs6⟩:∃ s,s=w5.heap.size:=⟨_,rfl⟩
 rw [←hs6]
 have HSL:Hid (w.heap.size+1<s):=lH (by rw [hs6];exact Holds.lt RB5.out)
 have SB6:Hid (Holds w6 s 69 #[.int .u64 0,.int .u64 0,.int .u64 0,.int .u64 0,.int .u64 0,.int .u64 0,.int .u64 0,.int .u64 0,.int .u64 0,.int .u64 0,.int .u64 0,.int .u64 0]):=lH (by rw [hw6,hs6];exact Holds.fresh _ _ _)
 have PB6:Hid (Holds w6 w.heap.size 26 #[.slice A1 l1.length c1,.slice A2 l2.length c2,.bool inf]):=lH (by rw [hw6];exact PB5.out.alloc _)
 have RB6:Hid (Holds w6 (w.heap.size+1) 26 #[.slice none 0 0,.slice none 0 0,.bool false]):=lH (by rw [hw6];exact RB5.out.alloc _)
 have HB6:Hid (Below w.heap.size w w6):=lH (by rw [hw6];exact HB5.out.alloc HB5.out.size _)
 have HR6:Hid (Rd .u32 w6 w5.heap.size A3 c3 r):=lH (by rw [hw6];exact HR5.out.alloc (Nat.le_refl _) _)
 rw [←hs6] at HR6
 have hrd:=HNR.out.1
 have hrn:=HNR.out.2.1
 have hrl:r.length≤8:=num_len8N HNR.out
 clear hw6 hs6 PB5 RB5 HB5 HR5
 refine (bits_any w6 s A3 c3 _ r HR6.out rfl hrd (by omega) _ rfl).mono ?_
 rintro e w7 ⟨rfl,rfl⟩
 have Htop:=lH (val_top hrd)
 have hnb64:=nb_trl_le hrd
 obtain ⟨E,HE⟩:∃ E,Hid (E=val r):=⟨_,rfl⟩
 obtain ⟨N,HN⟩:∃ N,Hid (N=nb (trl r)):=⟨_,rfl⟩
 rw [←HN.out] at Htop hnb64 ⊢
 rw [←HE.out] at Htop
 have HEN:Hid (E=val l % val lN):=lH (by rw [HE.out];exact HNR.out.2.2)
 have HRD:=lH hrd
 clear hrd hrn
 go_wp2_with fail
 go_loopw [6] (fun si wr=>∃ (i:Nat) (j:Luc.Jc) (x0 x1 x2 x3 y0 y1 y2 y3 z0 z1 z2 z3:Nat),i≤N∧si = .int .i64 ((i:Int) - 1)∧Hid (nm (en j.x)=[x0,x1,x2,x3]∧nm (en j.y)=[y0,y1,y2,y3]∧nm (en j.z)=[z0,z1,z2,z3])∧Hid (Luc.Rep j=Luc.nmul P (E / 2 ^ i))∧Hid (Holds wr s 69 #[.int .u64 (x0:Int),.int .u64 (x1:Int),.int .u64 (x2:Int),.int .u64 (x3:Int),.int .u64 (y0:Int),.int .u64 (y1:Int),.int .u64 (y2:Int),.int .u64 (y3:Int),.int .u64 (z0:Int),.int .u64 (z1:Int),.int .u64 (z2:Int),.int .u64 (z3:Int)])∧Hid (Holds wr w.heap.size 26 #[.slice A1 l1.length c1,.slice A2 l2.length c2,.bool inf])∧Hid (Holds wr (w.heap.size+1) 26 #[.slice none 0 0,.slice none 0 0,.bool false])∧Hid (Below w.heap.size w wr)∧Hid (Rd .u32 wr s A3 c3 r)) (fun si _=>(intOf si+1).toNat)
 case atStart=>exact ⟨N,⟨0,0,0⟩,0,0,0,0,0,0,0,0,0,0,0,0,Nat.le_refl _,rfl,lH ⟨dig0,dig0,dig0⟩,lH (by rw [Htop.out];exact Luc.Rep.no rfl),SB6,PB6,RB6,HB6,HR6⟩
 case round =>
  obtain ⟨i,j,x0,x1,x2,x3,y0,y1,y2,y3,z0,z1,z2,z3,hi,rfl,HDG,HJ,SBr,PBr,RBr,HBr,HRr⟩:=hrel
  clear SB6 PB6 RB6 HB6 HR6
  have k0:=SBr.out.cell 0
  have k1:=SBr.out.cell 1
  have k2:=SBr.out.cell 2
  have k3:=SBr.out.cell 3
  have k4:=SBr.out.cell 4
  have k5:=SBr.out.cell 5
  have k6:=SBr.out.cell 6
  have k7:=SBr.out.cell 7
  have k8:=SBr.out.cell 8
  have k9:=SBr.out.cell 9
  have k10:=SBr.out.cell 10
  have k11:=SBr.out.cell 11
  rcases i with _ | i
  ·have HJ2:Hid (Luc.Rep j=Luc.nmul P (val l % val lN)):=lH (by rw [HJ.out,Nat.pow_zero,Nat.div_one,HEN.out])
   have HF:=lH (flatP wr (HM.out.under HBr.out) j HDG.out)
   rw [HJ2.out] at HF
   go_wp2_with fail
   refine HF.out.mono ?_
   rintro e w8 ⟨Aa,ca,la,Ab,cb,lb,knf,rfl,hq,hb8⟩
   have RB8:=lH (RBr.out.under hb8 (Holds.lt RBr.out))
   have HB8:=lH (HBr.out.trans (hb8.mono HBr.out.size))
   have HQ:=lH hq
   clear hb8 hq HF k0 k1 k2 k3 k4 k5 k6 k7 k8 k9 k10 k11
   have r0:=RB8.out.cell 0
   have r1:=RB8.out.cell 1
   have r2:=RB8.out.cell 2
   have or0:=RB8.out.open_ 0
   have or1:=RB8.out.open_ 1
   have or2:=RB8.out.open_ 2
   go_wp2_with fail
   exact ret_pt (g:=w.heap.size+1) rfl rfl (set3 RB8.out (.slice Aa la.length ca) (.slice Ab lb.length cb) (.bool knf)) rfl ⟨Aa,ca,la,Ab,cb,lb,knf,rfl,⟨HQ.out.inf,HQ.out.x.store3 RB8.out no_numsP _ _ _,HQ.out.y.store3 RB8.out no_numsP _ _ _⟩,below3 HB8.out (by omega) _ _ _⟩
  ·rw [show (((i+1:Nat):Int) - 1)=(i:Int) from by omega]
   obtain ⟨bit,Hbit⟩:∃ b,Hid (E / 2 ^ i % 2=b):=⟨_,rfl⟩
   have Hst:=lH (pow_step 0 E i 0 bit Hbit.out)
   have hon:Luc.OnC (Luc.Rep j):=by rw [HJ.out];exact Luc.nmul_on HO.out _
   have HTW:=lH (doubleP wr (HM.out.under HBr.out) j HDG.out hon)
   have HD2:Hid (Luc.add (Luc.Rep j) (Luc.Rep j)=Luc.nmul P (2*(E / 2 ^ (i+1)))):=lH (by rw [HJ.out,Luc.nmul_two HO.out])
   clear hon
   go_wp2_with fail
   refine HTW.out.mono ?_
   rintro e w5 ⟨j2,X0,X1,X2,X3,Y0,Y1,Y2,Y3,Z0,Z1,Z2,Z3,rfl,hd2,hj2,hb5⟩
   rw [HD2.out] at hj2
   have HDG2:=lH hd2
   have HJ2:=lH hj2
   have SB5:=lH (SBr.out.under hb5 (Holds.lt SBr.out))
   have PB5:=lH (PBr.out.under hb5 (Holds.lt PBr.out))
   have RB5:=lH (RBr.out.under hb5 (Holds.lt RBr.out))
   have HB5:=lH (HBr.out.trans (hb5.mono HBr.out.size))
   have HR5:=lH (HRr.out.under (hb5.mono (Nat.le_of_lt (Holds.lt SBr.out))))
   have hsl:=HSL.out
   clear HTW hd2 hj2 hb5 HDG HJ HD2 SBr PBr RBr HBr HRr k0 k1 k2 k3 k4 k5 k6 k7 k8 k9 k10 k11
   have b0:=SB5.out.cell 0
   have b1:=SB5.out.cell 1
   have b2:=SB5.out.cell 2
   have b3:=SB5.out.cell 3
   have b4:=SB5.out.cell 4
   have b5:=SB5.out.cell 5
   have b6:=SB5.out.cell 6
   have b7:=SB5.out.cell 7
   have b8:=SB5.out.cell 8
   have b9:=SB5.out.cell 9
   have b10:=SB5.out.cell 10
   have b11:=SB5.out.cell 11
   have ob0:=SB5.out.open_ 0
   have ob1:=SB5.out.open_ 1
   have ob2:=SB5.out.open_ 2
   have ob3:=SB5.out.open_ 3
   have ob4:=SB5.out.open_ 4
   have ob5:=SB5.out.open_ 5
   have ob6:=SB5.out.open_ 6
   have ob7:=SB5.out.open_ 7
   have ob8:=SB5.out.open_ 8
   have ob9:=SB5.out.open_ 9
   have ob10:=SB5.out.open_ 10
   have ob11:=SB5.out.open_ 11
   obtain ⟨V,hV⟩:∃ W,W=((((((((((((w5.setCell ⟨s,0,none⟩ (.int .u64 (X0:Int))).setCell ⟨s,1,none⟩ (.int .u64 (X1:Int))).setCell ⟨s,2,none⟩ (.int .u64 (X2:Int))).setCell ⟨s,3,none⟩ (.int .u64 (X3:Int))).setCell ⟨s,4,none⟩ (.int .u64 (Y0:Int))).setCell ⟨s,5,none⟩ (.int .u64 (Y1:Int))).setCell ⟨s,6,none⟩ (.int .u64 (Y2:Int))).setCell ⟨s,7,none⟩ (.int .u64 (Y3:Int))).setCell ⟨s,8,none⟩ (.int .u64 (Z0:Int))).setCell ⟨s,9,none⟩ (.int .u64 (Z1:Int))).setCell ⟨s,10,none⟩ (.int .u64 (Z2:Int))).setCell ⟨s,11,none⟩ (.int .u64 (Z3:Int))):=⟨_,rfl⟩
   have HV:=lH hV
   have SV:Hid (Holds V s 69 #[.int .u64 (X0:Int),.int .u64 (X1:Int),.int .u64 (X2:Int),.int .u64 (X3:Int),.int .u64 (Y0:Int),.int .u64 (Y1:Int),.int .u64 (Y2:Int),.int .u64 (Y3:Int),.int .u64 (Z0:Int),.int .u64 (Z1:Int),.int .u64 (Z2:Int),.int .u64 (Z3:Int)]):=lH (by rw [hV];exact set12 SB5.out _ _ _ _ _ _ _ _ _ _ _ _)
   have PV:Hid (Holds V w.heap.size 26 #[.slice A1 l1.length c1,.slice A2 l2.length c2,.bool inf]):=lH (by rw [hV];exact holds_aside12 PB5.out (k:=s) (by omega) _ _ _ _ _ _ _ _ _ _ _ _)
   have RV:Hid (Holds V (w.heap.size+1) 26 #[.slice none 0 0,.slice none 0 0,.bool false]):=lH (by rw [hV];exact holds_aside12 RB5.out (k:=s) (by omega) _ _ _ _ _ _ _ _ _ _ _ _)
   have BV:Hid (Below w.heap.size w V):=lH (by rw [hV];exact below12 HB5.out (by omega) _ _ _ _ _ _ _ _ _ _ _ _)
   have HRV:Hid (Rd .u32 V s A3 c3 r):=lH (HR5.out.under (by rw [hV];exact below12 (Below.refl _ _) (Nat.le_refl _) _ _ _ _ _ _ _ _ _ _ _ _))
   have hrV:=HRV.out
   obtain ⟨be,oe,x,rfl,hbe,hx,Hx⟩:=hrV.at_ (i:=i / 32) (by omega)
   have hxl:x<4294967296:=by rw [Hx.out];exact HRD.out.at_ _
   have hix:i / 32<r.length:=by omega
   have hlc:=hrV.1
   have hlc63:=hrV.2.1
   have hand:=and_one x (i % 32) hxl
   rw [Hx.out,bit_at HRD.out i,←HE.out,Hbit.out,←Hx.out] at hand
   clear hrV SB5 PB5 RB5 HB5 HR5
   by_cases hbit:bit=1
   ·subst hbit
    have htest:(bits .and .u32 ((x:Int) / 2 ^ (i % 32)) 1 == 1)=true:=by rw [hand];rfl
    clear hand
    have p0:=PV.out.cell 0
    have p1:=PV.out.cell 1
    have p2:=PV.out.cell 2
    have k0:=SV.out.cell 0
    have k1:=SV.out.cell 1
    have k2:=SV.out.cell 2
    have k3:=SV.out.cell 3
    have k4:=SV.out.cell 4
    have k5:=SV.out.cell 5
    have k6:=SV.out.cell 6
    have k7:=SV.out.cell 7
    have k8:=SV.out.cell 8
    have k9:=SV.out.cell 9
    have k10:=SV.out.cell 10
    have k11:=SV.out.cell 11
    rw [hV] at hx p0 p1 p2 k0 k1 k2 k3 k4 k5 k6 k7 k8 k9 k10 k11
    clear hV
    have hon2:Luc.OnC (Luc.Rep j2):=by rw [HJ2.out];exact Luc.nmul_on HO.out _
    have HMO:=lH (plusP V (HM.out.under BV.out) j2 HDG2.out hon2 (HP.out.under BV.out) HO.out)
    go_wp2_with fail
    rw [←HV.out]
    refine HMO.out.mono ?_
    rintro e w6 ⟨j3,x0,x1,x2,x3,y0,y1,y2,y3,z0,z1,z2,z3,rfl,hd3,hj3,hb6⟩
    have HJ3:Hid (Luc.Rep j3=Luc.nmul P (E / 2 ^ i)):=lH (by rw [hj3,HJ2.out,Hst.out];rfl)
    have HDG3:=lH hd3
    have S6:=lH (SV.out.under hb6 (Holds.lt SV.out))
    have P6:=lH (PV.out.under hb6 (Holds.lt PV.out))
    have R6:=lH (RV.out.under hb6 (Holds.lt RV.out))
    have B6:=lH (BV.out.trans (hb6.mono BV.out.size))
    have HR6:=lH (HRV.out.under (hb6.mono (Nat.le_of_lt (Holds.lt SV.out))))
    clear HMO HV hd3 hj3 hb6 hon2 hx hbe p0 p1 p2 k0 b0 ob0 k1 b1 ob1 k2 b2 ob2 k3 b3 ob3 k4 b4 ob4 k5 b5 ob5 k6 b6 ob6 k7 b7 ob7 k8 b8 ob8 k9 b9 ob9 k10 b10 ob10 k11 b11 ob11
    have b0:=S6.out.cell 0
    have b1:=S6.out.cell 1
    have b2:=S6.out.cell 2
    have b3:=S6.out.cell 3
    have b4:=S6.out.cell 4
    have b5:=S6.out.cell 5
    have b6:=S6.out.cell 6
    have b7:=S6.out.cell 7
    have b8:=S6.out.cell 8
    have b9:=S6.out.cell 9
    have b10:=S6.out.cell 10
    have b11:=S6.out.cell 11
    have ob0:=S6.out.open_ 0
    have ob1:=S6.out.open_ 1
    have ob2:=S6.out.open_ 2
    have ob3:=S6.out.open_ 3
    have ob4:=S6.out.open_ 4
    have ob5:=S6.out.open_ 5
    have ob6:=S6.out.open_ 6
    have ob7:=S6.out.open_ 7
    have ob8:=S6.out.open_ 8
    have ob9:=S6.out.open_ 9
    have ob10:=S6.out.open_ 10
    have ob11:=S6.out.open_ 11
    go_wp2_with fail
    exact ⟨⟨i,j3,x0,x1,x2,x3,y0,y1,y2,y3,z0,z1,z2,z3,by omega,rfl,HDG3,HJ3,lH (set12 S6.out _ _ _ _ _ _ _ _ _ _ _ _),lH (holds_aside12 P6.out (k:=s) (by omega) _ _ _ _ _ _ _ _ _ _ _ _),lH (holds_aside12 R6.out (k:=s) (by omega) _ _ _ _ _ _ _ _ _ _ _ _),lH (below12 B6.out (by omega) _ _ _ _ _ _ _ _ _ _ _ _),lH (HR6.out.under (below12 (Below.refl _ _) (Nat.le_refl _) _ _ _ _ _ _ _ _ _ _ _ _))⟩,by simp [intOf]⟩
   ·have hb0:bit=0:=by have:=Hbit.out;omega
    subst hb0
    have htest:(bits .and .u32 ((x:Int) / 2 ^ (i % 32)) 1 == 1)=false:=by rw [hand];rfl
    clear hand
    rw [hV] at hx
    clear hV
    have HJ3:Hid (Luc.Rep j2=Luc.nmul P (E / 2 ^ i)):=lH (by rw [HJ2.out,Hst.out];rfl)
    go_wp2_with fail
    rw [←HV.out]
    exact ⟨⟨i,j2,X0,X1,X2,X3,Y0,Y1,Y2,Y3,Z0,Z1,Z2,Z3,by omega,rfl,HDG2,HJ3,SV,PV,RV,BV,HRV⟩,by simp [intOf]⟩
end Go.Proofs.YtflfdglpljodbaaDoor
namespace Go.Proofs.YtflfdglpljodbaaDoor
open Go.RowKit
set_option linter.unusedVariables false
set_option linter.unusedSimpArgs false
theorem cmp_self {l:List Nat} {v:Nat} (h:NumIs l v):cmpL l l=0:=by
 rw [cmpL_val h.1 h.1 h.2.1 h.2.1]
 simp
theorem sameP (w:World) {Q:Luc.Pt} {A1 A2 B1 B2:Option Addr} {c1 c2 d1 d2:Nat} {l1 l2 m1 m2:List Nat} {inf jnf:Bool} (hp:PtV Q w A1 c1 l1 A2 c2 l2 inf) (hq:PtV Q w B1 d1 m1 B2 d2 m2 jnf) :
  Calls Tryd.prog 18 #[.agg #[.slice A1 l1.length c1,.slice A2 l2.length c2,.bool inf],.agg #[.slice B1 m1.length d1,.slice B2 m2.length d2,.bool jnf]] w fun e w'=>e = .returned (.bool true)∧Below w.heap.size w w':=by
 have e1:l1=m1:=num_one hp.x.num hq.x.num
 have e2:l2=m2:=num_one hp.y.num hq.y.num
 have e3:inf=jnf:=hp.inf.trans hq.inf.symm
 subst e1 e2 e3
 have N1:=lH hp.x.num
 have N2:=lH hp.y.num
 obtain ⟨w1,hw1⟩:∃ W,W=w.alloc (.cells #[.slice A1 l1.length c1,.slice A2 l2.length c2,.bool inf] 26):=⟨_,rfl⟩
 have hz1:w1.heap.size=w.heap.size+1:=by rw [hw1];simp
 have hb1:Below w.heap.size w w1:=by rw [hw1];exact (Below.refl _ _).alloc (Nat.le_refl _) _
 obtain ⟨W0,hw2⟩:∃ W,W=w1.alloc (.cells #[.slice B1 l1.length d1,.slice B2 l2.length d2,.bool inf] 26):=⟨_,rfl⟩
 have hb2:Below w.heap.size w W0:=by rw [hw2];exact hb1.alloc hb1.size _
 have PB0:Hid (Holds W0 w.heap.size 26 #[.slice A1 l1.length c1,.slice A2 l2.length c2,.bool inf]):=lH (by rw [hw2,hw1];exact (Holds.fresh w _ _).alloc _)
 have QB0:Hid (Holds W0 (w.heap.size+1) 26 #[.slice B1 l1.length d1,.slice B2 l2.length d2,.bool inf]):=lH (by rw [hw2,←hz1];exact Holds.fresh w1 _ _)
 have HB0:=lH hb2
 have HW:=lH (hw1 ▸ hw2:W0=(w.alloc (.cells #[.slice A1 l1.length c1,.slice A2 l2.length c2,.bool inf] 26)).alloc (.cells #[.slice B1 l1.length d1,.slice B2 l2.length d2,.bool inf] 26))
 have X1:=lH (hp.x.rd.under hb2)
 have X2:=lH (hq.x.rd.under hb2)
 have Y1:=lH (hp.y.rd.under hb2)
 have Y2:=lH (hq.y.rd.under hb2)
 clear hp hq hw1 hz1 hb1 hw2 hb2
 cases inf
 all_goals
  go_enter Tryd.func18,Tryd.ntmps18
  go_wp2_with fail
  rw [←HW.out]
  have p0:=PB0.out.cell 0
  have p1:=PB0.out.cell 1
  have p2:=PB0.out.cell 2
  have q0:=QB0.out.cell 0
  have q1:=QB0.out.cell 1
  have q2:=QB0.out.cell 2
  go_wp2_with fail
  refine (eqn_yes W0 A1 B1 c1 d1 _ _ l1 X1.out X2.out).mono ?_
  rintro e W1 ⟨rfl,q,hq⟩
  have PB1:Hid (Holds W1 w.heap.size 26 #[.slice A1 l1.length c1,.slice A2 l2.length c2,.bool _]):=lH (by rw [hq];exact PB0.out)
  have QB1:Hid (Holds W1 (w.heap.size+1) 26 #[.slice B1 l1.length d1,.slice B2 l2.length d2,.bool _]):=lH (by rw [hq];exact QB0.out)
  have Z1:Hid (Rd .u32 W1 w.heap.size A2 c2 l2):=lH (by rw [hq];exact Y1.out.drewN q)
  have Z2:Hid (Rd .u32 W1 w.heap.size B2 d2 l2):=lH (by rw [hq];exact Y2.out.drewN q)
  have HB1:Hid (Below w.heap.size w W1):=lH (by rw [hq];exact bdN HB0.out q)
  clear hq p0 p1 p2 q0 q1 q2
  have p0:=PB1.out.cell 0
  have p1:=PB1.out.cell 1
  have p2:=PB1.out.cell 2
  have q0:=QB1.out.cell 0
  have q1:=QB1.out.cell 1
  have q2:=QB1.out.cell 2
  go_wp2_with fail
  refine (eqn_yes W1 A2 B2 c2 d2 _ _ l2 Z1.out Z2.out).mono ?_
  rintro e W2 ⟨rfl,q,hq⟩
  have HB2:Hid (Below w.heap.size w W2):=lH (by rw [hq];exact bdN HB1.out q)
  clear hq p0 p1 p2 q0 q1 q2
  go_wp2_with fail
  go_ret
  exact ⟨rfl,HB2.out⟩
theorem sameRP (w:World) {Q:Luc.Pt} {A1 A2 B1 B2:Option Addr} {c1 c2 d1 d2:Nat} {l1 l2 m1 m2:List Nat} {inf jnf:Bool} (hp:PtV Q w A1 c1 l1 A2 c2 l2 inf) (hq:PtV Q w B1 d1 m1 B2 d2 m2 jnf) :
  Calls Tryd.prog 16 #[.agg #[.slice A1 l1.length c1,.slice A2 l2.length c2,.bool inf],.agg #[.slice B1 m1.length d1,.slice B2 m2.length d2,.bool jnf]] w fun e w'=>e = .returned (.bool true)∧Below w.heap.size w w':=by
 have e1:l1=m1:=num_one hp.x.num hq.x.num
 have e2:l2=m2:=num_one hp.y.num hq.y.num
 have e3:inf=jnf:=hp.inf.trans hq.inf.symm
 subst e1 e2 e3
 have N1:=lH hp.x.num
 have N2:=lH hp.y.num
 obtain ⟨w1,hw1⟩:∃ W,W=w.alloc (.cells #[.slice A1 l1.length c1,.slice A2 l2.length c2,.bool inf] 26):=⟨_,rfl⟩
 have hz1:w1.heap.size=w.heap.size+1:=by rw [hw1];simp
 have hb1:Below w.heap.size w w1:=by rw [hw1];exact (Below.refl _ _).alloc (Nat.le_refl _) _
 obtain ⟨W0,hw2⟩:∃ W,W=w1.alloc (.cells #[.slice B1 l1.length d1,.slice B2 l2.length d2,.bool inf] 26):=⟨_,rfl⟩
 have hb2:Below w.heap.size w W0:=by rw [hw2];exact hb1.alloc hb1.size _
 have PB0:Hid (Holds W0 w.heap.size 26 #[.slice A1 l1.length c1,.slice A2 l2.length c2,.bool inf]):=lH (by rw [hw2,hw1];exact (Holds.fresh w _ _).alloc _)
 have QB0:Hid (Holds W0 (w.heap.size+1) 26 #[.slice B1 l1.length d1,.slice B2 l2.length d2,.bool inf]):=lH (by rw [hw2,←hz1];exact Holds.fresh w1 _ _)
 have HB0:=lH hb2
 have HW:=lH (hw1 ▸ hw2:W0=(w.alloc (.cells #[.slice A1 l1.length c1,.slice A2 l2.length c2,.bool inf] 26)).alloc (.cells #[.slice B1 l1.length d1,.slice B2 l2.length d2,.bool inf] 26))
 have X1:=lH (hp.x.rd.under hb2)
 have X2:=lH (hq.x.rd.under hb2)
 have Y1:=lH (hp.y.rd.under hb2)
 have Y2:=lH (hq.y.rd.under hb2)
 clear hp hq hw1 hz1 hb1 hw2 hb2
 cases inf
 all_goals
  go_enter Tryd.func16,Tryd.ntmps16
  go_wp2_with fail
  rw [←HW.out]
  have p0:=PB0.out.cell 0
  have p1:=PB0.out.cell 1
  have p2:=PB0.out.cell 2
  have q0:=QB0.out.cell 0
  have q1:=QB0.out.cell 1
  have q2:=QB0.out.cell 2
  go_wp2_with fail
  refine (cmp'_any W0 _ _ A1 B1 c1 d1 l1 l1 X1.out X2.out 0 (cmp_self N1.out)).mono ?_
  rintro e W1 ⟨rfl,q,hq⟩
  have PB1:Hid (Holds W1 w.heap.size 26 #[.slice A1 l1.length c1,.slice A2 l2.length c2,.bool _]):=lH (by rw [hq];exact PB0.out)
  have QB1:Hid (Holds W1 (w.heap.size+1) 26 #[.slice B1 l1.length d1,.slice B2 l2.length d2,.bool _]):=lH (by rw [hq];exact QB0.out)
  have Z1:Hid (Rd .u32 W1 w.heap.size A2 c2 l2):=lH (by rw [hq];exact Y1.out.drewN q)
  have Z2:Hid (Rd .u32 W1 w.heap.size B2 d2 l2):=lH (by rw [hq];exact Y2.out.drewN q)
  have HB1:Hid (Below w.heap.size w W1):=lH (by rw [hq];exact bdN HB0.out q)
  clear hq p0 p1 p2 q0 q1 q2
  have p0:=PB1.out.cell 0
  have p1:=PB1.out.cell 1
  have p2:=PB1.out.cell 2
  have q0:=QB1.out.cell 0
  have q1:=QB1.out.cell 1
  have q2:=QB1.out.cell 2
  go_wp2_with fail
  refine (cmp'_any W1 _ _ A2 B2 c2 d2 l2 l2 Z1.out Z2.out 0 (cmp_self N2.out)).mono ?_
  rintro e W2 ⟨rfl,q,hq⟩
  have HB2:Hid (Below w.heap.size w W2):=lH (by rw [hq];exact bdN HB1.out q)
  clear hq p0 p1 p2 q0 q1 q2
  go_wp2_with fail
  go_ret
  exact ⟨rfl,HB2.out⟩
def gP:Luc.Pt:=some (Luc.gX,Luc.gY)
theorem gP_on:Luc.OnC gP:=Luc.g_on
theorem gP_order:Luc.nmul gP Luc.cNn=none:=Luc.g_order
theorem lX_num:NumIs lX Luc.gX.val:=⟨lX_ok.1,lX_ok.2.1,by decide +kernel⟩
theorem lY_num:NumIs lY Luc.gY.val:=⟨lY_ok.1,lY_ok.2.1,by decide +kernel⟩
theorem g_is {w:World} {e:Ending} {w':World} (h:GAt w e w'):PtR gP w e w':=by
 obtain ⟨gx,gy,rfl,hx,hy,hb⟩:=h
 exact ⟨some ⟨gx,0,none⟩,8,lX,some ⟨gy,0,none⟩,8,lY,false,rfl,⟨rfl,⟨Eight.rd hx rfl,lX_num⟩,⟨Eight.rd hy rfl,lY_num⟩⟩,hb⟩
theorem curveGP (w:World):Calls Tryd.prog 28 #[] w (PtR gP w):=(curveG_any w).mono fun _ _ h=>g_is h
theorem refGP (w:World):Calls Tryd.prog 13 #[] w (PtR gP w):=(refG_any w).mono fun _ _ h=>g_is h
theorem timesRP (w:World) {P:Luc.Pt} {A A1 A2:Option Addr} {c c1 c2:Nat} {l l1 l2:List Nat} {inf:Bool} (hr:Rd .u32 w w.heap.size A c l) (hd:Dg l) (hs:l.length≤1000) (hn:nrm l) (hp:PtV P w A1 c1 l1 A2 c2 l2 inf) (ho:Luc.OnC P) :
  Calls Tryd.prog 11 #[.slice A l.length c,.agg #[.slice A1 l1.length c1,.slice A2 l2.length c2,.bool inf]] w (PtR (Luc.nmul P (val l)) w):=by
 rcases P with _ | ⟨u,v⟩
 ·obtain rfl:inf=true:=hp.inf
  rw [Luc.nmul_none]
  exact timesR_none w hr hd hs
 ·obtain rfl:inf=false:=hp.inf
  exact timesR_some w u v ho hr hd hs hn hp.x hp.y
def Mul (Q:Luc.Pt):Prop:=∃ k,Q=Luc.nmul gP k
theorem Mul.on {Q:Luc.Pt} (h:Mul Q):Luc.OnC Q:=by
 obtain ⟨k,rfl⟩:=h
 exact Luc.nmul_on gP_on k
theorem Mul.order {Q:Luc.Pt} (h:Mul Q):Luc.nmul Q Luc.cNn=none:=by
 obtain ⟨k,rfl⟩:=h
 exact Luc.nmul_order gP_on gP_order k
theorem Mul.mod {Q:Luc.Pt} (h:Mul Q) (n:Nat):Luc.nmul Q (n % val lN)=Luc.nmul Q n:=by
 rw [lN_val]
 exact Luc.nmul_mod h.on h.order n
end Go.Proofs.YtflfdglpljodbaaDoor
