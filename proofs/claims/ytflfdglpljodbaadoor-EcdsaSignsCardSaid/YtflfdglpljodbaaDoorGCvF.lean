/-
  The program: wide points as points. The program: a sum; a point, many times. The program: a point, many times. Two points that are one; the first point; numbers that are such.
-/
import Derived.Test.YtflfdglpljodbaaDoorGCv19
import Derived.Test.YtflfdglpljodbaaDoorGCvE
import Derived.Test.YtflfdglpljodbaaDoorGCvC
import Derived.Deep.RegionLaw
import Derived.Deep.RegionHeld3
import Derived.Deep.DrawnRows
import Derived.Test.YtflfdglpljodbaaDoorGModM
import Derived.Test.YtflfdglpljodbaaDoorGRefB
set_option maxRecDepth 100000
set_option maxHeartbeats 20000000
set_option linter.unusedVariables false
set_option linter.unusedSimpArgs false
namespace Go.Proofs.YtflfdglpljodbaaDoor
open Go.RowKit
def WdR (Q:Luc.Pt) (w:World) (e:Ending) (w':World):Prop :=
 ∃ (j:Luc.Jc) (x0 x1 x2 x3 y0 y1 y2 y3 z0 z1 z2 z3:Nat),e = .returned (.agg #[.int .u64 (x0:Int),.int .u64 (x1:Int),.int .u64 (x2:Int),.int .u64 (x3:Int),.int .u64 (y0:Int),.int .u64 (y1:Int),.int .u64 (y2:Int),.int .u64 (y3:Int),.int .u64 (z0:Int),.int .u64 (z1:Int),.int .u64 (z2:Int),.int .u64 (z3:Int)])∧(nm (en j.x)=[x0,x1,x2,x3]∧nm (en j.y)=[y0,y1,y2,y3]∧nm (en j.z)=[z0,z1,z2,z3])∧Luc.Rep j=Q∧Below w.heap.size w w'
theorem dig_any (f:Luc.F):∃ a b c d,nm (en f)=[a,b,c,d]:=by
 obtain ⟨a,b,c,d,h⟩:=four (nm_len (en f))
 exact ⟨a,b,c,d,h⟩
theorem wideInf (w:World) (Ax Ay:Option Addr) (nx cx ny cy:Nat) :
  Calls Tryd.prog 43 #[.agg #[.slice Ax nx cx,.slice Ay ny cy,.bool true]] w fun e w'=>e = .returned (.agg #[.int .u64 0,.int .u64 0,.int .u64 0,.int .u64 0,.int .u64 0,.int .u64 0,.int .u64 0,.int .u64 0,.int .u64 0,.int .u64 0,.int .u64 0,.int .u64 0])∧Below w.heap.size w w':=by
 go_enter Tryd.func43,Tryd.ntmps43
 go_wp2_with fail
 have e:(w.alloc (.cells #[.slice Ax nx cx,.slice Ay ny cy,.bool true] 26)).heap.size=w.heap.size+1:=by simp
 have hR:=Holds.fresh (w.alloc (.cells #[.slice Ax nx cx,.slice Ay ny cy,.bool true] 26)) 69 #[.int .u64 0,.int .u64 0,.int .u64 0,.int .u64 0,.int .u64 0,.int .u64 0,.int .u64 0,.int .u64 0,.int .u64 0,.int .u64 0,.int .u64 0,.int .u64 0]
 rw [e] at hR
 exact ret_wd (g:=w.heap.size+1) rfl rfl hR rfl ⟨rfl,((Below.refl _ _).alloc (Nat.le_refl _) _).alloc (by simp) _⟩
theorem wideP (w:World) (hm:CMet w) {Q:Luc.Pt} {A1 A2:Option Addr} {c1 c2:Nat} {l1 l2:List Nat} {inf:Bool} (h:PtV Q w A1 c1 l1 A2 c2 l2 inf) :
  Calls Tryd.prog 43 #[.agg #[.slice A1 l1.length c1,.slice A2 l2.length c2,.bool inf]] w (WdR Q w):=by
 rcases Q with _ | ⟨u,v⟩
 ·obtain rfl:inf=true:=h.inf
  refine (wideInf w A1 A2 _ c1 _ c2).mono ?_
  rintro e w' ⟨rfl,hb⟩
  exact ⟨⟨0,0,0⟩,0,0,0,0,0,0,0,0,0,0,0,0,rfl,⟨dig0,dig0,dig0⟩,Luc.Rep.no rfl,hb⟩
 ·obtain rfl:inf=false:=h.inf
  have hx:NR w A1 c1 l1 u:=h.x
  have hy:NR w A2 c2 l2 v:=h.y
  obtain ⟨x0,x1,x2,x3,dx⟩:=dig_any u
  obtain ⟨y0,y1,y2,y3,dy⟩:=dig_any v
  obtain ⟨z0,z1,z2,z3,dz⟩:=dig_any 1
  refine (wideOf_any w hm A1 A2 c1 c2 l1 l2 hx.rd hy.rd hx.dg hy.dg hx.le hy.le (x0:=x0) (x1:=x1) (x2:=x2) (x3:=x3) (y0:=y0) (y1:=y1) (y2:=y2) (y3:=y3) (u0:=z0) (u1:=z1) (u2:=z2) (u3:=z3) (by rw [hx.val];exact dx) (by rw [hy.val];exact dy) dz).mono ?_
  rintro e w' ⟨rfl,hb⟩
  exact ⟨⟨u,v,1⟩,_,_,_,_,_,_,_,_,_,_,_,_,rfl,⟨dx,dy,dz⟩,Luc.Rep.yes Luc.one_ne (by show u=_;grind) (by show v=_;grind),hb⟩
theorem doubleP (w:World) (hm:CMet w) (j:Luc.Jc) {x0 x1 x2 x3 y0 y1 y2 y3 z0 z1 z2 z3:Nat} (hd:(nm (en j.x)=[x0,x1,x2,x3]∧nm (en j.y)=[y0,y1,y2,y3]∧nm (en j.z)=[z0,z1,z2,z3])) (ho:Luc.OnC (Luc.Rep j)) :
  Calls Tryd.prog 63 #[.agg #[.int .u64 (x0:Int),.int .u64 (x1:Int),.int .u64 (x2:Int),.int .u64 (x3:Int),.int .u64 (y0:Int),.int .u64 (y1:Int),.int .u64 (y2:Int),.int .u64 (y3:Int),.int .u64 (z0:Int),.int .u64 (z1:Int),.int .u64 (z2:Int),.int .u64 (z3:Int)]] w (WdR (Luc.add (Luc.Rep j) (Luc.Rep j)) w):=by
 obtain ⟨X0,X1,X2,X3,dx⟩:=dig_any (Luc.dbl j).x
 obtain ⟨Y0,Y1,Y2,Y3,dy⟩:=dig_any (Luc.dbl j).y
 obtain ⟨Z0,Z1,Z2,Z3,dz⟩:=dig_any (Luc.dbl j).z
 refine (doubleE w hm j hd.1 hd.2.1 hd.2.2 dx dy dz).mono ?_
 rintro e w' ⟨rfl,hb⟩
 exact ⟨Luc.dbl j,_,_,_,_,_,_,_,_,_,_,_,_,rfl,⟨dx,dy,dz⟩,Luc.dbl_rep ho,hb⟩
theorem plusP (w:World) (hm:CMet w) (j:Luc.Jc) {x0 x1 x2 x3 y0 y1 y2 y3 z0 z1 z2 z3:Nat} (hd:(nm (en j.x)=[x0,x1,x2,x3]∧nm (en j.y)=[y0,y1,y2,y3]∧nm (en j.z)=[z0,z1,z2,z3])) (ho:Luc.OnC (Luc.Rep j)) {Q:Luc.Pt} {A1 A2:Option Addr} {c1 c2:Nat} {l1 l2:List Nat} {inf:Bool} (h:PtV Q w A1 c1 l1 A2 c2 l2 inf) (hq:Luc.OnC Q) :
  Calls Tryd.prog 42 #[.agg #[.int .u64 (x0:Int),.int .u64 (x1:Int),.int .u64 (x2:Int),.int .u64 (x3:Int),.int .u64 (y0:Int),.int .u64 (y1:Int),.int .u64 (y2:Int),.int .u64 (y3:Int),.int .u64 (z0:Int),.int .u64 (z1:Int),.int .u64 (z2:Int),.int .u64 (z3:Int)],.agg #[.slice A1 l1.length c1,.slice A2 l2.length c2,.bool inf]] w (WdR (Luc.add (Luc.Rep j) Q) w):=by
 rcases Q with _ | ⟨u,v⟩
 ·obtain rfl:inf=true:=h.inf
  refine (plusInf w A1 A2 _ c1 _ c2).mono ?_
  rintro e w' ⟨rfl,hb⟩
  exact ⟨j,_,_,_,_,_,_,_,_,_,_,_,_,rfl,hd,(Luc.add_none _).symm,hb⟩
 ·obtain rfl:inf=false:=h.inf
  have hx:NR w A1 c1 l1 u:=h.x
  have hy:NR w A2 c2 l2 v:=h.y
  obtain ⟨X0,X1,X2,X3,dx⟩:=dig_any (Luc.pls j u v).x
  obtain ⟨Y0,Y1,Y2,Y3,dy⟩:=dig_any (Luc.pls j u v).y
  obtain ⟨Z0,Z1,Z2,Z3,dz⟩:=dig_any (Luc.pls j u v).z
  refine (plusE w hm j u v A1 A2 c1 c2 l1 l2 hx.rd hy.rd hx.dg hy.dg hx.le hy.le hx.val hy.val hd.1 hd.2.1 hd.2.2 dx dy dz).mono ?_
  rintro e w' ⟨rfl,hb⟩
  exact ⟨Luc.pls j u v,_,_,_,_,_,_,_,_,_,_,_,_,rfl,⟨dx,dy,dz⟩,Luc.pls_rep ho hq,hb⟩
theorem mm_backF (f:Luc.F):mm (en f) 1=f.val:=by
 have h:en f*1*cI % cP=f.val % cP:=by
  unfold en enc
  rw [Nat.mul_one]
  refine (mod_mul_left (Nat.mod_mod _ _)).trans ?_
  rw [Nat.mul_assoc]
  refine (mod_mul_right' (b:=1) ?_).trans (by rw [Nat.mul_one])
  rw [cRI]
  decide
 unfold mm
 rw [h]
 exact Nat.mod_eq_of_lt f.isLt
theorem flatP (w:World) (hm:CMet w) (j:Luc.Jc) {x0 x1 x2 x3 y0 y1 y2 y3 z0 z1 z2 z3:Nat} (hd:(nm (en j.x)=[x0,x1,x2,x3]∧nm (en j.y)=[y0,y1,y2,y3]∧nm (en j.z)=[z0,z1,z2,z3])) :
  Calls Tryd.prog 41 #[.agg #[.int .u64 (x0:Int),.int .u64 (x1:Int),.int .u64 (x2:Int),.int .u64 (x3:Int),.int .u64 (y0:Int),.int .u64 (y1:Int),.int .u64 (y2:Int),.int .u64 (y3:Int),.int .u64 (z0:Int),.int .u64 (z1:Int),.int .u64 (z2:Int),.int .u64 (z3:Int)]] w (PtR (Luc.Rep j) w):=by
 by_cases hz:j.z=0
 ·have hE:∀ W,(Op.equalIn 10000 67 (.agg #[.int .u64 (z0:Int),.int .u64 (z1:Int),.int .u64 (z2:Int),.int .u64 (z3:Int)]) (.agg #[.int .u64 0,.int .u64 0,.int .u64 0,.int .u64 0])).run Tryd.prog W = .ok true W:=fun W=>(eqE W j.z 0 hd.2.2 dig0).trans (by rw [decide_eq_true hz])
  have e:(w.alloc (.cells #[.int .u64 (x0:Int),.int .u64 (x1:Int),.int .u64 (x2:Int),.int .u64 (x3:Int),.int .u64 (y0:Int),.int .u64 (y1:Int),.int .u64 (y2:Int),.int .u64 (y3:Int),.int .u64 (z0:Int),.int .u64 (z1:Int),.int .u64 (z2:Int),.int .u64 (z3:Int)] 69)).heap.size=w.heap.size+1:=by simp
  have hR:=Holds.fresh (w.alloc (.cells #[.int .u64 (x0:Int),.int .u64 (x1:Int),.int .u64 (x2:Int),.int .u64 (x3:Int),.int .u64 (y0:Int),.int .u64 (y1:Int),.int .u64 (y2:Int),.int .u64 (y3:Int),.int .u64 (z0:Int),.int .u64 (z1:Int),.int .u64 (z2:Int),.int .u64 (z3:Int)] 69)) 26 #[.slice none 0 0,.slice none 0 0,.bool true]
  rw [e] at hR
  rw [Luc.Rep.no hz]
  clear hz hd hm e
  go_enter Tryd.func41,Tryd.ntmps41
  go_wp2_with fail
  exact ret_pt (g:=w.heap.size+1) rfl rfl hR rfl ⟨none,0,[],none,0,[],true,rfl,PtV.none _,((Below.refl _ _).alloc (Nat.le_refl _) _).alloc (by simp) _⟩
 ·have hi:=Luc.mul_finv hz
  have e1:enc (Luc.finv j.z).val=en (Luc.finv j.z):=rfl
  refine (flat_any w hm (en j.x) (en j.y) (en j.z) (Luc.finv j.z).val (en_lt _) (en_lt _) (en_lt _) (by rw [mm_backF];have:=congrArg Fin.val hi;rw [Fin.val_mul] at this;exact this) hd.1 hd.2.1 hd.2.2).mono ?_
  rintro e w' ⟨A1,c1,r1,A2,c2,r2,rfl,h1,h2,h3,h4,hb⟩
  rw [e1,en_mul,en_mul,mm_backF] at h1
  rw [e1,en_mul,en_mul,en_mul,mm_backF] at h2
  have hr:Luc.Rep j=some (j.x*(Luc.finv j.z*Luc.finv j.z),j.y*(Luc.finv j.z*Luc.finv j.z*Luc.finv j.z)):=by unfold Luc.Rep;rw [if_neg hz]
  rw [hr]
  exact ⟨A1,c1,r1,A2,c2,r2,false,rfl,⟨rfl,⟨h3,h1⟩,⟨h4,h2⟩⟩,hb⟩
theorem lB_val:val lB=Luc.cBf.val:=by decide +kernel
theorem rhs_on (u v:Luc.F):v.val*v.val % cP=rhsR u.val↔Luc.On u v:=by
 have h1:(v*v).val=v.val*v.val % cP:=Fin.val_mul _ _
 have h2:(u*(u*u) - (u+(u+u))+Luc.cBf).val=rhsR u.val:=by
  unfold rhsR
  rw [lB_val,Fin.val_add]
  show (_+_) % cP=_
  rw [←sub_val (f:=u*(u*u)) (g:=u+(u+u)) (a:=u.val*(u.val*u.val % cP) % cP) (b:=(u.val+(u.val+u.val) % cP) % cP) (by rw [Fin.val_mul,Fin.val_mul];rfl) (by rw [Fin.val_add,Fin.val_add];rfl)]
 rw [←h1,←h2,←Fin.ext_iff]
 unfold Luc.On
 have e:u*(u*u) - (u+(u+u))+Luc.cBf=u*u*u - 3*u+Luc.cBf:=by grind
 rw [e]
theorem okN_yes {l:List Nat} (hl:l.length≤8) (hn:nrm l):okN l=true:=by
 unfold okN
 rcases hn with h | h
 ·rw [h];rfl
 ·rw [decide_eq_true (show l.length≤256 by omega),beq_eq_false_iff_ne.2 h];cases decide (l.length=0) <;> rfl
theorem ptOk_yes {w:World} {Q:Luc.Pt} {A1 A2:Option Addr} {c1 c2:Nat} {l1 l2:List Nat} {inf:Bool} (h:PtV Q w A1 c1 l1 A2 c2 l2 inf) (ho:Luc.OnC Q):ptOk l1 l2 inf=true:=by
 rcases Q with _ | ⟨u,v⟩
 ·obtain rfl:inf=true:=h.inf
  unfold ptOk
  rw [if_pos rfl,decide_eq_true (h.x.zero_iff.2 rfl),decide_eq_true (h.y.zero_iff.2 rfl)]
  rfl
 ·obtain rfl:inf=false:=h.inf
  have hx:NR w A1 c1 l1 u:=h.x
  have hy:NR w A2 c2 l2 v:=h.y
  unfold ptOk blw
  rw [if_neg (by simp),okN_yes hx.le hx.nrm,okN_yes hy.le hy.nrm,hx.val,hy.val,decide_eq_true (show u.val<cP from u.isLt),decide_eq_true (show v.val<cP from v.isLt),decide_eq_true ((rhs_on u v).2 ho)]
  rfl
theorem isP (w:World) (hm:CMet w) {Q:Luc.Pt} {A1 A2:Option Addr} {c1 c2:Nat} {l1 l2:List Nat} {inf:Bool} (h:PtV Q w A1 c1 l1 A2 c2 l2 inf) (ho:Luc.OnC Q) :
  Calls Tryd.prog 19 #[.agg #[.slice A1 l1.length c1,.slice A2 l2.length c2,.bool inf]] w fun e w'=>e = .returned (.bool true)∧Below w.heap.size w w':=by
 have:=curveIs_any w hm A1 A2 c1 c2 l1 l2 inf h.x.rd h.y.rd h.x.dg h.y.dg
 rwa [ptOk_yes h ho] at this
theorem PtV.under' {Q:Luc.Pt} {W W':World} {A1:Option Addr} {c1:Nat} {l1:List Nat} {A2:Option Addr} {c2:Nat} {l2:List Nat} {inf:Bool} (h:PtV Q W A1 c1 l1 A2 c2 l2 inf) (hb:Below W.heap.size W W'):PtV Q W' A1 c1 l1 A2 c2 l2 inf:=h.under hb
theorem addP (w:World) (hm:CMet w) {P Q:Luc.Pt} {A1 A2 B1 B2:Option Addr} {c1 c2 d1 d2:Nat} {l1 l2 m1 m2:List Nat} {inf jnf:Bool} (hp:PtV P w A1 c1 l1 A2 c2 l2 inf) (hq:PtV Q w B1 d1 m1 B2 d2 m2 jnf) (ho:Luc.OnC P) (ho2:Luc.OnC Q) :
  Calls Tryd.prog 14 #[.agg #[.slice A1 l1.length c1,.slice A2 l2.length c2,.bool inf],.agg #[.slice B1 m1.length d1,.slice B2 m2.length d2,.bool jnf]] w (PtR (Luc.add P Q) w):=by
 obtain ⟨w1,ao⟩:∃ W,W=w.alloc (.cells #[.slice A1 l1.length c1,.slice A2 l2.length c2,.bool inf] 26):=⟨_,rfl⟩
 have aO:w1.heap.size=w.heap.size+1:=by rw [ao];simp
 have aJ:Below w.heap.size w w1:=by rw [ao];exact (Below.refl _ _).alloc (Nat.le_refl _) _
 obtain ⟨w2,ac⟩:∃ W,W=w1.alloc (.cells #[.slice B1 m1.length d1,.slice B2 m2.length d2,.bool jnf] 26):=⟨_,rfl⟩
 have a8:w2.heap.size=w.heap.size+1+1:=by rw [ac];simp [aO]
 have aU:Below w.heap.size w w2:=by rw [ac];exact aJ.alloc aJ.size _
 obtain ⟨W0,ae⟩:∃ W,W=w2.alloc (.cells #[.slice none 0 0,.slice none 0 0,.bool false] 26):=⟨_,rfl⟩
 have aw:Below w.heap.size w W0:=by rw [ae];exact aU.alloc aU.size _
 have aL:Hid (Holds W0 w.heap.size 26 #[.slice A1 l1.length c1,.slice A2 l2.length c2,.bool inf]):=lH (by rw [ae,ac,ao];exact ((Holds.fresh w _ _).alloc _).alloc _)
 have aW:Hid (Holds W0 (w.heap.size+1) 26 #[.slice B1 m1.length d1,.slice B2 m2.length d2,.bool jnf]):=lH (by rw [ae,ac,←aO];exact (Holds.fresh w1 _ _).alloc _)
 have aN:Hid (Holds W0 (w.heap.size+1+1) 26 #[.slice none 0 0,.slice none 0 0,.bool false]):=lH (by rw [ae,←a8];exact Holds.fresh w2 _ _)
 have aK:=lH aw
 have HM:=lH hm
 have HP:=lH hp
 have HQ:=lH hq
 have HO:=lH ho
 have aY:=lH ho2
 have HI:=lH (isP W0 (hm.under aw) (hp.under aw) ho)
 have HW:=lH (ao ▸ ac ▸ ae:W0=((w.alloc (.cells #[.slice A1 l1.length c1,.slice A2 l2.length c2,.bool inf] 26)).alloc (.cells #[.slice B1 m1.length d1,.slice B2 m2.length d2,.bool jnf] 26)).alloc (.cells #[.slice none 0 0,.slice none 0 0,.bool false] 26))
 clear ao aO aJ ac a8 aU ae aw hm hp hq ho ho2
 go_enter Tryd.func14,Tryd.ntmps14
 go_wp2_with fail
 rw [←HW.out]
 clear HW
 refine HI.out.mono ?_
 rintro e W1 ⟨rfl,hb⟩
 have aM:=lH (aL.out.under hb (Holds.lt aL))
 have ai:=lH (aW.out.under hb (Holds.lt aW))
 have aQ:=lH (aN.out.under hb (Holds.lt aN))
 have au:=lH (aK.out.trans (hb.mono aK.out.size))
 clear aL aW aN aK
 clear hb HI
 have HI:=lH (isP W1 (HM.out.under au) (HQ.out.under au) aY)
 have q0:=ai.out.cell 0
 have q1:=ai.out.cell 1
 have q2:=ai.out.cell 2
 go_wp2_with fail
 refine HI.out.mono ?_
 rintro e W2 ⟨rfl,hb⟩
 have az:=lH (aM.out.under hb (Holds.lt aM))
 have aD:=lH (ai.out.under hb (Holds.lt ai))
 have aG:=lH (aQ.out.under hb (Holds.lt aQ))
 have aT:=lH (au.out.trans (hb.mono au.out.size))
 clear aM ai aQ au
 clear hb HI q0 q1 q2
 go_wp2_with fail
 refine wp_region_noPanic ?_
 refine wp_region_held_drew (S:=fun W=>Holds W w.heap.size 26 #[.slice A1 l1.length c1,.slice A2 l2.length c2,.bool inf]∧Holds W (w.heap.size+1) 26 #[.slice B1 m1.length d1,.slice B2 m2.length d2,.bool jnf]∧True) (by kernel_rfl) (⟨az.out,aD.out,trivial⟩) (fun hHeld=>?_)
 obtain ⟨W3,hV⟩:∃ W,W=W2.drew:=⟨_,rfl⟩
 rw [←hV]
 have hb:Below W2.heap.size W2 W3:=by rw [hV];exact (Below.refl _ W2).drew
 have aA:=lH (az.out.under hb (Holds.lt az))
 have aC:=lH (aD.out.under hb (Holds.lt aD))
 have aH:=lH (aG.out.under hb (Holds.lt aG))
 have ak:=lH (aT.out.trans (hb.mono aT.out.size))
 clear az aD aG aT
 have bt:Hid ((fun W=>Holds W w.heap.size 26 #[.slice A1 l1.length c1,.slice A2 l2.length c2,.bool inf]∧Holds W (w.heap.size+1) 26 #[.slice B1 m1.length d1,.slice B2 m2.length d2,.bool jnf]∧True) W3):=lH ⟨aA,aC,trivial⟩
 replace hHeld:(fun W=>Holds W w.heap.size 26 #[.slice A1 l1.length c1,.slice A2 l2.length c2,.bool inf]∧Holds W (w.heap.size+1) 26 #[.slice B1 m1.length d1,.slice B2 m2.length d2,.bool jnf]∧True) W3:=bt.out
 clear hb hV
 refine tk 0 ⟨some 14,.load 26 (.tmp 2),26,_,_,none⟩ ?_ rfl ?_ hHeld ?_
 rotate_left 1
 ·(intro W hW;have h0:=hW.1.cell 0;have h1:=hW.1.cell 1;have h2:=hW.1.cell 2;(try dsimp only at hW);go_simp;try with_reducible rfl)
 try simp only [aP]
 refine tk 2 ⟨some 16,.load 26 (.tmp 3),26,_,_,none⟩ ?_ rfl ?_ hHeld ?_
 rotate_left 1
 ·(intro W hW;have h0:=hW.2.1.cell 0;have h1:=hW.2.1.cell 1;have h2:=hW.2.1.cell 2;(try dsimp only at hW);go_simp;try with_reducible rfl)
 try simp only [aP]
 refine rdy 1 ⟨some 15,.call ⟨ .value (.func 43),#[.tmp 14],#[26]⟩,69,_,_,none⟩ rfl (fun K hK=>?_)
 go_simp
 refine (wideP W3 (HM.out.under ak) (HP.out.under' ak)).mono ?_
 rintro e W4 ⟨j,x0,x1,x2,x3,y0,y1,y2,y3,z0,z1,z2,z3,rfl,hd,hj,hb⟩
 have ax:=lH (aA.out.under hb (Holds.lt aA))
 have ay:=lH (aC.out.under hb (Holds.lt aC))
 have aV:=lH (aH.out.under hb (Holds.lt aH))
 have am:=lH (ak.out.trans (hb.mono ak.out.size))
 clear aA aC aH ak
 have bf:Hid ((fun W=>Holds W w.heap.size 26 #[.slice A1 l1.length c1,.slice A2 l2.length c2,.bool inf]∧Holds W (w.heap.size+1) 26 #[.slice B1 m1.length d1,.slice B2 m2.length d2,.bool jnf]∧True) W4):=lH ⟨ax,ay,trivial⟩
 have HD:=lH hd
 have HJ:=lH hj
 clear hb hd hj
 go_simp
 refine hK.out _ _ (bf.out) (fun hHeld=>?_)
 clear hK K
 try simp only [aP]
 refine rdy 3 ⟨some 17,.call ⟨ .value (.func 42),#[.tmp 15,.tmp 16],#[69,26]⟩,69,_,_,none⟩ rfl (fun K hK=>?_)
 go_simp
 refine (plusP W4 (HM.out.under am) j HD (by rw [HJ.out];exact HO.out) (HQ.out.under' am) aY).mono ?_
 rintro e W5 ⟨j2,X0,X1,X2,X3,Y0,Y1,Y2,Y3,Z0,Z1,Z2,Z3,rfl,hd,hj,hb⟩
 have aE:=lH (ax.out.under hb (Holds.lt ax))
 have aB:=lH (ay.out.under hb (Holds.lt ay))
 have aR:=lH (aV.out.under hb (Holds.lt aV))
 have av:=lH (am.out.trans (hb.mono am.out.size))
 clear ax ay aV am
 have a_:Hid ((fun W=>Holds W w.heap.size 26 #[.slice A1 l1.length c1,.slice A2 l2.length c2,.bool inf]∧Holds W (w.heap.size+1) 26 #[.slice B1 m1.length d1,.slice B2 m2.length d2,.bool jnf]∧True) W5):=lH ⟨aE,aB,trivial⟩
 rw [HJ.out] at hj
 have bs:=lH hd
 have bm:=lH hj
 clear hb hd hj
 go_simp
 refine hK.out _ _ (a_.out) (fun hHeld=>?_)
 clear hK K
 try simp only [aP]
 refine rdy 4 ⟨some 18,.call ⟨ .value (.func 41),#[.tmp 17],#[69]⟩,26,_,_,none⟩ rfl (fun K hK=>?_)
 go_simp
 refine (flatP W5 (HM.out.under av) j2 bs).mono ?_
 rintro e W6 ⟨A,ca,la,B,cb,lb,aF,rfl,hq,hb⟩
 have aX:=lH (aE.out.under hb (Holds.lt aE))
 have a6:=lH (aB.out.under hb (Holds.lt aB))
 have ab:=lH (aR.out.under hb (Holds.lt aR))
 have bc:=lH (av.out.trans (hb.mono av.out.size))
 clear aE aB aR av
 have bd:Hid ((fun W=>Holds W w.heap.size 26 #[.slice A1 l1.length c1,.slice A2 l2.length c2,.bool inf]∧Holds W (w.heap.size+1) 26 #[.slice B1 m1.length d1,.slice B2 m2.length d2,.bool jnf]∧True) W6):=lH ⟨aX,a6,trivial⟩
 rw [bm.out] at hq
 have HR:=lH hq
 clear hb hq
 go_simp
 refine hK.out _ _ (bd.out) (fun hHeld=>?_)
 clear hK K
 try simp only [aP]
 refine rdy 5 ⟨none,.store 26 (.tmp 4) (.tmp 18),0,_,_,none⟩ rfl (fun K hK=>?_)
 have r0:=ab.out.cell 0
 have r1:=ab.out.cell 1
 have r2:=ab.out.cell 2
 have a9:=ab.out.open_ 0
 have br:=ab.out.open_ 1
 have bl:=ab.out.open_ 2
 obtain ⟨VL,hN⟩:∃ W,W=(((W6.setCell ⟨(w.heap.size+1+1),0,none⟩ (.slice A la.length ca)).setCell ⟨(w.heap.size+1+1),1,none⟩ (.slice B lb.length cb)).setCell ⟨(w.heap.size+1+1),2,none⟩ (.bool aF)):=⟨_,rfl⟩
 go_simp
 rw [←hN]
 have ba:Hid (Holds VL (w.heap.size+1+1) 26 #[.slice A la.length ca,.slice B lb.length cb,.bool aF]):=lH (by rw [hN];exact set3 ab _ _ _)
 have bn:Hid (Below w.heap.size w VL):=lH (by rw [hN];exact below3 bc (by omega) _ _ _)
 have bk:Hid ((fun W=>Holds W w.heap.size 26 #[.slice A1 l1.length c1,.slice A2 l2.length c2,.bool inf]∧Holds W (w.heap.size+1) 26 #[.slice B1 m1.length d1,.slice B2 m2.length d2,.bool jnf]∧True) VL):=lH ⟨by rw [hN];exact holds_aside3 aX (k:=(w.heap.size+1+1)) (by omega) _ _ _,by rw [hN];exact holds_aside3 a6 (k:=(w.heap.size+1+1)) (by omega) _ _ _,trivial⟩
 have HV:Hid (PtV (Luc.add P Q) VL A ca la B cb lb aF):=lH ⟨HR.out.inf,by rw [hN];exact HR.out.x.store3 ab no_numsP _ _ _,by rw [hN];exact HR.out.y.store3 ab no_numsP _ _ _⟩
 clear hN r0 r1 r2 a9 br bl
 refine hK.out _ _ (bk.out) (fun hHeld=>?_)
 clear hK K
 try simp only [aP]
 refine dn ?_
 go_wp2_with fail
 exact ret_pt (g:=w.heap.size+1+1) rfl rfl ba rfl ⟨A,ca,la,B,cb,lb,aF,rfl,HV,bn⟩
theorem lN_val:val lN=Luc.cNn:=by decide +kernel
theorem num_len8N {r:List Nat} {v:Nat} (h:NumIs r (v % val lN)):r.length≤8:=by
 refine num_len8 h (Nat.lt_of_lt_of_le (Nat.mod_lt _ (by rw [lN_val];decide)) ?_)
 rw [lN_val]
 decide
theorem timesP (w:World) (hm:CMet w) {P:Luc.Pt} {A A1 A2:Option Addr} {c c1 c2:Nat} {l l1 l2:List Nat} {inf:Bool} (hr:Rd .u32 w w.heap.size A c l) (hd:Dg l) (hs:l.length≤4000) (hp:PtV P w A1 c1 l1 A2 c2 l2 inf) (ho:Luc.OnC P) :
  Calls Tryd.prog 22 #[.slice A l.length c,.agg #[.slice A1 l1.length c1,.slice A2 l2.length c2,.bool inf]] w (PtR (Luc.nmul P (val l % val lN)) w):=by
 obtain ⟨w1,aJ⟩:∃ W,W=w.alloc (.cells #[.slice A1 l1.length c1,.slice A2 l2.length c2,.bool inf] 26):=⟨_,rfl⟩
 have bn:w1.heap.size=w.heap.size+1:=by rw [aJ];simp
 have bl:Below w.heap.size w w1:=by rw [aJ];exact (Below.refl _ _).alloc (Nat.le_refl _) _
 obtain ⟨w2,ay⟩:∃ W,W=w1.alloc (.cells #[.slice none 0 0,.slice none 0 0,.bool false] 26):=⟨_,rfl⟩
 have hz2:w2.heap.size=w.heap.size+1+1:=by rw [ay];simp [bn]
 have aX:Below w.heap.size w w2:=by rw [ay];exact bl.alloc bl.size _
 have br:Hid (Holds w2 w.heap.size 26 #[.slice A1 l1.length c1,.slice A2 l2.length c2,.bool inf]):=lH (by rw [ay,aJ];exact (Holds.fresh w _ _).alloc _)
 have a6:Hid (Holds w2 (w.heap.size+1) 26 #[.slice none 0 0,.slice none 0 0,.bool false]):=lH (by rw [ay,←bn];exact Holds.fresh w1 _ _)
 have bw:=lH aX
 have HM:=lH hm
 have HP:=lH hp
 have HO:=lH ho
 have HR:=lH hr
 have HI:=lH (isP w2 (hm.under aX) (hp.under aX) ho)
 have HW:=lH (aJ ▸ ay:w2=(w.alloc (.cells #[.slice A1 l1.length c1,.slice A2 l2.length c2,.bool inf] 26)).alloc (.cells #[.slice none 0 0,.slice none 0 0,.bool false] 26))
 have cC:=lH hd
 clear aJ bn bl ay aX hm hp ho hr
 go_enter Tryd.func22,Tryd.ntmps22
 go_wp2_with fail
 rw [←HW.out]
 clear HW
 refine HI.out.mono ?_
 rintro e w3 ⟨rfl,aU⟩
 have bt:=lH (br.out.under aU (Holds.lt br))
 have ba:=lH (a6.out.under aU (Holds.lt a6))
 have a9:=lH (bw.out.trans (aU.mono bw.out.size))
 clear aU br a6 bw HI
 go_wp2_with fail
 refine (curveN_any w3).mono ?_
 rintro e w4 ⟨g,hg,rfl,hP,aV⟩
 have bk:=lH (bt.out.under aV (Holds.lt bt))
 have bv:=lH (ba.out.under aV (Holds.lt ba))
 have aC:=lH (a9.out.trans (aV.mono a9.out.size))
 have HD:=lH (div_any w4 w4.heap.size w4.heap.size A (some ⟨g,0,none⟩) c 8 l lN ((HR.out.under aC).more aC.out.size) (Eight.rd hP rfl) (Nat.le_refl _) (Nat.le_refl _) cC lN_ok.1 hs (by decide) (by decide +kernel))
 clear hg hP aV bt ba a9
 go_wp2_with fail
 refine HD.out.mono ?_
 rintro e w5 ⟨A7,c7,qq,A3,c3,r,rfl,cG,bG,cD,bZ,ae⟩
 have aR:=lH (bk.out.under ae (Holds.lt bk))
 have az:=lH (bv.out.under ae (Holds.lt bv))
 have ax:=lH (aC.out.trans (ae.mono aC.out.size))
 have aK:=lH bZ.1
 have aW:=lH bG
 clear cG bG cD bZ ae bk bv aC HD
 go_wp2_with fail
 obtain ⟨w6,au⟩:∃ W,W=w5.alloc (.cells #[.int .u64 0,.int .u64 0,.int .u64 0,.int .u64 0,.int .u64 0,.int .u64 0,.int .u64 0,.int .u64 0,.int .u64 0,.int .u64 0,.int .u64 0,.int .u64 0] 69):=⟨_,rfl⟩
 rw [←au]
 obtain ⟨s,aL⟩:∃ s,s=w5.heap.size:=⟨_,rfl⟩
 rw [←aL]
 have cF:Hid (w.heap.size+1<s):=lH (by rw [aL];exact Holds.lt az)
 have bY:Hid (Holds w6 s 69 #[.int .u64 0,.int .u64 0,.int .u64 0,.int .u64 0,.int .u64 0,.int .u64 0,.int .u64 0,.int .u64 0,.int .u64 0,.int .u64 0,.int .u64 0,.int .u64 0]):=lH (by rw [au,aL];exact Holds.fresh _ _ _)
 have bA:Hid (Holds w6 w.heap.size 26 #[.slice A1 l1.length c1,.slice A2 l2.length c2,.bool inf]):=lH (by rw [au];exact aR.out.alloc _)
 have bQ:Hid (Holds w6 (w.heap.size+1) 26 #[.slice none 0 0,.slice none 0 0,.bool false]):=lH (by rw [au];exact az.out.alloc _)
 have bI:Hid (Below w.heap.size w w6):=lH (by rw [au];exact ax.out.alloc ax.out.size _)
 have aw:Hid (Rd .u32 w6 w5.heap.size A3 c3 r):=lH (by rw [au];exact aK.out.alloc (Nat.le_refl _) _)
 rw [←aL] at aw
 have aF:=aW.out.1
 have cB:=aW.out.2.1
 have hrl:r.length≤8:=num_len8N aW.out
 clear au aL aR az ax aK
 refine (bits_any w6 s A3 c3 _ r aw rfl aF (by omega) _ rfl).mono ?_
 rintro e w7 ⟨rfl,rfl⟩
 have av:=lH (val_top aF)
 have aQ:=nb_trl_le aF
 obtain ⟨E,HE⟩:∃ E,Hid (E=val r):=⟨_,rfl⟩
 obtain ⟨N,HN⟩:∃ N,Hid (N=nb (trl r)):=⟨_,rfl⟩
 rw [←HN.out] at av aQ ⊢
 rw [←HE.out] at av
 have cH:Hid (E=val l % val lN):=lH (by rw [HE.out];exact aW.out.2.2)
 have bO:=lH aF
 clear aF cB
 go_wp2_with fail
 go_loopw [6] (fun si wr=>∃ (i:Nat) (j:Luc.Jc) (x0 x1 x2 x3 y0 y1 y2 y3 z0 z1 z2 z3:Nat),i≤N∧si = .int .i64 ((i:Int) - 1)∧Hid (nm (en j.x)=[x0,x1,x2,x3]∧nm (en j.y)=[y0,y1,y2,y3]∧nm (en j.z)=[z0,z1,z2,z3])∧Hid (Luc.Rep j=Luc.nmul P (E / 2 ^ i))∧Hid (Holds wr s 69 #[.int .u64 (x0:Int),.int .u64 (x1:Int),.int .u64 (x2:Int),.int .u64 (x3:Int),.int .u64 (y0:Int),.int .u64 (y1:Int),.int .u64 (y2:Int),.int .u64 (y3:Int),.int .u64 (z0:Int),.int .u64 (z1:Int),.int .u64 (z2:Int),.int .u64 (z3:Int)])∧Hid (Holds wr w.heap.size 26 #[.slice A1 l1.length c1,.slice A2 l2.length c2,.bool inf])∧Hid (Holds wr (w.heap.size+1) 26 #[.slice none 0 0,.slice none 0 0,.bool false])∧Hid (Below w.heap.size w wr)∧Hid (Rd .u32 wr s A3 c3 r)) (fun si _=>(intOf si+1).toNat)
 case atStart=>exact ⟨N,⟨0,0,0⟩,0,0,0,0,0,0,0,0,0,0,0,0,Nat.le_refl _,rfl,lH ⟨dig0,dig0,dig0⟩,lH (by rw [av.out];exact Luc.Rep.no rfl),bY,bA,bQ,bI,aw⟩
 case round =>
  obtain ⟨i,j,x0,x1,x2,x3,y0,y1,y2,y3,z0,z1,z2,z3,hi,rfl,bs,HJ,ac,bf,aT,ao,bC⟩:=hrel
  clear bY bA bQ bI aw
  have k0:=ac.out.cell 0
  have k1:=ac.out.cell 1
  have k2:=ac.out.cell 2
  have k3:=ac.out.cell 3
  have k4:=ac.out.cell 4
  have k5:=ac.out.cell 5
  have k6:=ac.out.cell 6
  have k7:=ac.out.cell 7
  have k8:=ac.out.cell 8
  have k9:=ac.out.cell 9
  have aO:=ac.out.cell 10
  have aD:=ac.out.cell 11
  rcases i with _ | i
  ·have aM:Hid (Luc.Rep j=Luc.nmul P (val l % val lN)):=lH (by rw [HJ.out,Nat.pow_zero,Nat.div_one,cH.out])
   have HF:=lH (flatP wr (HM.out.under ao) j bs)
   rw [aM.out] at HF
   go_wp2_with fail
   refine HF.out.mono ?_
   rintro e w8 ⟨Aa,ca,la,Ab,cb,lb,bU,rfl,hq,a_⟩
   have ak:=lH (aT.out.under a_ (Holds.lt aT))
   have cJ:=lH (ao.out.trans (a_.mono ao.out.size))
   have HQ:=lH hq
   clear a_ hq HF k0 k1 k2 k3 k4 k5 k6 k7 k8 k9 aO aD
   have r0:=ak.out.cell 0
   have r1:=ak.out.cell 1
   have r2:=ak.out.cell 2
   have or0:=ak.out.open_ 0
   have or1:=ak.out.open_ 1
   have or2:=ak.out.open_ 2
   go_wp2_with fail
   exact ret_pt (g:=w.heap.size+1) rfl rfl (set3 ak (.slice Aa la.length ca) (.slice Ab lb.length cb) (.bool bU)) rfl ⟨Aa,ca,la,Ab,cb,lb,bU,rfl,⟨HQ.out.inf,HQ.out.x.store3 ak no_numsP _ _ _,HQ.out.y.store3 ak no_numsP _ _ _⟩,below3 cJ (by omega) _ _ _⟩
  ·rw [show (((i+1:Nat):Int) - 1)=(i:Int) from by omega]
   obtain ⟨bm,am⟩:∃ b,Hid (E / 2 ^ i % 2=b):=⟨_,rfl⟩
   have bR:=lH (pow_step 0 E i 0 bm am)
   have bE:Luc.OnC (Luc.Rep j):=by rw [HJ.out];exact Luc.nmul_on HO _
   have bM:=lH (doubleP wr (HM.out.under ao) j bs bE)
   have bX:Hid (Luc.add (Luc.Rep j) (Luc.Rep j)=Luc.nmul P (2*(E / 2 ^ (i+1)))):=lH (by rw [HJ.out,Luc.nmul_two HO.out])
   clear bE
   go_wp2_with fail
   refine bM.out.mono ?_
   rintro e w5 ⟨j2,X0,X1,X2,X3,Y0,Y1,Y2,Y3,Z0,Z1,Z2,Z3,rfl,b_,bc,ae⟩
   rw [bX.out] at bc
   have aH:=lH b_
   have aM:=lH bc
   have ab:=lH (ac.out.under ae (Holds.lt ac))
   have aR:=lH (bf.out.under ae (Holds.lt bf))
   have az:=lH (aT.out.under ae (Holds.lt aT))
   have ax:=lH (ao.out.trans (ae.mono ao.out.size))
   have aK:=lH (bC.out.under (ae.mono (Nat.le_of_lt (Holds.lt ac))))
   have hsl:=cF.out
   clear bM b_ bc ae bs HJ bX ac bf aT ao bC k0 k1 k2 k3 k4 k5 k6 k7 k8 k9 aO aD
   have b0:=ab.out.cell 0
   have b1:=ab.out.cell 1
   have b2:=ab.out.cell 2
   have b3:=ab.out.cell 3
   have b4:=ab.out.cell 4
   have b5:=ab.out.cell 5
   have b6:=ab.out.cell 6
   have b7:=ab.out.cell 7
   have b8:=ab.out.cell 8
   have b9:=ab.out.cell 9
   have bK:=ab.out.cell 10
   have bV:=ab.out.cell 11
   have bN:=ab.out.open_ 0
   have bF:=ab.out.open_ 1
   have bH:=ab.out.open_ 2
   have bz:=ab.out.open_ 3
   have bx:=ab.out.open_ 4
   have bJ:=ab.out.open_ 5
   have bD:=ab.out.open_ 6
   have bW:=ab.out.open_ 7
   have bP:=ab.out.open_ 8
   have bT:=ab.out.open_ 9
   have aN:=ab.out.open_ 10
   have aB:=ab.out.open_ 11
   obtain ⟨V,hV⟩:∃ W,W=((((((((((((w5.setCell ⟨s,0,none⟩ (.int .u64 (X0:Int))).setCell ⟨s,1,none⟩ (.int .u64 (X1:Int))).setCell ⟨s,2,none⟩ (.int .u64 (X2:Int))).setCell ⟨s,3,none⟩ (.int .u64 (X3:Int))).setCell ⟨s,4,none⟩ (.int .u64 (Y0:Int))).setCell ⟨s,5,none⟩ (.int .u64 (Y1:Int))).setCell ⟨s,6,none⟩ (.int .u64 (Y2:Int))).setCell ⟨s,7,none⟩ (.int .u64 (Y3:Int))).setCell ⟨s,8,none⟩ (.int .u64 (Z0:Int))).setCell ⟨s,9,none⟩ (.int .u64 (Z1:Int))).setCell ⟨s,10,none⟩ (.int .u64 (Z2:Int))).setCell ⟨s,11,none⟩ (.int .u64 (Z3:Int))):=⟨_,rfl⟩
   have HV:=lH hV
   have SV:Hid (Holds V s 69 #[.int .u64 (X0:Int),.int .u64 (X1:Int),.int .u64 (X2:Int),.int .u64 (X3:Int),.int .u64 (Y0:Int),.int .u64 (Y1:Int),.int .u64 (Y2:Int),.int .u64 (Y3:Int),.int .u64 (Z0:Int),.int .u64 (Z1:Int),.int .u64 (Z2:Int),.int .u64 (Z3:Int)]):=lH (by rw [hV];exact set12 ab _ _ _ _ _ _ _ _ _ _ _ _)
   have PV:Hid (Holds V w.heap.size 26 #[.slice A1 l1.length c1,.slice A2 l2.length c2,.bool inf]):=lH (by rw [hV];exact holds_aside12 aR (k:=s) (by omega) _ _ _ _ _ _ _ _ _ _ _ _)
   have RV:Hid (Holds V (w.heap.size+1) 26 #[.slice none 0 0,.slice none 0 0,.bool false]):=lH (by rw [hV];exact holds_aside12 az (k:=s) (by omega) _ _ _ _ _ _ _ _ _ _ _ _)
   have BV:Hid (Below w.heap.size w V):=lH (by rw [hV];exact below12 ax (by omega) _ _ _ _ _ _ _ _ _ _ _ _)
   have a8:Hid (Rd .u32 V s A3 c3 r):=lH (aK.out.under (by rw [hV];exact below12 (Below.refl _ _) (Nat.le_refl _) _ _ _ _ _ _ _ _ _ _ _ _))
   have aY:=a8.out
   obtain ⟨be,oe,x,rfl,cE,hx,Hx⟩:=aY.at_ (i:=i / 32) (by omega)
   have cl:x<4294967296:=by rw [Hx.out];exact bO.out.at_ _
   have hix:i / 32<r.length:=by omega
   have hlc:=aY.1
   have hlc63:=aY.2.1
   have ai:=and_one x (i % 32) cl
   rw [Hx.out,bit_at bO.out i,←HE.out,am.out,←Hx.out] at ai
   clear aY ab aR az ax aK
   by_cases hbit:bm=1
   ·subst hbit
    have aG:(bits .and .u32 ((x:Int) / 2 ^ (i % 32)) 1 == 1)=true:=by rw [ai];rfl
    clear ai
    have p0:=PV.out.cell 0
    have p1:=PV.out.cell 1
    have p2:=PV.out.cell 2
    have k0:=SV.out.cell 0
    have k1:=SV.out.cell 1
    have k2:=SV.out.cell 2
    have k3:=SV.out.cell 3
    have k4:=SV.out.cell 4
    have k5:=SV.out.cell 5
    have k6:=SV.out.cell 6
    have k7:=SV.out.cell 7
    have k8:=SV.out.cell 8
    have k9:=SV.out.cell 9
    have aO:=SV.out.cell 10
    have aD:=SV.out.cell 11
    rw [hV] at hx p0 p1 p2 k0 k1 k2 k3 k4 k5 k6 k7 k8 k9 aO aD
    clear hV
    have aE:Luc.OnC (Luc.Rep j2):=by rw [aM.out];exact Luc.nmul_on HO _
    have bL:=lH (plusP V (HM.out.under BV) j2 aH aE (HP.out.under BV) HO)
    go_wp2_with fail
    rw [←HV.out]
    refine bL.out.mono ?_
    rintro e w6 ⟨j3,x0,x1,x2,x3,y0,y1,y2,y3,z0,z1,z2,z3,rfl,bB,bS,aA⟩
    have bd:Hid (Luc.Rep j3=Luc.nmul P (E / 2 ^ i)):=lH (by rw [bS,aM.out,bR.out];rfl)
    have bu:=lH bB
    have S6:=lH (SV.out.under aA (Holds.lt SV))
    have P6:=lH (PV.out.under aA (Holds.lt PV))
    have R6:=lH (RV.out.under aA (Holds.lt RV))
    have B6:=lH (BV.out.trans (aA.mono BV.out.size))
    have aw:=lH (a8.out.under (aA.mono (Nat.le_of_lt (Holds.lt SV))))
    clear bL HV bB bS aA aE hx cE p0 p1 p2 k0 b0 bN k1 b1 bF k2 b2 bH k3 b3 bz k4 b4 bx k5 b5 bJ k6 b6 bD k7 b7 bW k8 b8 bP k9 b9 bT aO bK aN aD bV aB
    have b0:=S6.out.cell 0
    have b1:=S6.out.cell 1
    have b2:=S6.out.cell 2
    have b3:=S6.out.cell 3
    have b4:=S6.out.cell 4
    have b5:=S6.out.cell 5
    have b6:=S6.out.cell 6
    have b7:=S6.out.cell 7
    have b8:=S6.out.cell 8
    have b9:=S6.out.cell 9
    have bK:=S6.out.cell 10
    have bV:=S6.out.cell 11
    have bN:=S6.out.open_ 0
    have bF:=S6.out.open_ 1
    have bH:=S6.out.open_ 2
    have bz:=S6.out.open_ 3
    have bx:=S6.out.open_ 4
    have bJ:=S6.out.open_ 5
    have bD:=S6.out.open_ 6
    have bW:=S6.out.open_ 7
    have bP:=S6.out.open_ 8
    have bT:=S6.out.open_ 9
    have aN:=S6.out.open_ 10
    have aB:=S6.out.open_ 11
    go_wp2_with fail
    exact ⟨⟨i,j3,x0,x1,x2,x3,y0,y1,y2,y3,z0,z1,z2,z3,by omega,rfl,bu,bd,lH (set12 S6 _ _ _ _ _ _ _ _ _ _ _ _),lH (holds_aside12 P6 (k:=s) (by omega) _ _ _ _ _ _ _ _ _ _ _ _),lH (holds_aside12 R6 (k:=s) (by omega) _ _ _ _ _ _ _ _ _ _ _ _),lH (below12 B6 (by omega) _ _ _ _ _ _ _ _ _ _ _ _),lH (aw.out.under (below12 (Below.refl _ _) (Nat.le_refl _) _ _ _ _ _ _ _ _ _ _ _ _))⟩,by simp [intOf]⟩
   ·have cA:bm=0:=by have:=am.out;omega
    subst cA
    have aG:(bits .and .u32 ((x:Int) / 2 ^ (i % 32)) 1 == 1)=false:=by rw [ai];rfl
    clear ai
    rw [hV] at hx
    clear hV
    have bd:Hid (Luc.Rep j2=Luc.nmul P (E / 2 ^ i)):=lH (by rw [aM.out,bR.out];rfl)
    go_wp2_with fail
    rw [←HV.out]
    exact ⟨⟨i,j2,X0,X1,X2,X3,Y0,Y1,Y2,Y3,Z0,Z1,Z2,Z3,by omega,rfl,aH,bd,SV,PV,RV,BV,a8⟩,by simp [intOf]⟩
theorem cmp_self {l:List Nat} {v:Nat} (h:NumIs l v):cmpL l l=0:=by
 rw [cmpL_val h.1 h.1 h.2.1 h.2.1]
 simp
theorem sameRP (w:World) {Q:Luc.Pt} {A1 A2 B1 B2:Option Addr} {c1 c2 d1 d2:Nat} {l1 l2 m1 m2:List Nat} {inf jnf:Bool} (hp:PtV Q w A1 c1 l1 A2 c2 l2 inf) (hq:PtV Q w B1 d1 m1 B2 d2 m2 jnf) :
  Calls Tryd.prog 16 #[.agg #[.slice A1 l1.length c1,.slice A2 l2.length c2,.bool inf],.agg #[.slice B1 m1.length d1,.slice B2 m2.length d2,.bool jnf]] w fun e w'=>e = .returned (.bool true)∧Below w.heap.size w w':=by
 have e1:l1=m1:=num_one hp.x.num hq.x.num
 have e2:l2=m2:=num_one hp.y.num hq.y.num
 have e3:inf=jnf:=hp.inf.trans hq.inf.symm
 subst e1 e2 e3
 have N1:=lH hp.x.num
 have N2:=lH hp.y.num
 obtain ⟨w1,ac⟩:∃ W,W=w.alloc (.cells #[.slice A1 l1.length c1,.slice A2 l2.length c2,.bool inf] 26):=⟨_,rfl⟩
 have av:w1.heap.size=w.heap.size+1:=by rw [ac];simp
 have au:Below w.heap.size w w1:=by rw [ac];exact (Below.refl _ _).alloc (Nat.le_refl _) _
 obtain ⟨W0,ae⟩:∃ W,W=w1.alloc (.cells #[.slice B1 l1.length d1,.slice B2 l2.length d2,.bool inf] 26):=⟨_,rfl⟩
 have ab:Below w.heap.size w W0:=by rw [ae];exact au.alloc au.size _
 have ai:Hid (Holds W0 w.heap.size 26 #[.slice A1 l1.length c1,.slice A2 l2.length c2,.bool inf]):=lH (by rw [ae,ac];exact (Holds.fresh w _ _).alloc _)
 have ak:Hid (Holds W0 (w.heap.size+1) 26 #[.slice B1 l1.length d1,.slice B2 l2.length d2,.bool inf]):=lH (by rw [ae,←av];exact Holds.fresh w1 _ _)
 have ay:=lH ab
 have HW:=lH (ac ▸ ae:W0=(w.alloc (.cells #[.slice A1 l1.length c1,.slice A2 l2.length c2,.bool inf] 26)).alloc (.cells #[.slice B1 l1.length d1,.slice B2 l2.length d2,.bool inf] 26))
 have X1:=lH (hp.x.rd.under ab)
 have X2:=lH (hq.x.rd.under ab)
 have Y1:=lH (hp.y.rd.under ab)
 have Y2:=lH (hq.y.rd.under ab)
 clear hp hq ac av au ae ab
 cases inf
 all_goals
  go_enter Tryd.func16,Tryd.ntmps16
  go_wp2_with fail
  rw [←HW.out]
  have p0:=ai.out.cell 0
  have p1:=ai.out.cell 1
  have p2:=ai.out.cell 2
  have q0:=ak.out.cell 0
  have q1:=ak.out.cell 1
  have q2:=ak.out.cell 2
  go_wp2_with fail
  refine (cmp'_any W0 _ _ A1 B1 c1 d1 l1 l1 X1 X2 0 (cmp_self N1)).mono ?_
  rintro e W1 ⟨rfl,q,hq⟩
  have am:Hid (Holds W1 w.heap.size 26 #[.slice A1 l1.length c1,.slice A2 l2.length c2,.bool _]):=lH (by rw [hq];exact ai.out)
  have ao:Hid (Holds W1 (w.heap.size+1) 26 #[.slice B1 l1.length d1,.slice B2 l2.length d2,.bool _]):=lH (by rw [hq];exact ak.out)
  have Z1:Hid (Rd .u32 W1 w.heap.size A2 c2 l2):=lH (by rw [hq];exact Y1.out.drewN q)
  have Z2:Hid (Rd .u32 W1 w.heap.size B2 d2 l2):=lH (by rw [hq];exact Y2.out.drewN q)
  have ax:Hid (Below w.heap.size w W1):=lH (by rw [hq];exact bdN ay q)
  clear hq p0 p1 p2 q0 q1 q2
  have p0:=am.out.cell 0
  have p1:=am.out.cell 1
  have p2:=am.out.cell 2
  have q0:=ao.out.cell 0
  have q1:=ao.out.cell 1
  have q2:=ao.out.cell 2
  go_wp2_with fail
  refine (cmp'_any W1 _ _ A2 B2 c2 d2 l2 l2 Z1 Z2 0 (cmp_self N2)).mono ?_
  rintro e W2 ⟨rfl,q,hq⟩
  have aw:Hid (Below w.heap.size w W2):=lH (by rw [hq];exact bdN ax q)
  clear hq p0 p1 p2 q0 q1 q2
  go_wp2_with fail
  go_ret
  exact ⟨rfl,aw⟩
def gP:Luc.Pt:=some (Luc.gX,Luc.gY)
theorem gP_on:Luc.OnC gP:=Luc.g_on
theorem gP_order:Luc.nmul gP Luc.cNn=none:=Luc.g_order
theorem lX_num:NumIs lX Luc.gX.val:=⟨lX_ok.1,lX_ok.2.1,by decide +kernel⟩
theorem lY_num:NumIs lY Luc.gY.val:=⟨lY_ok.1,lY_ok.2.1,by decide +kernel⟩
theorem g_is {w:World} {e:Ending} {w':World} (h:GAt w e w'):PtR gP w e w':=by
 obtain ⟨gx,gy,rfl,hx,hy,hb⟩:=h
 exact ⟨some ⟨gx,0,none⟩,8,lX,some ⟨gy,0,none⟩,8,lY,false,rfl,⟨rfl,⟨Eight.rd hx rfl,lX_num⟩,⟨Eight.rd hy rfl,lY_num⟩⟩,hb⟩
theorem curveGP (w:World):Calls Tryd.prog 28 #[] w (PtR gP w):=(curveG_any w).mono fun _ _ h=>g_is h
theorem refGP (w:World):Calls Tryd.prog 13 #[] w (PtR gP w):=(refG_any w).mono fun _ _ h=>g_is h
theorem timesRP (w:World) {P:Luc.Pt} {A A1 A2:Option Addr} {c c1 c2:Nat} {l l1 l2:List Nat} {inf:Bool} (hr:Rd .u32 w w.heap.size A c l) (hd:Dg l) (hs:l.length≤1000) (hn:nrm l) (hp:PtV P w A1 c1 l1 A2 c2 l2 inf) (ho:Luc.OnC P) :
  Calls Tryd.prog 11 #[.slice A l.length c,.agg #[.slice A1 l1.length c1,.slice A2 l2.length c2,.bool inf]] w (PtR (Luc.nmul P (val l)) w):=by
 rcases P with _ | ⟨u,v⟩
 ·obtain rfl:inf=true:=hp.inf
  rw [Luc.nmul_none]
  exact timesR_none w hr hd hs
 ·obtain rfl:inf=false:=hp.inf
  exact timesR_some w u v ho hr hd hs hn hp.x hp.y
def Mul (Q:Luc.Pt):Prop:=∃ k,Q=Luc.nmul gP k
theorem Mul.on {Q:Luc.Pt} (h:Mul Q):Luc.OnC Q:=by
 obtain ⟨k,rfl⟩:=h
 exact Luc.nmul_on gP_on k
theorem Mul.order {Q:Luc.Pt} (h:Mul Q):Luc.nmul Q Luc.cNn=none:=by
 obtain ⟨k,rfl⟩:=h
 exact Luc.nmul_order gP_on gP_order k
theorem Mul.mod {Q:Luc.Pt} (h:Mul Q) (n:Nat):Luc.nmul Q (n % val lN)=Luc.nmul Q n:=by
 rw [lN_val]
 exact Luc.nmul_mod h.on h.order n
end Go.Proofs.YtflfdglpljodbaaDoor
