/-
  The program: wide points as points. The program: a sum; a point, many times. The program: a point, many times. Two points that are one; the first point; numbers that are such.
-/
import Derived.Test.YtflfdglpljodbaaDoorCv19
import Derived.Test.YtflfdglpljodbaaDoorCvE
import Derived.Test.YtflfdglpljodbaaDoorCvC
import Derived.Deep.RegionLaw
import Derived.Deep.RegionHeld3
import Derived.Deep.DrawnRows
import Derived.Test.YtflfdglpljodbaaDoorModM
import Derived.Test.YtflfdglpljodbaaDoorRefB
namespace Go.Proofs.YtflfdglpljodbaaDoor
open Go.RowKit
set_option linter.unusedVariables false
set_option linter.unusedSimpArgs false

/-- What a call answers: a wide point. -/
def WdR (Q:Luc.Pt) (w:World) (e:Ending) (w':World):Prop :=
 ∃ (j:Luc.Jc) (x0 x1 x2 x3 y0 y1 y2 y3 z0 z1 z2 z3:Nat),e = .returned (.agg #[.int .u64 (x0:Int),.int .u64 (x1:Int),.int .u64 (x2:Int),.int .u64 (x3:Int),.int .u64 (y0:Int),.int .u64 (y1:Int),.int .u64 (y2:Int),.int .u64 (y3:Int),.int .u64 (z0:Int),.int .u64 (z1:Int),.int .u64 (z2:Int),.int .u64 (z3:Int)])∧(nm (en j.x)=[x0,x1,x2,x3]∧nm (en j.y)=[y0,y1,y2,y3]∧nm (en j.z)=[z0,z1,z2,z3])∧Luc.Rep j=Q∧Below w.heap.size w w'
theorem dig_any (f:Luc.F):∃ a b c d,nm (en f)=[a,b,c,d]:=by
 obtain ⟨a,b,c,d,h⟩:=four (nm_len (en f))
 exact ⟨a,b,c,d,h⟩
set_option maxRecDepth 100000 in
theorem wideInf (w:World) (Ax Ay:Option Addr) (nx cx ny cy:Nat) :
  Calls Tryd.prog 43 #[.agg #[.slice Ax nx cx,.slice Ay ny cy,.bool true]] w fun e w'=>e = .returned (.agg #[.int .u64 0,.int .u64 0,.int .u64 0,.int .u64 0,.int .u64 0,.int .u64 0,.int .u64 0,.int .u64 0,.int .u64 0,.int .u64 0,.int .u64 0,.int .u64 0])∧Below w.heap.size w w':=by
 go_enter Tryd.func43,Tryd.ntmps43
 go_wp2_with fail
 have e:(w.alloc (.cells #[.slice Ax nx cx,.slice Ay ny cy,.bool true] 26)).heap.size=w.heap.size+1:=by simp
 have hR:=Holds.fresh (w.alloc (.cells #[.slice Ax nx cx,.slice Ay ny cy,.bool true] 26)) 69 #[.int .u64 0,.int .u64 0,.int .u64 0,.int .u64 0,.int .u64 0,.int .u64 0,.int .u64 0,.int .u64 0,.int .u64 0,.int .u64 0,.int .u64 0,.int .u64 0]
 rw [e] at hR
 exact ret_wd (g:=w.heap.size+1) rfl rfl hR rfl ⟨rfl,((Below.refl _ _).alloc (Nat.le_refl _) _).alloc (by simp) _⟩
theorem wideP (w:World) (hm:CMet w) {Q:Luc.Pt} {A1 A2:Option Addr} {c1 c2:Nat} {l1 l2:List Nat} {inf:Bool} (h:PtV Q w A1 c1 l1 A2 c2 l2 inf) :
  Calls Tryd.prog 43 #[.agg #[.slice A1 l1.length c1,.slice A2 l2.length c2,.bool inf]] w (WdR Q w):=by
 rcases Q with _ | ⟨u,v⟩
 ·obtain rfl:inf=true:=h.inf
  refine (wideInf w A1 A2 _ c1 _ c2).mono ?_
  rintro e w' ⟨rfl,hb⟩
  exact ⟨⟨0,0,0⟩,0,0,0,0,0,0,0,0,0,0,0,0,rfl,⟨dig0,dig0,dig0⟩,Luc.Rep.no rfl,hb⟩
 ·obtain rfl:inf=false:=h.inf
  have hx:NR w A1 c1 l1 u:=h.x
  have hy:NR w A2 c2 l2 v:=h.y
  obtain ⟨x0,x1,x2,x3,dx⟩:=dig_any u
  obtain ⟨y0,y1,y2,y3,dy⟩:=dig_any v
  obtain ⟨z0,z1,z2,z3,dz⟩:=dig_any 1
  refine (wideOf_any w hm A1 A2 c1 c2 l1 l2 hx.rd hy.rd hx.dg hy.dg hx.le hy.le (x0:=x0) (x1:=x1) (x2:=x2) (x3:=x3) (y0:=y0) (y1:=y1) (y2:=y2) (y3:=y3) (u0:=z0) (u1:=z1) (u2:=z2) (u3:=z3) (by rw [hx.val];exact dx) (by rw [hy.val];exact dy) dz).mono ?_
  rintro e w' ⟨rfl,hb⟩
  exact ⟨⟨u,v,1⟩,_,_,_,_,_,_,_,_,_,_,_,_,rfl,⟨dx,dy,dz⟩,Luc.Rep.yes Luc.one_ne (by show u=_;grind) (by show v=_;grind),hb⟩
theorem plusP (w:World) (hm:CMet w) (j:Luc.Jc) {x0 x1 x2 x3 y0 y1 y2 y3 z0 z1 z2 z3:Nat} (hd:(nm (en j.x)=[x0,x1,x2,x3]∧nm (en j.y)=[y0,y1,y2,y3]∧nm (en j.z)=[z0,z1,z2,z3])) (ho:Luc.OnC (Luc.Rep j)) {Q:Luc.Pt} {A1 A2:Option Addr} {c1 c2:Nat} {l1 l2:List Nat} {inf:Bool} (h:PtV Q w A1 c1 l1 A2 c2 l2 inf) (hq:Luc.OnC Q) :
  Calls Tryd.prog 42 #[.agg #[.int .u64 (x0:Int),.int .u64 (x1:Int),.int .u64 (x2:Int),.int .u64 (x3:Int),.int .u64 (y0:Int),.int .u64 (y1:Int),.int .u64 (y2:Int),.int .u64 (y3:Int),.int .u64 (z0:Int),.int .u64 (z1:Int),.int .u64 (z2:Int),.int .u64 (z3:Int)],.agg #[.slice A1 l1.length c1,.slice A2 l2.length c2,.bool inf]] w (WdR (Luc.add (Luc.Rep j) Q) w):=by
 rcases Q with _ | ⟨u,v⟩
 ·obtain rfl:inf=true:=h.inf
  refine (plusInf w A1 A2 _ c1 _ c2).mono ?_
  rintro e w' ⟨rfl,hb⟩
  exact ⟨j,_,_,_,_,_,_,_,_,_,_,_,_,rfl,hd,(Luc.add_none _).symm,hb⟩
 ·obtain rfl:inf=false:=h.inf
  have hx:NR w A1 c1 l1 u:=h.x
  have hy:NR w A2 c2 l2 v:=h.y
  obtain ⟨X0,X1,X2,X3,dx⟩:=dig_any (Luc.pls j u v).x
  obtain ⟨Y0,Y1,Y2,Y3,dy⟩:=dig_any (Luc.pls j u v).y
  obtain ⟨Z0,Z1,Z2,Z3,dz⟩:=dig_any (Luc.pls j u v).z
  refine (plusE w hm j u v A1 A2 c1 c2 l1 l2 hx.rd hy.rd hx.dg hy.dg hx.le hy.le hx.val hy.val hd.1 hd.2.1 hd.2.2 dx dy dz).mono ?_
  rintro e w' ⟨rfl,hb⟩
  exact ⟨Luc.pls j u v,_,_,_,_,_,_,_,_,_,_,_,_,rfl,⟨dx,dy,dz⟩,Luc.pls_rep ho hq,hb⟩
theorem mm_backF (f:Luc.F):mm (en f) 1=f.val:=by
 have h:en f*1*cI % cP=f.val % cP:=by
  unfold en enc
  rw [Nat.mul_one]
  refine (mod_mul_left (Nat.mod_mod _ _)).trans ?_
  rw [Nat.mul_assoc]
  refine (mod_mul_right' (b:=1) ?_).trans (by rw [Nat.mul_one])
  rw [cRI]
  decide
 unfold mm
 rw [h]
 exact Nat.mod_eq_of_lt f.isLt
set_option maxRecDepth 100000 in
theorem flatP (w:World) (hm:CMet w) (j:Luc.Jc) {x0 x1 x2 x3 y0 y1 y2 y3 z0 z1 z2 z3:Nat} (hd:(nm (en j.x)=[x0,x1,x2,x3]∧nm (en j.y)=[y0,y1,y2,y3]∧nm (en j.z)=[z0,z1,z2,z3])) :
  Calls Tryd.prog 41 #[.agg #[.int .u64 (x0:Int),.int .u64 (x1:Int),.int .u64 (x2:Int),.int .u64 (x3:Int),.int .u64 (y0:Int),.int .u64 (y1:Int),.int .u64 (y2:Int),.int .u64 (y3:Int),.int .u64 (z0:Int),.int .u64 (z1:Int),.int .u64 (z2:Int),.int .u64 (z3:Int)]] w (PtR (Luc.Rep j) w):=by
 by_cases hz:j.z=0
 ·have hE:∀ W,(Op.equalIn 10000 67 (.agg #[.int .u64 (z0:Int),.int .u64 (z1:Int),.int .u64 (z2:Int),.int .u64 (z3:Int)]) (.agg #[.int .u64 0,.int .u64 0,.int .u64 0,.int .u64 0])).run Tryd.prog W = .ok true W:=fun W=>(eqE W j.z 0 hd.2.2 dig0).trans (by rw [decide_eq_true hz])
  have e:(w.alloc (.cells #[.int .u64 (x0:Int),.int .u64 (x1:Int),.int .u64 (x2:Int),.int .u64 (x3:Int),.int .u64 (y0:Int),.int .u64 (y1:Int),.int .u64 (y2:Int),.int .u64 (y3:Int),.int .u64 (z0:Int),.int .u64 (z1:Int),.int .u64 (z2:Int),.int .u64 (z3:Int)] 69)).heap.size=w.heap.size+1:=by simp
  have hR:=Holds.fresh (w.alloc (.cells #[.int .u64 (x0:Int),.int .u64 (x1:Int),.int .u64 (x2:Int),.int .u64 (x3:Int),.int .u64 (y0:Int),.int .u64 (y1:Int),.int .u64 (y2:Int),.int .u64 (y3:Int),.int .u64 (z0:Int),.int .u64 (z1:Int),.int .u64 (z2:Int),.int .u64 (z3:Int)] 69)) 26 #[.slice none 0 0,.slice none 0 0,.bool true]
  rw [e] at hR
  rw [Luc.Rep.no hz]
  clear hz hd hm e
  go_enter Tryd.func41,Tryd.ntmps41
  go_wp2_with fail
  exact ret_pt (g:=w.heap.size+1) rfl rfl hR rfl ⟨none,0,[],none,0,[],true,rfl,PtV.none _,((Below.refl _ _).alloc (Nat.le_refl _) _).alloc (by simp) _⟩
 ·have hi:=Luc.mul_finv hz
  have e1:enc (Luc.finv j.z).val=en (Luc.finv j.z):=rfl
  refine (flat_any w hm (en j.x) (en j.y) (en j.z) (Luc.finv j.z).val (en_lt _) (en_lt _) (en_lt _) (by rw [mm_backF];have:=congrArg Fin.val hi;rw [Fin.val_mul] at this;exact this) hd.1 hd.2.1 hd.2.2).mono ?_
  rintro e w' ⟨A1,c1,r1,A2,c2,r2,rfl,h1,h2,h3,h4,hb⟩
  rw [e1,en_mul,en_mul,mm_backF] at h1
  rw [e1,en_mul,en_mul,en_mul,mm_backF] at h2
  have hr:Luc.Rep j=some (j.x*(Luc.finv j.z*Luc.finv j.z),j.y*(Luc.finv j.z*Luc.finv j.z*Luc.finv j.z)):=by unfold Luc.Rep;rw [if_neg hz]
  rw [hr]
  exact ⟨A1,c1,r1,A2,c2,r2,false,rfl,⟨rfl,⟨h3,h1⟩,⟨h4,h2⟩⟩,hb⟩
theorem lB_val:val lB=Luc.cBf.val:=by decide +kernel
theorem rhs_on (u v:Luc.F):v.val*v.val % cP=rhsR u.val↔Luc.On u v:=by
 have h1:(v*v).val=v.val*v.val % cP:=Fin.val_mul _ _
 have h2:(u*(u*u) - (u+(u+u))+Luc.cBf).val=rhsR u.val:=by
  unfold rhsR
  rw [lB_val,Fin.val_add]
  show (_+_) % cP=_
  rw [←sub_val (f:=u*(u*u)) (g:=u+(u+u)) (a:=u.val*(u.val*u.val % cP) % cP) (b:=(u.val+(u.val+u.val) % cP) % cP) (by rw [Fin.val_mul,Fin.val_mul];rfl) (by rw [Fin.val_add,Fin.val_add];rfl)]
 rw [←h1,←h2,←Fin.ext_iff]
 unfold Luc.On
 have e:u*(u*u) - (u+(u+u))+Luc.cBf=u*u*u - 3*u+Luc.cBf:=by grind
 rw [e]
theorem okN_yes {l:List Nat} (hl:l.length≤8) (hn:nrm l):okN l=true:=by
 unfold okN
 rcases hn with h | h
 ·rw [h];rfl
 ·rw [decide_eq_true (show l.length≤256 by omega),beq_eq_false_iff_ne.2 h];cases decide (l.length=0) <;> rfl
theorem ptOk_yes {w:World} {Q:Luc.Pt} {A1 A2:Option Addr} {c1 c2:Nat} {l1 l2:List Nat} {inf:Bool} (h:PtV Q w A1 c1 l1 A2 c2 l2 inf) (ho:Luc.OnC Q):ptOk l1 l2 inf=true:=by
 rcases Q with _ | ⟨u,v⟩
 ·obtain rfl:inf=true:=h.inf
  unfold ptOk
  rw [if_pos rfl,decide_eq_true (h.x.zero_iff.2 rfl),decide_eq_true (h.y.zero_iff.2 rfl)]
  rfl
 ·obtain rfl:inf=false:=h.inf
  have hx:NR w A1 c1 l1 u:=h.x
  have hy:NR w A2 c2 l2 v:=h.y
  unfold ptOk blw
  rw [if_neg (by simp),okN_yes hx.le hx.nrm,okN_yes hy.le hy.nrm,hx.val,hy.val,decide_eq_true (show u.val<cP from u.isLt),decide_eq_true (show v.val<cP from v.isLt),decide_eq_true ((rhs_on u v).2 ho)]
  rfl
theorem isP (w:World) (hm:CMet w) {Q:Luc.Pt} {A1 A2:Option Addr} {c1 c2:Nat} {l1 l2:List Nat} {inf:Bool} (h:PtV Q w A1 c1 l1 A2 c2 l2 inf) (ho:Luc.OnC Q) :
  Calls Tryd.prog 19 #[.agg #[.slice A1 l1.length c1,.slice A2 l2.length c2,.bool inf]] w fun e w'=>e = .returned (.bool true)∧Below w.heap.size w w':=by
 have:=curveIs_any w hm A1 A2 c1 c2 l1 l2 inf h.x.rd h.y.rd h.x.dg h.y.dg
 rwa [ptOk_yes h ho] at this
end Go.Proofs.YtflfdglpljodbaaDoor
namespace Go.Proofs.YtflfdglpljodbaaDoor
open Go.RowKit
set_option linter.unusedVariables false
set_option linter.unusedSimpArgs false

theorem PtV.under' {Q:Luc.Pt} {W W':World} {A1:Option Addr} {c1:Nat} {l1:List Nat} {A2:Option Addr} {c2:Nat} {l2:List Nat} {inf:Bool} (h:PtV Q W A1 c1 l1 A2 c2 l2 inf) (hb:Below W.heap.size W W'):PtV Q W' A1 c1 l1 A2 c2 l2 inf:=h.under hb
set_option maxRecDepth 100000 in
set_option maxHeartbeats 8000000 in
theorem addP (w:World) (hm:CMet w) {P Q:Luc.Pt} {A1 A2 B1 B2:Option Addr} {c1 c2 d1 d2:Nat} {l1 l2 m1 m2:List Nat} {inf jnf:Bool} (hp:PtV P w A1 c1 l1 A2 c2 l2 inf) (hq:PtV Q w B1 d1 m1 B2 d2 m2 jnf) (ho:Luc.OnC P) (ho2:Luc.OnC Q) :
  Calls Tryd.prog 14 #[.agg #[.slice A1 l1.length c1,.slice A2 l2.length c2,.bool inf],.agg #[.slice B1 m1.length d1,.slice B2 m2.length d2,.bool jnf]] w (PtR (Luc.add P Q) w):=by
 obtain ⟨w1,hw1⟩:∃ W,W=w.alloc (.cells #[.slice A1 l1.length c1,.slice A2 l2.length c2,.bool inf] 26):=⟨_,rfl⟩
 have hz1:w1.heap.size=w.heap.size+1:=by rw [hw1];simp
 have hb1:Below w.heap.size w w1:=by rw [hw1];exact (Below.refl _ _).alloc (Nat.le_refl _) _
 obtain ⟨w2,hw2⟩:∃ W,W=w1.alloc (.cells #[.slice B1 m1.length d1,.slice B2 m2.length d2,.bool jnf] 26):=⟨_,rfl⟩
 have hz2:w2.heap.size=w.heap.size+1+1:=by rw [hw2];simp [hz1]
 have hb2:Below w.heap.size w w2:=by rw [hw2];exact hb1.alloc hb1.size _
 obtain ⟨W0,hw3⟩:∃ W,W=w2.alloc (.cells #[.slice none 0 0,.slice none 0 0,.bool false] 26):=⟨_,rfl⟩
 have hb3:Below w.heap.size w W0:=by rw [hw3];exact hb2.alloc hb2.size _
 have PB0:Hid (Holds W0 w.heap.size 26 #[.slice A1 l1.length c1,.slice A2 l2.length c2,.bool inf]):=Lib.hid (by rw [hw3,hw2,hw1];exact ((Holds.fresh w _ _).alloc _).alloc _)
 have QB0:Hid (Holds W0 (w.heap.size+1) 26 #[.slice B1 m1.length d1,.slice B2 m2.length d2,.bool jnf]):=Lib.hid (by rw [hw3,hw2,←hz1];exact (Holds.fresh w1 _ _).alloc _)
 have RB0:Hid (Holds W0 (w.heap.size+1+1) 26 #[.slice none 0 0,.slice none 0 0,.bool false]):=Lib.hid (by rw [hw3,←hz2];exact Holds.fresh w2 _ _)
 have HB0:=Lib.hid hb3
 have HM:=Lib.hid hm
 have HP:=Lib.hid hp
 have HQ:=Lib.hid hq
 have HO:=Lib.hid ho
 have HO2:=Lib.hid ho2
 have HI:=Lib.hid (isP W0 (hm.under hb3) (hp.under hb3) ho)
 have HW:=Lib.hid (hw1 ▸ hw2 ▸ hw3:W0=((w.alloc (.cells #[.slice A1 l1.length c1,.slice A2 l2.length c2,.bool inf] 26)).alloc (.cells #[.slice B1 m1.length d1,.slice B2 m2.length d2,.bool jnf] 26)).alloc (.cells #[.slice none 0 0,.slice none 0 0,.bool false] 26))
 clear hw1 hz1 hb1 hw2 hz2 hb2 hw3 hb3 hm hp hq ho ho2
 go_enter Tryd.func14,Tryd.ntmps14
 go_wp2_with fail
 rw [←HW.out]
 clear HW
 refine HI.out.mono ?_
 rintro e W1 ⟨rfl,hb⟩
 have PB1:=Lib.hid (PB0.out.under hb (Holds.lt PB0.out))
 have QB1:=Lib.hid (QB0.out.under hb (Holds.lt QB0.out))
 have RB1:=Lib.hid (RB0.out.under hb (Holds.lt RB0.out))
 have HB1:=Lib.hid (HB0.out.trans (hb.mono HB0.out.size))
 clear PB0 QB0 RB0 HB0
 clear hb HI
 have HI:=Lib.hid (isP W1 (HM.out.under HB1.out) (HQ.out.under HB1.out) HO2.out)
 have q0:=QB1.out.cell 0
 have q1:=QB1.out.cell 1
 have q2:=QB1.out.cell 2
 go_wp2_with fail
 refine HI.out.mono ?_
 rintro e W2 ⟨rfl,hb⟩
 have PB2:=Lib.hid (PB1.out.under hb (Holds.lt PB1.out))
 have QB2:=Lib.hid (QB1.out.under hb (Holds.lt QB1.out))
 have RB2:=Lib.hid (RB1.out.under hb (Holds.lt RB1.out))
 have HB2:=Lib.hid (HB1.out.trans (hb.mono HB1.out.size))
 clear PB1 QB1 RB1 HB1
 clear hb HI q0 q1 q2
 go_wp2_with fail
 refine wp_region_noPanic ?_
 refine wp_region_held_drew (S:=fun W=>Holds W w.heap.size 26 #[.slice A1 l1.length c1,.slice A2 l2.length c2,.bool inf]∧Holds W (w.heap.size+1) 26 #[.slice B1 m1.length d1,.slice B2 m2.length d2,.bool jnf]∧True) (by kernel_rfl) (⟨PB2.out,QB2.out,trivial⟩) (fun hHeld=>?_)
 obtain ⟨W3,hV⟩:∃ W,W=W2.drew:=⟨_,rfl⟩
 rw [←hV]
 have hb:Below W2.heap.size W2 W3:=by rw [hV];exact (Below.refl _ W2).drew
 have PB3:=Lib.hid (PB2.out.under hb (Holds.lt PB2.out))
 have QB3:=Lib.hid (QB2.out.under hb (Holds.lt QB2.out))
 have RB3:=Lib.hid (RB2.out.under hb (Holds.lt RB2.out))
 have HB3:=Lib.hid (HB2.out.trans (hb.mono HB2.out.size))
 clear PB2 QB2 RB2 HB2
 have HS3:Hid ((fun W=>Holds W w.heap.size 26 #[.slice A1 l1.length c1,.slice A2 l2.length c2,.bool inf]∧Holds W (w.heap.size+1) 26 #[.slice B1 m1.length d1,.slice B2 m2.length d2,.bool jnf]∧True) W3):=Lib.hid ⟨PB3.out,QB3.out,trivial⟩
 replace hHeld:(fun W=>Holds W w.heap.size 26 #[.slice A1 l1.length c1,.slice A2 l2.length c2,.bool inf]∧Holds W (w.heap.size+1) 26 #[.slice B1 m1.length d1,.slice B2 m2.length d2,.bool jnf]∧True) W3:=HS3.out
 clear hb hV
 refine wpAnyH_take (i:=0) (oi:=⟨some 14,.load 26 (.tmp 2),26,_,_,none⟩) (v:=?_) rfl (by kernel_rfl) (by kernel_rfl) (by kernel_rfl) (fun _ _ _ h=>h) (Or.inl ⟨by rfl,?_⟩) hHeld ?_
 rotate_left 1
 ·(intro W hW;have h0:=hW.1.cell 0;have h1:=hW.1.cell 1;have h2:=hW.1.cell 2;(try dsimp only at hW);go_simp;try with_reducible rfl)
 try simp only [Act.put,aI,aZ,aS]
 refine wpAnyH_take (i:=2) (oi:=⟨some 16,.load 26 (.tmp 3),26,_,_,none⟩) (v:=?_) rfl (by kernel_rfl) (by kernel_rfl) (by kernel_rfl) (fun _ _ _ h=>h) (Or.inl ⟨by rfl,?_⟩) hHeld ?_
 rotate_left 1
 ·(intro W hW;have h0:=hW.2.1.cell 0;have h1:=hW.2.1.cell 1;have h2:=hW.2.1.cell 2;(try dsimp only at hW);go_simp;try with_reducible rfl)
 try simp only [Act.put,aI,aZ,aS]
 refine wpAnyH_ready (rs:=[1]) (by kernel_rfl) (by simp) ?_
 refine AllReadyH.cons (o:=⟨some 15,.call ⟨ .value (.func 43),#[.tmp 14],#[26]⟩,69,_,_,none⟩) rfl (fun K hK=>?_) AllReadyH.nil
 go_simp
 refine (wideP W3 (HM.out.under HB3.out) (HP.out.under' HB3.out)).mono ?_
 rintro e W4 ⟨j,x0,x1,x2,x3,y0,y1,y2,y3,z0,z1,z2,z3,rfl,hd,hj,hb⟩
 have PB4:=Lib.hid (PB3.out.under hb (Holds.lt PB3.out))
 have QB4:=Lib.hid (QB3.out.under hb (Holds.lt QB3.out))
 have RB4:=Lib.hid (RB3.out.under hb (Holds.lt RB3.out))
 have HB4:=Lib.hid (HB3.out.trans (hb.mono HB3.out.size))
 clear PB3 QB3 RB3 HB3
 have HS4:Hid ((fun W=>Holds W w.heap.size 26 #[.slice A1 l1.length c1,.slice A2 l2.length c2,.bool inf]∧Holds W (w.heap.size+1) 26 #[.slice B1 m1.length d1,.slice B2 m2.length d2,.bool jnf]∧True) W4):=Lib.hid ⟨PB4.out,QB4.out,trivial⟩
 have HD:=Lib.hid hd
 have HJ:=Lib.hid hj
 clear hb hd hj
 go_simp
 refine hK.out _ _ (HS4.out) (fun hHeld=>?_)
 clear hK K
 try simp only [Act.put,aI,aZ,aS]
 refine wpAnyH_ready (rs:=[3]) (by kernel_rfl) (by simp) ?_
 refine AllReadyH.cons (o:=⟨some 17,.call ⟨ .value (.func 42),#[.tmp 15,.tmp 16],#[69,26]⟩,69,_,_,none⟩) rfl (fun K hK=>?_) AllReadyH.nil
 go_simp
 refine (plusP W4 (HM.out.under HB4.out) j HD.out (by rw [HJ.out];exact HO.out) (HQ.out.under' HB4.out) HO2.out).mono ?_
 rintro e W5 ⟨j2,X0,X1,X2,X3,Y0,Y1,Y2,Y3,Z0,Z1,Z2,Z3,rfl,hd,hj,hb⟩
 have PB5:=Lib.hid (PB4.out.under hb (Holds.lt PB4.out))
 have QB5:=Lib.hid (QB4.out.under hb (Holds.lt QB4.out))
 have RB5:=Lib.hid (RB4.out.under hb (Holds.lt RB4.out))
 have HB5:=Lib.hid (HB4.out.trans (hb.mono HB4.out.size))
 clear PB4 QB4 RB4 HB4
 have HS5:Hid ((fun W=>Holds W w.heap.size 26 #[.slice A1 l1.length c1,.slice A2 l2.length c2,.bool inf]∧Holds W (w.heap.size+1) 26 #[.slice B1 m1.length d1,.slice B2 m2.length d2,.bool jnf]∧True) W5):=Lib.hid ⟨PB5.out,QB5.out,trivial⟩
 rw [HJ.out] at hj
 have HD2:=Lib.hid hd
 have HJ2:=Lib.hid hj
 clear hb hd hj
 go_simp
 refine hK.out _ _ (HS5.out) (fun hHeld=>?_)
 clear hK K
 try simp only [Act.put,aI,aZ,aS]
 refine wpAnyH_ready (rs:=[4]) (by kernel_rfl) (by simp) ?_
 refine AllReadyH.cons (o:=⟨some 18,.call ⟨ .value (.func 41),#[.tmp 17],#[69]⟩,26,_,_,none⟩) rfl (fun K hK=>?_) AllReadyH.nil
 go_simp
 refine (flatP W5 (HM.out.under HB5.out) j2 HD2.out).mono ?_
 rintro e W6 ⟨A,ca,la,B,cb,lb,knf,rfl,hq,hb⟩
 have PB6:=Lib.hid (PB5.out.under hb (Holds.lt PB5.out))
 have QB6:=Lib.hid (QB5.out.under hb (Holds.lt QB5.out))
 have RB6:=Lib.hid (RB5.out.under hb (Holds.lt RB5.out))
 have HB6:=Lib.hid (HB5.out.trans (hb.mono HB5.out.size))
 clear PB5 QB5 RB5 HB5
 have HS6:Hid ((fun W=>Holds W w.heap.size 26 #[.slice A1 l1.length c1,.slice A2 l2.length c2,.bool inf]∧Holds W (w.heap.size+1) 26 #[.slice B1 m1.length d1,.slice B2 m2.length d2,.bool jnf]∧True) W6):=Lib.hid ⟨PB6.out,QB6.out,trivial⟩
 rw [HJ2.out] at hq
 have HR:=Lib.hid hq
 clear hb hq
 go_simp
 refine hK.out _ _ (HS6.out) (fun hHeld=>?_)
 clear hK K
 try simp only [Act.put,aI,aZ,aS]
 refine wpAnyH_ready (rs:=[5]) (by kernel_rfl) (by simp) ?_
 refine AllReadyH.cons (o:=⟨none,.store 26 (.tmp 4) (.tmp 18),0,_,_,none⟩) rfl (fun K hK=>?_) AllReadyH.nil
 have r0:=RB6.out.cell 0
 have r1:=RB6.out.cell 1
 have r2:=RB6.out.cell 2
 have or0:=RB6.out.open_ 0
 have or1:=RB6.out.open_ 1
 have or2:=RB6.out.open_ 2
 obtain ⟨VL,hN⟩:∃ W,W=(((W6.setCell ⟨(w.heap.size+1+1),0,none⟩ (.slice A la.length ca)).setCell ⟨(w.heap.size+1+1),1,none⟩ (.slice B lb.length cb)).setCell ⟨(w.heap.size+1+1),2,none⟩ (.bool knf)):=⟨_,rfl⟩
 go_simp
 rw [←hN]
 have HRL:Hid (Holds VL (w.heap.size+1+1) 26 #[.slice A la.length ca,.slice B lb.length cb,.bool knf]):=Lib.hid (by rw [hN];exact set3 RB6.out _ _ _)
 have HBL:Hid (Below w.heap.size w VL):=Lib.hid (by rw [hN];exact below3 HB6.out (by omega) _ _ _)
 have HSL:Hid ((fun W=>Holds W w.heap.size 26 #[.slice A1 l1.length c1,.slice A2 l2.length c2,.bool inf]∧Holds W (w.heap.size+1) 26 #[.slice B1 m1.length d1,.slice B2 m2.length d2,.bool jnf]∧True) VL):=Lib.hid ⟨by rw [hN];exact holds_aside3 PB6.out (k:=(w.heap.size+1+1)) (by omega) _ _ _,by rw [hN];exact holds_aside3 QB6.out (k:=(w.heap.size+1+1)) (by omega) _ _ _,trivial⟩
 have HV:Hid (PtV (Luc.add P Q) VL A ca la B cb lb knf):=Lib.hid ⟨HR.out.inf,by rw [hN];exact HR.out.x.store3 RB6.out no_numsP _ _ _,by rw [hN];exact HR.out.y.store3 RB6.out no_numsP _ _ _⟩
 clear hN r0 r1 r2 or0 or1 or2
 refine hK.out _ _ (HSL.out) (fun hHeld=>?_)
 clear hK K
 try simp only [Act.put,aI,aZ,aS]
 refine wpAnyH_done (by kernel_rfl) ?_ _
 refine NoPanic.normal ?_
 go_wp2_with fail
 exact ret_pt (g:=w.heap.size+1+1) rfl rfl HRL.out rfl ⟨A,ca,la,B,cb,lb,knf,rfl,HV.out,HBL.out⟩
end Go.Proofs.YtflfdglpljodbaaDoor
namespace Go.Proofs.YtflfdglpljodbaaDoor
open Go.RowKit
set_option linter.unusedVariables false
set_option linter.unusedSimpArgs false

theorem lN_val:val lN=Luc.cNn:=by decide +kernel
end Go.Proofs.YtflfdglpljodbaaDoor
namespace Go.Proofs.YtflfdglpljodbaaDoor
open Go.RowKit
set_option linter.unusedVariables false
set_option linter.unusedSimpArgs false

theorem cmp_self {l:List Nat} {v:Nat} (h:NumIs l v):cmpL l l=0:=by
 rw [cmpL_val h.1 h.1 h.2.1 h.2.1]
 simp
set_option maxRecDepth 100000 in
set_option maxHeartbeats 4000000 in
theorem sameP (w:World) {Q:Luc.Pt} {A1 A2 B1 B2:Option Addr} {c1 c2 d1 d2:Nat} {l1 l2 m1 m2:List Nat} {inf jnf:Bool} (hp:PtV Q w A1 c1 l1 A2 c2 l2 inf) (hq:PtV Q w B1 d1 m1 B2 d2 m2 jnf) :
  Calls Tryd.prog 18 #[.agg #[.slice A1 l1.length c1,.slice A2 l2.length c2,.bool inf],.agg #[.slice B1 m1.length d1,.slice B2 m2.length d2,.bool jnf]] w fun e w'=>e = .returned (.bool true)∧Below w.heap.size w w':=by
 have e1:l1=m1:=num_one hp.x.num hq.x.num
 have e2:l2=m2:=num_one hp.y.num hq.y.num
 have e3:inf=jnf:=hp.inf.trans hq.inf.symm
 subst e1 e2 e3
 have N1:=Lib.hid hp.x.num
 have N2:=Lib.hid hp.y.num
 obtain ⟨w1,hw1⟩:∃ W,W=w.alloc (.cells #[.slice A1 l1.length c1,.slice A2 l2.length c2,.bool inf] 26):=⟨_,rfl⟩
 have hz1:w1.heap.size=w.heap.size+1:=by rw [hw1];simp
 have hb1:Below w.heap.size w w1:=by rw [hw1];exact (Below.refl _ _).alloc (Nat.le_refl _) _
 obtain ⟨W0,hw2⟩:∃ W,W=w1.alloc (.cells #[.slice B1 l1.length d1,.slice B2 l2.length d2,.bool inf] 26):=⟨_,rfl⟩
 have hb2:Below w.heap.size w W0:=by rw [hw2];exact hb1.alloc hb1.size _
 have PB0:Hid (Holds W0 w.heap.size 26 #[.slice A1 l1.length c1,.slice A2 l2.length c2,.bool inf]):=Lib.hid (by rw [hw2,hw1];exact (Holds.fresh w _ _).alloc _)
 have QB0:Hid (Holds W0 (w.heap.size+1) 26 #[.slice B1 l1.length d1,.slice B2 l2.length d2,.bool inf]):=Lib.hid (by rw [hw2,←hz1];exact Holds.fresh w1 _ _)
 have HB0:=Lib.hid hb2
 have HW:=Lib.hid (hw1 ▸ hw2:W0=(w.alloc (.cells #[.slice A1 l1.length c1,.slice A2 l2.length c2,.bool inf] 26)).alloc (.cells #[.slice B1 l1.length d1,.slice B2 l2.length d2,.bool inf] 26))
 have X1:=Lib.hid (hp.x.rd.under hb2)
 have X2:=Lib.hid (hq.x.rd.under hb2)
 have Y1:=Lib.hid (hp.y.rd.under hb2)
 have Y2:=Lib.hid (hq.y.rd.under hb2)
 clear hp hq hw1 hz1 hb1 hw2 hb2
 cases inf
 all_goals
  go_enter Tryd.func18,Tryd.ntmps18
  go_wp2_with fail
  rw [←HW.out]
  have p0:=PB0.out.cell 0
  have p1:=PB0.out.cell 1
  have p2:=PB0.out.cell 2
  have q0:=QB0.out.cell 0
  have q1:=QB0.out.cell 1
  have q2:=QB0.out.cell 2
  go_wp2_with fail
  refine (eqn_yes W0 A1 B1 c1 d1 _ _ l1 X1.out X2.out).mono ?_
  rintro e W1 ⟨rfl,q,hq⟩
  have PB1:Hid (Holds W1 w.heap.size 26 #[.slice A1 l1.length c1,.slice A2 l2.length c2,.bool _]):=Lib.hid (by rw [hq];exact PB0.out)
  have QB1:Hid (Holds W1 (w.heap.size+1) 26 #[.slice B1 l1.length d1,.slice B2 l2.length d2,.bool _]):=Lib.hid (by rw [hq];exact QB0.out)
  have Z1:Hid (Rd .u32 W1 w.heap.size A2 c2 l2):=Lib.hid (by rw [hq];exact Y1.out.drewN q)
  have Z2:Hid (Rd .u32 W1 w.heap.size B2 d2 l2):=Lib.hid (by rw [hq];exact Y2.out.drewN q)
  have HB1:Hid (Below w.heap.size w W1):=Lib.hid (by rw [hq];exact bdN HB0.out q)
  clear hq p0 p1 p2 q0 q1 q2
  have p0:=PB1.out.cell 0
  have p1:=PB1.out.cell 1
  have p2:=PB1.out.cell 2
  have q0:=QB1.out.cell 0
  have q1:=QB1.out.cell 1
  have q2:=QB1.out.cell 2
  go_wp2_with fail
  refine (eqn_yes W1 A2 B2 c2 d2 _ _ l2 Z1.out Z2.out).mono ?_
  rintro e W2 ⟨rfl,q,hq⟩
  have HB2:Hid (Below w.heap.size w W2):=Lib.hid (by rw [hq];exact bdN HB1.out q)
  clear hq p0 p1 p2 q0 q1 q2
  go_wp2_with fail
  go_ret
  exact ⟨rfl,HB2.out⟩
set_option maxRecDepth 100000 in
set_option maxHeartbeats 4000000 in
theorem sameRP (w:World) {Q:Luc.Pt} {A1 A2 B1 B2:Option Addr} {c1 c2 d1 d2:Nat} {l1 l2 m1 m2:List Nat} {inf jnf:Bool} (hp:PtV Q w A1 c1 l1 A2 c2 l2 inf) (hq:PtV Q w B1 d1 m1 B2 d2 m2 jnf) :
  Calls Tryd.prog 16 #[.agg #[.slice A1 l1.length c1,.slice A2 l2.length c2,.bool inf],.agg #[.slice B1 m1.length d1,.slice B2 m2.length d2,.bool jnf]] w fun e w'=>e = .returned (.bool true)∧Below w.heap.size w w':=by
 have e1:l1=m1:=num_one hp.x.num hq.x.num
 have e2:l2=m2:=num_one hp.y.num hq.y.num
 have e3:inf=jnf:=hp.inf.trans hq.inf.symm
 subst e1 e2 e3
 have N1:=Lib.hid hp.x.num
 have N2:=Lib.hid hp.y.num
 obtain ⟨w1,hw1⟩:∃ W,W=w.alloc (.cells #[.slice A1 l1.length c1,.slice A2 l2.length c2,.bool inf] 26):=⟨_,rfl⟩
 have hz1:w1.heap.size=w.heap.size+1:=by rw [hw1];simp
 have hb1:Below w.heap.size w w1:=by rw [hw1];exact (Below.refl _ _).alloc (Nat.le_refl _) _
 obtain ⟨W0,hw2⟩:∃ W,W=w1.alloc (.cells #[.slice B1 l1.length d1,.slice B2 l2.length d2,.bool inf] 26):=⟨_,rfl⟩
 have hb2:Below w.heap.size w W0:=by rw [hw2];exact hb1.alloc hb1.size _
 have PB0:Hid (Holds W0 w.heap.size 26 #[.slice A1 l1.length c1,.slice A2 l2.length c2,.bool inf]):=Lib.hid (by rw [hw2,hw1];exact (Holds.fresh w _ _).alloc _)
 have QB0:Hid (Holds W0 (w.heap.size+1) 26 #[.slice B1 l1.length d1,.slice B2 l2.length d2,.bool inf]):=Lib.hid (by rw [hw2,←hz1];exact Holds.fresh w1 _ _)
 have HB0:=Lib.hid hb2
 have HW:=Lib.hid (hw1 ▸ hw2:W0=(w.alloc (.cells #[.slice A1 l1.length c1,.slice A2 l2.length c2,.bool inf] 26)).alloc (.cells #[.slice B1 l1.length d1,.slice B2 l2.length d2,.bool inf] 26))
 have X1:=Lib.hid (hp.x.rd.under hb2)
 have X2:=Lib.hid (hq.x.rd.under hb2)
 have Y1:=Lib.hid (hp.y.rd.under hb2)
 have Y2:=Lib.hid (hq.y.rd.under hb2)
 clear hp hq hw1 hz1 hb1 hw2 hb2
 cases inf
 all_goals
  go_enter Tryd.func16,Tryd.ntmps16
  go_wp2_with fail
  rw [←HW.out]
  have p0:=PB0.out.cell 0
  have p1:=PB0.out.cell 1
  have p2:=PB0.out.cell 2
  have q0:=QB0.out.cell 0
  have q1:=QB0.out.cell 1
  have q2:=QB0.out.cell 2
  go_wp2_with fail
  refine (cmp'_any W0 _ _ A1 B1 c1 d1 l1 l1 X1.out X2.out 0 (cmp_self N1.out)).mono ?_
  rintro e W1 ⟨rfl,q,hq⟩
  have PB1:Hid (Holds W1 w.heap.size 26 #[.slice A1 l1.length c1,.slice A2 l2.length c2,.bool _]):=Lib.hid (by rw [hq];exact PB0.out)
  have QB1:Hid (Holds W1 (w.heap.size+1) 26 #[.slice B1 l1.length d1,.slice B2 l2.length d2,.bool _]):=Lib.hid (by rw [hq];exact QB0.out)
  have Z1:Hid (Rd .u32 W1 w.heap.size A2 c2 l2):=Lib.hid (by rw [hq];exact Y1.out.drewN q)
  have Z2:Hid (Rd .u32 W1 w.heap.size B2 d2 l2):=Lib.hid (by rw [hq];exact Y2.out.drewN q)
  have HB1:Hid (Below w.heap.size w W1):=Lib.hid (by rw [hq];exact bdN HB0.out q)
  clear hq p0 p1 p2 q0 q1 q2
  have p0:=PB1.out.cell 0
  have p1:=PB1.out.cell 1
  have p2:=PB1.out.cell 2
  have q0:=QB1.out.cell 0
  have q1:=QB1.out.cell 1
  have q2:=QB1.out.cell 2
  go_wp2_with fail
  refine (cmp'_any W1 _ _ A2 B2 c2 d2 l2 l2 Z1.out Z2.out 0 (cmp_self N2.out)).mono ?_
  rintro e W2 ⟨rfl,q,hq⟩
  have HB2:Hid (Below w.heap.size w W2):=Lib.hid (by rw [hq];exact bdN HB1.out q)
  clear hq p0 p1 p2 q0 q1 q2
  go_wp2_with fail
  go_ret
  exact ⟨rfl,HB2.out⟩
def gP:Luc.Pt:=some (Luc.gX,Luc.gY)
theorem gP_on:Luc.OnC gP:=Luc.g_on
theorem gP_order:Luc.nmul gP Luc.cNn=none:=Luc.g_order
theorem lX_num:NumIs lX Luc.gX.val:=⟨lX_ok.1,lX_ok.2.1,by decide +kernel⟩
theorem lY_num:NumIs lY Luc.gY.val:=⟨lY_ok.1,lY_ok.2.1,by decide +kernel⟩
theorem g_is {w:World} {e:Ending} {w':World} (h:GAt w e w'):PtR gP w e w':=by
 obtain ⟨gx,gy,rfl,hx,hy,hb⟩:=h
 exact ⟨some ⟨gx,0,none⟩,8,lX,some ⟨gy,0,none⟩,8,lY,false,rfl,⟨rfl,⟨Eight.rd hx rfl,lX_num⟩,⟨Eight.rd hy rfl,lY_num⟩⟩,hb⟩
theorem refGP (w:World):Calls Tryd.prog 13 #[] w (PtR gP w):=(refG_any w).mono fun _ _ h=>g_is h
/-- The document's Times at any point of the curve. -/
theorem timesRP (w:World) {P:Luc.Pt} {A A1 A2:Option Addr} {c c1 c2:Nat} {l l1 l2:List Nat} {inf:Bool} (hr:Rd .u32 w w.heap.size A c l) (hd:Dg l) (hs:l.length≤1000) (hn:nrm l) (hp:PtV P w A1 c1 l1 A2 c2 l2 inf) (ho:Luc.OnC P) :
  Calls Tryd.prog 11 #[.slice A l.length c,.agg #[.slice A1 l1.length c1,.slice A2 l2.length c2,.bool inf]] w (PtR (Luc.nmul P (val l)) w):=by
 rcases P with _ | ⟨u,v⟩
 ·obtain rfl:inf=true:=hp.inf
  rw [Luc.nmul_none]
  exact timesR_none w hr hd hs
 ·obtain rfl:inf=false:=hp.inf
  exact timesR_some w u v ho hr hd hs hn hp.x hp.y
/-- Points that are many times the first. -/
def Mul (Q:Luc.Pt):Prop:=∃ k,Q=Luc.nmul gP k
theorem Mul.on {Q:Luc.Pt} (h:Mul Q):Luc.OnC Q:=by
 obtain ⟨k,rfl⟩:=h
 exact Luc.nmul_on gP_on k
theorem Mul.order {Q:Luc.Pt} (h:Mul Q):Luc.nmul Q Luc.cNn=none:=by
 obtain ⟨k,rfl⟩:=h
 exact Luc.nmul_order gP_on gP_order k
theorem Mul.mod {Q:Luc.Pt} (h:Mul Q) (n:Nat):Luc.nmul Q (n % val lN)=Luc.nmul Q n:=by
 rw [lN_val]
 exact Luc.nmul_mod h.on h.order n
end Go.Proofs.YtflfdglpljodbaaDoor
