/-
  The sum of a wide point and one that is not wide.
-/
import Derived.Test.YtflfdglpljodbaaDoorGCv18
set_option maxRecDepth 100000
set_option maxHeartbeats 80000000
namespace Go.Proofs.YtflfdglpljodbaaDoor
open Go.RowKit
set_option linter.unusedVariables false
set_option linter.unusedSimpArgs false
theorem plusInf (w:World) (Ax Ay:Option Addr) (nx cx ny cy:Nat) {x0 x1 x2 x3 y0 y1 y2 y3 z0 z1 z2 z3:Nat} :
  Calls Tryd.prog 42 #[.agg #[.int .u64 (x0:Int),.int .u64 (x1:Int),.int .u64 (x2:Int),.int .u64 (x3:Int),.int .u64 (y0:Int),.int .u64 (y1:Int),.int .u64 (y2:Int),.int .u64 (y3:Int),.int .u64 (z0:Int),.int .u64 (z1:Int),.int .u64 (z2:Int),.int .u64 (z3:Int)],.agg #[.slice Ax nx cx,.slice Ay ny cy,.bool true]] w fun e w'=>e = .returned (.agg #[.int .u64 (x0:Int),.int .u64 (x1:Int),.int .u64 (x2:Int),.int .u64 (x3:Int),.int .u64 (y0:Int),.int .u64 (y1:Int),.int .u64 (y2:Int),.int .u64 (y3:Int),.int .u64 (z0:Int),.int .u64 (z1:Int),.int .u64 (z2:Int),.int .u64 (z3:Int)])∧Below w.heap.size w w':=by
 go_enter Tryd.func42,Tryd.ntmps42
 go_wp2_with fail
 have e:((w.alloc (.cells #[.int .u64 (x0:Int),.int .u64 (x1:Int),.int .u64 (x2:Int),.int .u64 (x3:Int),.int .u64 (y0:Int),.int .u64 (y1:Int),.int .u64 (y2:Int),.int .u64 (y3:Int),.int .u64 (z0:Int),.int .u64 (z1:Int),.int .u64 (z2:Int),.int .u64 (z3:Int)] 69)).alloc (.cells #[.slice Ax nx cx,.slice Ay ny cy,.bool true] 26)).heap.size=w.heap.size+1+1:=by simp
 have hR:=Holds.fresh ((w.alloc (.cells #[.int .u64 (x0:Int),.int .u64 (x1:Int),.int .u64 (x2:Int),.int .u64 (x3:Int),.int .u64 (y0:Int),.int .u64 (y1:Int),.int .u64 (y2:Int),.int .u64 (y3:Int),.int .u64 (z0:Int),.int .u64 (z1:Int),.int .u64 (z2:Int),.int .u64 (z3:Int)] 69)).alloc (.cells #[.slice Ax nx cx,.slice Ay ny cy,.bool true] 26)) 69 #[.int .u64 (x0:Int),.int .u64 (x1:Int),.int .u64 (x2:Int),.int .u64 (x3:Int),.int .u64 (y0:Int),.int .u64 (y1:Int),.int .u64 (y2:Int),.int .u64 (y3:Int),.int .u64 (z0:Int),.int .u64 (z1:Int),.int .u64 (z2:Int),.int .u64 (z3:Int)]
 rw [e] at hR
 exact ret_wd (g:=w.heap.size+1+1) rfl rfl hR rfl ⟨rfl,(((Below.refl _ _).alloc (Nat.le_refl _) _).alloc (by simp) _).alloc (by simp;omega) _⟩
theorem plusE (w:World) (hm:CMet w) (j:Luc.Jc) (pu pv:Luc.F) (Ax Ay:Option Addr) (cx cy:Nat) (lx ly:List Nat) (hrx:Rd .u32 w w.heap.size Ax cx lx) (hry:Rd .u32 w w.heap.size Ay cy ly) (hdx:Dg lx) (hdy:Dg ly) (hlx:lx.length≤8) (hly:ly.length≤8) (hvx:val lx=pu.val) (hvy:val ly=pv.val)
  {x0 x1 x2 x3 y0 y1 y2 y3 z0 z1 z2 z3 X0 X1 X2 X3 Y0 Y1 Y2 Y3 Z0 Z1 Z2 Z3:Nat} (hx:nm (en j.x)=[x0,x1,x2,x3]) (hy:nm (en j.y)=[y0,y1,y2,y3]) (hz:nm (en j.z)=[z0,z1,z2,z3])
  (hX:nm (en (Luc.pls j pu pv).x)=[X0,X1,X2,X3]) (hY:nm (en (Luc.pls j pu pv).y)=[Y0,Y1,Y2,Y3]) (hZ:nm (en (Luc.pls j pu pv).z)=[Z0,Z1,Z2,Z3]) :
  Calls Tryd.prog 42 #[.agg #[.int .u64 (x0:Int),.int .u64 (x1:Int),.int .u64 (x2:Int),.int .u64 (x3:Int),.int .u64 (y0:Int),.int .u64 (y1:Int),.int .u64 (y2:Int),.int .u64 (y3:Int),.int .u64 (z0:Int),.int .u64 (z1:Int),.int .u64 (z2:Int),.int .u64 (z3:Int)],.agg #[.slice Ax lx.length cx,.slice Ay ly.length cy,.bool false]] w fun e w'=>e = .returned (.agg #[.int .u64 (X0:Int),.int .u64 (X1:Int),.int .u64 (X2:Int),.int .u64 (X3:Int),.int .u64 (Y0:Int),.int .u64 (Y1:Int),.int .u64 (Y2:Int),.int .u64 (Y3:Int),.int .u64 (Z0:Int),.int .u64 (Z1:Int),.int .u64 (Z2:Int),.int .u64 (Z3:Int)])∧Below w.heap.size w w':=by
 have FV:Hid ((CMet w)∧(Dg lx)∧(Dg ly)∧(lx.length≤8)∧(ly.length≤8)∧(val lx=pu.val)∧(val ly=pv.val)∧(nm (en j.x)=[x0,x1,x2,x3])∧(nm (en j.y)=[y0,y1,y2,y3])∧(nm (en j.z)=[z0,z1,z2,z3])∧(nm (en (Luc.pls j pu pv).x)=[X0,X1,X2,X3])∧(nm (en (Luc.pls j pu pv).y)=[Y0,Y1,Y2,Y3])∧(nm (en (Luc.pls j pu pv).z)=[Z0,Z1,Z2,Z3])):=lH ⟨hm,hdx,hdy,hlx,hly,hvx,hvy,hx,hy,hz,hX,hY,hZ⟩
 obtain ⟨w1,oI⟩:∃ W,W=w.alloc (.cells #[.int .u64 (x0:Int),.int .u64 (x1:Int),.int .u64 (x2:Int),.int .u64 (x3:Int),.int .u64 (y0:Int),.int .u64 (y1:Int),.int .u64 (y2:Int),.int .u64 (y3:Int),.int .u64 (z0:Int),.int .u64 (z1:Int),.int .u64 (z2:Int),.int .u64 (z3:Int)] 69):=⟨_,rfl⟩
 have p_:w1.heap.size=w.heap.size+1:=by rw [oI];simp
 have pz:Below w.heap.size w w1:=by rw [oI];exact (Below.refl _ _).alloc (Nat.le_refl _) _
 obtain ⟨w2,oc⟩:∃ W,W=w1.alloc (.cells #[.slice Ax lx.length cx,.slice Ay ly.length cy,.bool false] 26):=⟨_,rfl⟩
 have qM:w2.heap.size=w.heap.size+1+1:=by rw [oc];simp [p_]
 have qe:Below w.heap.size w w2:=by rw [oc];exact pz.alloc pz.size _
 obtain ⟨u0,oj⟩:∃ W,W=w2.alloc (.cells #[.int .u64 0,.int .u64 0,.int .u64 0,.int .u64 0,.int .u64 0,.int .u64 0,.int .u64 0,.int .u64 0,.int .u64 0,.int .u64 0,.int .u64 0,.int .u64 0] 69):=⟨_,rfl⟩
 have m7:Below w.heap.size w u0:=by rw [oj];exact qe.alloc qe.size _
 have iz:Hid (Holds u0 w.heap.size 69 #[.int .u64 (x0:Int),.int .u64 (x1:Int),.int .u64 (x2:Int),.int .u64 (x3:Int),.int .u64 (y0:Int),.int .u64 (y1:Int),.int .u64 (y2:Int),.int .u64 (y3:Int),.int .u64 (z0:Int),.int .u64 (z1:Int),.int .u64 (z2:Int),.int .u64 (z3:Int)]):=lH (by rw [oj,oc,oI];exact ((Holds.fresh w _ _).alloc _).alloc _)
 have lD:Hid (Holds u0 (w.heap.size+1) 26 #[.slice Ax lx.length cx,.slice Ay ly.length cy,.bool false]):=lH (by rw [oj,oc,←p_];exact (Holds.fresh w1 _ _).alloc _)
 have lW:Hid (Holds u0 (w.heap.size+1+1) 69 #[.int .u64 0,.int .u64 0,.int .u64 0,.int .u64 0,.int .u64 0,.int .u64 0,.int .u64 0,.int .u64 0,.int .u64 0,.int .u64 0,.int .u64 0,.int .u64 0]):=lH (by rw [oj,←qM];exact Holds.fresh w2 _ _)
 have mK:=lH m7
 have HW:=lH (oI ▸ oc ▸ oj:u0=((w.alloc (.cells #[.int .u64 (x0:Int),.int .u64 (x1:Int),.int .u64 (x2:Int),.int .u64 (x3:Int),.int .u64 (y0:Int),.int .u64 (y1:Int),.int .u64 (y2:Int),.int .u64 (y3:Int),.int .u64 (z0:Int),.int .u64 (z1:Int),.int .u64 (z2:Int),.int .u64 (z3:Int)] 69)).alloc (.cells #[.slice Ax lx.length cx,.slice Ay ly.length cy,.bool false] 26)).alloc (.cells #[.int .u64 0,.int .u64 0,.int .u64 0,.int .u64 0,.int .u64 0,.int .u64 0,.int .u64 0,.int .u64 0,.int .u64 0,.int .u64 0,.int .u64 0,.int .u64 0] 69))
 have ie:Hid ((Holds u0 w.heap.size 69 #[.int .u64 (x0:Int),.int .u64 (x1:Int),.int .u64 (x2:Int),.int .u64 (x3:Int),.int .u64 (y0:Int),.int .u64 (y1:Int),.int .u64 (y2:Int),.int .u64 (y3:Int),.int .u64 (z0:Int),.int .u64 (z1:Int),.int .u64 (z2:Int),.int .u64 (z3:Int)])∧(Holds u0 (w.heap.size+1+1) 69 #[.int .u64 0,.int .u64 0,.int .u64 0,.int .u64 0,.int .u64 0,.int .u64 0,.int .u64 0,.int .u64 0,.int .u64 0,.int .u64 0,.int .u64 0,.int .u64 0])∧(Below w.heap.size w u0)∧(CMet u0)∧(Holds u0 (w.heap.size+1) 26 #[.slice Ax lx.length cx,.slice Ay ly.length cy,.bool false])∧(Rd .u32 u0 u0.heap.size Ax cx lx)∧(Rd .u32 u0 u0.heap.size Ay cy ly)):=lH ⟨iz,lW,m7,hm.under m7,lD,(hrx.under m7).more m7.size,(hry.under m7).more m7.size⟩
 clear oI p_ pz oc qM qe oj m7 hx hy hz hX hY hZ hm hrx hry hdx hdy hlx hly hvx hvy iz lD lW mK
 go_enter Tryd.func42,Tryd.ntmps42
 go_wp2_with fail
 rw [←HW.out]
 clear HW
 by_cases hzn:j.z=0
 ·have iz:=lH (ie.out.1)
  have lW:=lH (ie.out.2.1)
  have mK:=lH (ie.out.2.2.1)
  have oU:=lH (ie.out.2.2.2.1)
  have lD:=lH (ie.out.2.2.2.2.1)
  have pb:=lH (ie.out.2.2.2.2.2.1)
  have pd:=lH (ie.out.2.2.2.2.2.2)
  have pr:=lH (FV.out.2.1)
  have pf:=lH (FV.out.2.2.1)
  have pq:=lH (FV.out.2.2.2.1)
  have pc:=lH (FV.out.2.2.2.2.1)
  have pn:=lH (FV.out.2.2.2.2.2.1)
  have ph:=lH (FV.out.2.2.2.2.2.2.1)
  have Hz:=lH (FV.out.2.2.2.2.2.2.2.2.2.1)
  have PX:=lH (FV.out.2.2.2.2.2.2.2.2.2.2.1)
  have PY:=lH (FV.out.2.2.2.2.2.2.2.2.2.2.2.1)
  have PZ:=lH (FV.out.2.2.2.2.2.2.2.2.2.2.2.2)
  clear ie FV
  have pO:∀ W,(Op.equalIn 10000 67 (.agg #[.int .u64 (z0:Int),.int .u64 (z1:Int),.int .u64 (z2:Int),.int .u64 (z3:Int)]) (.agg #[.int .u64 0,.int .u64 0,.int .u64 0,.int .u64 0])).run Tryd.prog W = .ok true W:=fun W=>(eqE W j.z 0 Hz dig0).trans (by rw [decide_eq_true hzn])
  have id:Hid (Luc.pls j pu pv=⟨pu,pv,1⟩):=lH (by unfold Luc.pls;rw [if_pos hzn])
  have sA:=lH (wideOf_any u0 oU Ax Ay cx cy lx ly pb pd pr pf pq pc (show nm (enc (val lx))=[X0,X1,X2,X3] by rw [pn.out,←PX.out,id.out];rfl) (show nm (enc (val ly))=[Y0,Y1,Y2,Y3] by rw [ph.out,←PY.out,id.out];rfl) (show nm (enc 1)=[Z0,Z1,Z2,Z3] by rw [←PZ.out,id.out];rfl))
  have k8:=iz.out.cell 8
  have k9:=iz.out.cell 9
  have n6:=iz.out.cell 10
  have nW:=iz.out.cell 11
  have b0:=lD.out.cell 0
  have b1:=lD.out.cell 1
  have b2:=lD.out.cell 2
  go_wp2_with fail
  go_simp
  go_wp2_with fail
  refine sA.out.mono ?_
  rintro e uE ⟨rfl,ab⟩
  have HR:=lH (lW.out.under ab (Holds.lt lW))
  have HB:=lH (mK.out.trans (ab.mono mK.out.size))
  clear ab pO b0 b1 b2 k8 k9 n6 nW
  have z0:=HR.out.cell 0
  have o0:=HR.out.open_ 0
  have z1:=HR.out.cell 1
  have o1:=HR.out.open_ 1
  have z2:=HR.out.cell 2
  have o2:=HR.out.open_ 2
  have z3:=HR.out.cell 3
  have o3:=HR.out.open_ 3
  have z4:=HR.out.cell 4
  have o4:=HR.out.open_ 4
  have z5:=HR.out.cell 5
  have o5:=HR.out.open_ 5
  have z6:=HR.out.cell 6
  have o6:=HR.out.open_ 6
  have z7:=HR.out.cell 7
  have o7:=HR.out.open_ 7
  have z8:=HR.out.cell 8
  have o8:=HR.out.open_ 8
  have z9:=HR.out.cell 9
  have o9:=HR.out.open_ 9
  have qs:=HR.out.cell 10
  have qo:=HR.out.open_ 10
  have qm:=HR.out.cell 11
  have qF:=HR.out.open_ 11
  go_wp2_with fail
  exact ret_wd (g:=w.heap.size+1+1) rfl rfl (set12 HR _ _ _ _ _ _ _ _ _ _ _ _) rfl ⟨rfl,below12 HB (by omega) _ _ _ _ _ _ _ _ _ _ _ _⟩
 obtain ⟨st,q_,rC,rP,nj⟩:=four (nm_len (en pu))
 obtain ⟨sk,rO,rn,sM,mT⟩:=four (nm_len (en pv))
 obtain ⟨zz,mv⟩:∃ v,v=j.z*j.z:=⟨_,rfl⟩
 obtain ⟨m1,mz⟩:∃ v,v=pu*zz:=⟨_,rfl⟩
 obtain ⟨ah,mN⟩:∃ v,v=m1 - j.x:=⟨_,rfl⟩
 obtain ⟨l7,ko⟩:∃ v,v=zz*j.z:=⟨_,rfl⟩
 obtain ⟨m2,ni⟩:∃ v,v=pv*l7:=⟨_,rfl⟩
 obtain ⟨ar,mP⟩:∃ v,v=m2 - j.y:=⟨_,rfl⟩
 obtain ⟨qT,qL,qw,qC,mA⟩:=four (nm_len (en zz))
 obtain ⟨sF,rA,ry,sd,mt⟩:=four (nm_len (en m1))
 obtain ⟨nF,n9,nz,nV,mg⟩:=four (nm_len (en ah))
 obtain ⟨qc,pZ,pY,pD,kf⟩:=four (nm_len (en l7))
 obtain ⟨r8,sP,rZ,qZ,mn⟩:=four (nm_len (en m2))
 obtain ⟨mQ,mr,mZ,mW,nc⟩:=four (nm_len (en ar))
 have FU:Hid ((j.z≠0)∧(nm (en pu)=[st,q_,rC,rP])∧(nm (en pv)=[sk,rO,rn,sM])∧(zz=j.z*j.z)∧(m1=pu*zz)∧(ah=m1 - j.x)∧(l7=zz*j.z)∧(m2=pv*l7)∧(ar=m2 - j.y)∧(nm (en zz)=[qT,qL,qw,qC])∧(nm (en m1)=[sF,rA,ry,sd])∧(nm (en ah)=[nF,n9,nz,nV])∧(nm (en l7)=[qc,pZ,pY,pD])∧(nm (en m2)=[r8,sP,rZ,qZ])∧(nm (en ar)=[mQ,mr,mZ,mW])):=lH ⟨hzn,nj,mT,mv,mz,mN,ko,ni,mP,mA,mt,mg,kf,mn,nc⟩
 clear hzn nj mT mv mA mz mt mN mg ko kf ni mn mP nc
 have iz:=lH (ie.out.1)
 have lW:=lH (ie.out.2.1)
 have mK:=lH (ie.out.2.2.1)
 have oU:=lH (ie.out.2.2.2.1)
 have lD:=lH (ie.out.2.2.2.2.1)
 have pb:=lH (ie.out.2.2.2.2.2.1)
 have pd:=lH (ie.out.2.2.2.2.2.2)
 have Hz:=lH (FV.out.2.2.2.2.2.2.2.2.2.1)
 have ox:=lH (FU.out.1)
 have nA:=lH (FU.out.2.2.2.1)
 have jI:=lH (FU.out.2.2.2.2.2.2.2.2.2.1)
 have k8:=iz.out.cell 8
 have k9:=iz.out.cell 9
 have n6:=iz.out.cell 10
 have nW:=iz.out.cell 11
 have pO:∀ W,(Op.equalIn 10000 67 (.agg #[.int .u64 (z0:Int),.int .u64 (z1:Int),.int .u64 (z2:Int),.int .u64 (z3:Int)]) (.agg #[.int .u64 0,.int .u64 0,.int .u64 0,.int .u64 0])).run Tryd.prog W = .ok false W:=fun W=>(eqE W j.z 0 Hz dig0).trans (by rw [decide_eq_false ox.out])
 have b2:=lD.out.cell 2
 go_wp2_with fail
 go_simp
 go_wp2_with fail
 have fi:Below u0.heap.size u0 u0:=Below.refl _ _
 refine (mulE u0 (oU.out.under fi) j.z j.z Hz Hz (by rw [←nA.out];exact jI.out)).mono ?_
 rintro e oL ⟨rfl,ab⟩
 have fK:=fi.trans (ab.mono fi.size)
 clear ab fi
 clear k8 k9 n6 nW pO b2
 go_wp2_with fail
 obtain ⟨u1,hu⟩:∃ W,W=oL.alloc (.cells #[.int .u64 (qT:Int),.int .u64 (qL:Int),.int .u64 (qw:Int),.int .u64 (qC:Int)] 67):=⟨_,rfl⟩
 obtain ⟨g5,hg⟩:∃ g,g=oL.heap.size:=⟨_,rfl⟩
 rw [←hu,←hg]
 have oo:u0.heap.size≤g5:=by rw [hg];exact fK.size
 have bY:Below u0.heap.size u0 u1:=by rw [hu];exact fK.alloc fK.size _
 have kz:NumOr u1 g5 (some (en zz)):=by
  show Holds _ _ _ (nums .u64 (nm (en zz)))
  rw [nv_of jI.out,hu,hg]
  exact Holds.fresh _ _ _
 have lf:Hid (((Holds u1 w.heap.size 69 #[.int .u64 (x0:Int),.int .u64 (x1:Int),.int .u64 (x2:Int),.int .u64 (x3:Int),.int .u64 (y0:Int),.int .u64 (y1:Int),.int .u64 (y2:Int),.int .u64 (y3:Int),.int .u64 (z0:Int),.int .u64 (z1:Int),.int .u64 (z2:Int),.int .u64 (z3:Int)])∧(Holds u1 (w.heap.size+1+1) 69 #[.int .u64 0,.int .u64 0,.int .u64 0,.int .u64 0,.int .u64 0,.int .u64 0,.int .u64 0,.int .u64 0,.int .u64 0,.int .u64 0,.int .u64 0,.int .u64 0])∧(Below w.heap.size w u1)∧(CMet u1)∧(Holds u1 (w.heap.size+1) 26 #[.slice Ax lx.length cx,.slice Ay ly.length cy,.bool false])∧(Rd .u32 u1 u1.heap.size Ax cx lx)∧(Rd .u32 u1 u1.heap.size Ay cy ly))∧(NumOr u1 g5 (some (en zz)))∧(w.heap.size+1+1<g5)):=lH ⟨⟨iz.out.under bY (Holds.lt iz),lW.out.under bY (Holds.lt lW),mK.out.trans (bY.mono mK.out.size),oU.out.under bY,lD.out.under bY (Holds.lt lD),(pb.out.under bY).more bY.size,(pd.out.under bY).more bY.size⟩,kz,(by have h1:=Holds.lt lW.out;have h2:=oo;omega)⟩
 clear oo bY kz hu hg fK iz lW mK oU lD pb pd Hz ox nA jI ie
 obtain ⟨ru,om⟩:∃ Q:Exit→Act→World→Prop,Hid (Q=fun e a W=>e = .normal∧∃ (g6:Nat),a.tmps=#[tG a 0,tG a 1,.pointer (some ⟨w.heap.size,0,none⟩),.pointer (some ⟨w.heap.size+1,0,none⟩),.pointer (some ⟨w.heap.size+1+1,0,none⟩),.pointer (some ⟨g5,0,none⟩),.pointer (some ⟨g6,0,none⟩),tG a 7,tG a 8,tG a 9,tG a 10,tG a 11,tG a 12,tG a 13,tG a 14,tG a 15,tG a 16,tG a 17,tG a 18,tG a 19,tG a 20,tG a 21,tG a 22,tG a 23,tG a 24,tG a 25,tG a 26,tG a 27,tG a 28,tG a 29,tG a 30,tG a 31,tG a 32,tG a 33,tG a 34,tG a 35,tG a 36,tG a 37,tG a 38,tG a 39,tG a 40,tG a 41,tG a 42,tG a 43,tG a 44,tG a 45,tG a 46,tG a 47,tG a 48,tG a 49,tG a 50,tG a 51,tG a 52,tG a 53,tG a 54,tG a 55,tG a 56,tG a 57,tG a 58,tG a 59,tG a 60,tG a 61,tG a 62,tG a 63,tG a 64,tG a 65,tG a 66,tG a 67,tG a 68,tG a 69,tG a 70,tG a 71,tG a 72,tG a 73,tG a 74,tG a 75,tG a 76,tG a 77,tG a 78,tG a 79,tG a 80,tG a 81,tG a 82,tG a 83,tG a 84,tG a 85,tG a 86,tG a 87,tG a 88,tG a 89]∧a.defers=[]∧(((Holds W w.heap.size 69 #[.int .u64 (x0:Int),.int .u64 (x1:Int),.int .u64 (x2:Int),.int .u64 (x3:Int),.int .u64 (y0:Int),.int .u64 (y1:Int),.int .u64 (y2:Int),.int .u64 (y3:Int),.int .u64 (z0:Int),.int .u64 (z1:Int),.int .u64 (z2:Int),.int .u64 (z3:Int)])∧(Holds W (w.heap.size+1+1) 69 #[.int .u64 0,.int .u64 0,.int .u64 0,.int .u64 0,.int .u64 0,.int .u64 0,.int .u64 0,.int .u64 0,.int .u64 0,.int .u64 0,.int .u64 0,.int .u64 0])∧(Below w.heap.size w W)∧(CMet W)∧(Holds W (w.heap.size+1) 26 #[.slice Ax lx.length cx,.slice Ay ly.length cy,.bool false])∧(Rd .u32 W W.heap.size Ax cx lx)∧(Rd .u32 W W.heap.size Ay cy ly))∧(NumOr W g5 (some (en zz)))∧(w.heap.size+1+1<g5))∧(NumOr W g6 (some (en ah)))∧(w.heap.size+1+1<g6)):=⟨_,lH rfl⟩
 refine Code.wp_mono (Q:=ru) ?_ ?_
 rotate_left 1
 ·have pi:=lH (lf.out.1.1)
  have ol:=lH (lf.out.1.2.1)
  have qG:=lH (lf.out.1.2.2.1)
  have lT:=lH (lf.out.1.2.2.2.1)
  have pg:=lH (lf.out.1.2.2.2.2.1)
  have ql:=lH (lf.out.1.2.2.2.2.2.1)
  have rT:=lH (lf.out.1.2.2.2.2.2.2)
  have oE:=lH (lf.out.2.1)
  have bW:=lH (lf.out.2.2)
  have pr:=lH (FV.out.2.1)
  have pq:=lH (FV.out.2.2.2.1)
  have pn:=lH (FV.out.2.2.2.2.2.1)
  have Hx:=lH (FV.out.2.2.2.2.2.2.2.1)
  have oH:=lH (FU.out.2.1)
  have oa:=lH (FU.out.2.2.2.2.1)
  have nC:=lH (FU.out.2.2.2.2.2.1)
  have jI:=lH (FU.out.2.2.2.2.2.2.2.2.2.1)
  have n7:=lH (FU.out.2.2.2.2.2.2.2.2.2.2.1)
  have bC:=lH (FU.out.2.2.2.2.2.2.2.2.2.2.2.1)
  clear lf FV FU
  have HF:Hid (∀ W,Below u1.heap.size u1 W→((Holds W w.heap.size 69 #[.int .u64 (x0:Int),.int .u64 (x1:Int),.int .u64 (x2:Int),.int .u64 (x3:Int),.int .u64 (y0:Int),.int .u64 (y1:Int),.int .u64 (y2:Int),.int .u64 (y3:Int),.int .u64 (z0:Int),.int .u64 (z1:Int),.int .u64 (z2:Int),.int .u64 (z3:Int)])∧(Holds W (w.heap.size+1+1) 69 #[.int .u64 0,.int .u64 0,.int .u64 0,.int .u64 0,.int .u64 0,.int .u64 0,.int .u64 0,.int .u64 0,.int .u64 0,.int .u64 0,.int .u64 0,.int .u64 0])∧(Below w.heap.size w W)∧(CMet W)∧(Holds W (w.heap.size+1) 26 #[.slice Ax lx.length cx,.slice Ay ly.length cy,.bool false])∧(Rd .u32 W W.heap.size Ax cx lx)∧(Rd .u32 W W.heap.size Ay cy ly))∧(NumOr W g5 (some (en zz)))∧(w.heap.size+1+1<g5)):=lH fun W h=>⟨⟨pi.out.under h (Holds.lt pi),ol.out.under h (Holds.lt ol),qG.out.trans (h.mono qG.out.size),lT.out.under h,pg.out.under h (Holds.lt pg),(ql.out.under h).more h.size,(rT.out.under h).more h.size⟩,NumOr.under oE h,bW⟩
  refine wp_region_noPanic ?_
  refine wp_region_held_drew (S:=fun W=>Below u1.heap.size u1 W) (by kernel_rfl) ((Below.refl _ u1).drew) (fun hHeld=>?_)
  obtain ⟨V,hV⟩:∃ W,W=u1.drew:=⟨_,rfl⟩
  rw [←hV]
  have ay:Hid (Below u1.heap.size u1 V):=lH (by rw [hV];exact (Below.refl _ u1).drew)
  replace hHeld:(fun W=>Below u1.heap.size u1 W) V:=ay.out
  clear hV
  refine tz 0 ⟨some 27,.fieldAddr 26 (.tmp 3) 0,0,_,_,none⟩ rfl hHeld ?_
  try simp only [aP]
  refine tk 1 ⟨some 28,.load 24 (.tmp 27),24,_,_,none⟩ ?_ rfl ?_ hHeld ?_
  rotate_left 1
  ·(intro W hW;have qi:=pg.out.under hW (Holds.lt pg.out);have b0:=qi.cell 0;(try dsimp only at hW);go_simp;try with_reducible rfl)
  try simp only [aP]
  refine tk 3 ⟨some 30,.load 67 (.tmp 5),67,_,_,none⟩ ?_ rfl ?_ hHeld ?_
  rotate_left 1
  ·(intro W hW;have aT:=(NumOr.under oE.out hW).cells jI.out;obtain ⟨q0,q1,q2,q3⟩:=aT;(try dsimp only at hW);go_simp;try with_reducible rfl)
  try simp only [aP]
  refine tz 5 ⟨some 32,.fieldAddr 69 (.tmp 2) 0,0,_,_,none⟩ rfl hHeld ?_
  try simp only [aP]
  refine tk 6 ⟨some 33,.load 67 (.tmp 32),67,_,_,none⟩ ?_ rfl ?_ hHeld ?_
  rotate_left 1
  ·(intro W hW;have aM:=pi.out.under hW (Holds.lt pi.out);have k0:=aM.cell 0;have k1:=aM.cell 1;have k2:=aM.cell 2;have k3:=aM.cell 3;(try dsimp only at hW);go_simp;try with_reducible rfl)
  try simp only [aP]
  refine wpAnyH_ready (rs:=[2,8]) (by kernel_rfl) (by simp) ?_
  refine AllReadyH.cons (o:=⟨some 29,.call ⟨ .value (.func 54),#[.tmp 28],#[24]⟩,67,_,_,none⟩) rfl (fun K hK=>?_) ?_
  go_simp
  refine (enterN V (lT.out.under ay) u1.heap.size cx Ax lx ay.out.size (ql.out.under ay) pq pr (show nm (enc (val lx))=_ by rw [pn.out];exact oH.out)).mono ?_
  rintro e V2 ⟨rfl,ab⟩
  have ae:=lH (ay.out.trans (ab.mono ay.out.size))
  clear ab
  clear ay
  go_simp
  refine hK.out _ _ (ae.out) (fun hHeld=>?_)
  clear hK K
  try simp only [aP]
  refine wpAnyH_ready (rs:=[4,8]) (by kernel_rfl) (by simp) ?_
  refine AllReadyH.cons (o:=⟨some 31,.call ⟨ .value (.func 56),#[.tmp 29,.tmp 30],#[67,67]⟩,67,_,_,none⟩) rfl (fun K hK=>?_) ?_
  go_simp
  refine (mulE V2 (lT.out.under ae) pu zz oH jI (by rw [←oa.out];exact n7.out)).mono ?_
  rintro e nL ⟨rfl,ab⟩
  have aF:=lH (ae.out.trans (ab.mono ae.out.size))
  clear ab
  clear ae
  go_simp
  refine hK.out _ _ (aF.out) (fun hHeld=>?_)
  clear hK K
  try simp only [aP]
  refine wpAnyH_ready (rs:=[7,8]) (by kernel_rfl) (by simp) ?_
  refine AllReadyH.cons (o:=⟨some 34,.call ⟨ .value (.func 55),#[.tmp 31,.tmp 33],#[67,67]⟩,67,_,_,none⟩) rfl (fun K hK=>?_) ?_
  go_simp
  refine (subE nL (lT.out.under aF) m1 j.x n7 Hx (by rw [←nC.out];exact bC.out)).mono ?_
  rintro e oQ ⟨rfl,ab⟩
  have c_:=lH (aF.out.trans (ab.mono aF.out.size))
  clear ab
  clear aF
  go_simp
  refine hK.out _ _ (c_.out) (fun hHeld=>?_)
  clear hK K
  try simp only [aP]
  refine rdy 8 ⟨some 6,.alloc 67,0,_,_,none⟩ rfl (fun K hK=>?_)
  obtain ⟨k_,hN⟩:∃ W,W=oQ.alloc (.cells #[.int .u64 0,.int .u64 0,.int .u64 0,.int .u64 0] 67):=⟨_,rfl⟩
  go_simp
  rw [←hN]
  obtain ⟨g6,hg⟩:∃ g,g=oQ.heap.size:=⟨_,rfl⟩
  rw [←hg]
  have fQ:Hid (NumOr k_ g6 none):=lH (by rw [hN,hg];exact NumOr.fresh _)
  have fA:=lH (by rw [hN];exact c_.out.alloc c_.out.size _:Below u1.heap.size u1 k_)
  have lR:Hid (u1.heap.size≤g6):=lH (by rw [hg];exact c_.out.size)
  clear hN hg
  have aD:=lH (show w.heap.size+1+1<g6 from (by have h1:=Holds.lt ol.out;have h2:=lR.out;omega))
  clear c_
  refine hK.out _ _ (fA.out) (fun hHeld=>?_)
  clear hK K
  try simp only [aP]
  refine rdy 9 ⟨none,.store 67 (.tmp 6) (.tmp 34),0,_,_,none⟩ rfl (fun K hK=>?_)
  obtain ⟨ai,ao,am,ak,⟨z0,o0⟩,⟨z1,o1⟩,⟨z2,o2⟩,⟨z3,o3⟩⟩:=NumOr.facts fQ.out
  obtain ⟨kR,hN⟩:∃ W,W=((((k_.setCell ⟨g6,0,none⟩ (.int .u64 (nF:Int))).setCell ⟨g6,1,none⟩ (.int .u64 (n9:Int))).setCell ⟨g6,2,none⟩ (.int .u64 (nz:Int))).setCell ⟨g6,3,none⟩ (.int .u64 (nV:Int))):=⟨_,rfl⟩
  go_simp
  rw [←hN]
  have lk:Hid (NumOr kR g6 (some (en ah))):=lH (by rw [hN];exact NumOr.set fQ bC)
  have ia:=lH (by rw [hN];exact below4 fA lR _ _ _ _:Below u1.heap.size u1 kR)
  clear hN z0 o0 z1 o1 z2 o2 z3 o3 ai ao am ak
  clear fA fQ
  refine hK.out _ _ (ia.out) (fun hHeld=>?_)
  clear hK K
  try simp only [aP]
  refine dn ?_
  rw [om.out]
  exact ⟨rfl,g6,rfl,rfl,HF _ ia,lk,aD⟩
  refine AllReadyH.cons (o:=⟨some 6,.alloc 67,0,_,_,none⟩) rfl (fun K hK=>?_) AllReadyH.nil
  obtain ⟨iP,hN⟩:∃ W,W=nL.alloc (.cells #[.int .u64 0,.int .u64 0,.int .u64 0,.int .u64 0] 67):=⟨_,rfl⟩
  go_simp
  rw [←hN]
  obtain ⟨g6,hg⟩:∃ g,g=nL.heap.size:=⟨_,rfl⟩
  rw [←hg]
  have kh:Hid (NumOr iP g6 none):=lH (by rw [hN,hg];exact NumOr.fresh _)
  have aJ:=lH (by rw [hN];exact aF.out.alloc aF.out.size _:Below u1.heap.size u1 iP)
  have lR:Hid (u1.heap.size≤g6):=lH (by rw [hg];exact aF.out.size)
  clear hN hg
  have aD:=lH (show w.heap.size+1+1<g6 from (by have h1:=Holds.lt ol.out;have h2:=lR.out;omega))
  clear aF
  refine hK.out _ _ (aJ.out) (fun hHeld=>?_)
  clear hK K
  try simp only [aP]
  refine rdy 7 ⟨some 34,.call ⟨ .value (.func 55),#[.tmp 31,.tmp 33],#[67,67]⟩,67,_,_,none⟩ rfl (fun K hK=>?_)
  go_simp
  refine (subE iP (lT.out.under aJ) m1 j.x n7 Hx (by rw [←nC.out];exact bC.out)).mono ?_
  rintro e mw ⟨rfl,ab⟩
  have fl:=lH (aJ.out.trans (ab.mono aJ.out.size))
  have eR:Hid (NumOr mw g6 none):=lH (NumOr.under kh ab)
  clear ab
  clear aJ kh
  go_simp
  refine hK.out _ _ (fl.out) (fun hHeld=>?_)
  clear hK K
  try simp only [aP]
  refine rdy 9 ⟨none,.store 67 (.tmp 6) (.tmp 34),0,_,_,none⟩ rfl (fun K hK=>?_)
  obtain ⟨ai,ao,am,ak,⟨z0,o0⟩,⟨z1,o1⟩,⟨z2,o2⟩,⟨z3,o3⟩⟩:=NumOr.facts eR.out
  obtain ⟨kq,hN⟩:∃ W,W=((((mw.setCell ⟨g6,0,none⟩ (.int .u64 (nF:Int))).setCell ⟨g6,1,none⟩ (.int .u64 (n9:Int))).setCell ⟨g6,2,none⟩ (.int .u64 (nz:Int))).setCell ⟨g6,3,none⟩ (.int .u64 (nV:Int))):=⟨_,rfl⟩
  go_simp
  rw [←hN]
  have kH:Hid (NumOr kq g6 (some (en ah))):=lH (by rw [hN];exact NumOr.set eR bC)
  have gl:=lH (by rw [hN];exact below4 fl lR _ _ _ _:Below u1.heap.size u1 kq)
  clear hN z0 o0 z1 o1 z2 o2 z3 o3 ai ao am ak
  clear fl eR
  refine hK.out _ _ (gl.out) (fun hHeld=>?_)
  clear hK K
  try simp only [aP]
  refine dn ?_
  rw [om.out]
  exact ⟨rfl,g6,rfl,rfl,HF _ gl,kH,aD⟩
  refine AllReadyH.cons (o:=⟨some 6,.alloc 67,0,_,_,none⟩) rfl (fun K hK=>?_) AllReadyH.nil
  obtain ⟨j4,hN⟩:∃ W,W=V2.alloc (.cells #[.int .u64 0,.int .u64 0,.int .u64 0,.int .u64 0] 67):=⟨_,rfl⟩
  go_simp
  rw [←hN]
  obtain ⟨g6,hg⟩:∃ g,g=V2.heap.size:=⟨_,rfl⟩
  rw [←hg]
  have mJ:Hid (NumOr j4 g6 none):=lH (by rw [hN,hg];exact NumOr.fresh _)
  have az:=lH (by rw [hN];exact ae.out.alloc ae.out.size _:Below u1.heap.size u1 j4)
  have lR:Hid (u1.heap.size≤g6):=lH (by rw [hg];exact ae.out.size)
  clear hN hg
  have aD:=lH (show w.heap.size+1+1<g6 from (by have h1:=Holds.lt ol.out;have h2:=lR.out;omega))
  clear ae
  refine hK.out _ _ (az.out) (fun hHeld=>?_)
  clear hK K
  try simp only [aP]
  refine rdy 4 ⟨some 31,.call ⟨ .value (.func 56),#[.tmp 29,.tmp 30],#[67,67]⟩,67,_,_,none⟩ rfl (fun K hK=>?_)
  go_simp
  refine (mulE j4 (lT.out.under az) pu zz oH jI (by rw [←oa.out];exact n7.out)).mono ?_
  rintro e lQ ⟨rfl,ab⟩
  have aH:=lH (az.out.trans (ab.mono az.out.size))
  have kk:Hid (NumOr lQ g6 none):=lH (NumOr.under mJ ab)
  clear ab
  clear az mJ
  go_simp
  refine hK.out _ _ (aH.out) (fun hHeld=>?_)
  clear hK K
  try simp only [aP]
  refine rdy 7 ⟨some 34,.call ⟨ .value (.func 55),#[.tmp 31,.tmp 33],#[67,67]⟩,67,_,_,none⟩ rfl (fun K hK=>?_)
  go_simp
  refine (subE lQ (lT.out.under aH) m1 j.x n7 Hx (by rw [←nC.out];exact bC.out)).mono ?_
  rintro e mD ⟨rfl,ab⟩
  have eM:=lH (aH.out.trans (ab.mono aH.out.size))
  have fN:Hid (NumOr mD g6 none):=lH (NumOr.under kk ab)
  clear ab
  clear aH kk
  go_simp
  refine hK.out _ _ (eM.out) (fun hHeld=>?_)
  clear hK K
  try simp only [aP]
  refine rdy 9 ⟨none,.store 67 (.tmp 6) (.tmp 34),0,_,_,none⟩ rfl (fun K hK=>?_)
  obtain ⟨ai,ao,am,ak,⟨z0,o0⟩,⟨z1,o1⟩,⟨z2,o2⟩,⟨z3,o3⟩⟩:=NumOr.facts fN.out
  obtain ⟨kt,hN⟩:∃ W,W=((((mD.setCell ⟨g6,0,none⟩ (.int .u64 (nF:Int))).setCell ⟨g6,1,none⟩ (.int .u64 (n9:Int))).setCell ⟨g6,2,none⟩ (.int .u64 (nz:Int))).setCell ⟨g6,3,none⟩ (.int .u64 (nV:Int))):=⟨_,rfl⟩
  go_simp
  rw [←hN]
  have lA:Hid (NumOr kt g6 (some (en ah))):=lH (by rw [hN];exact NumOr.set fN bC)
  have gF:=lH (by rw [hN];exact below4 eM lR _ _ _ _:Below u1.heap.size u1 kt)
  clear hN z0 o0 z1 o1 z2 o2 z3 o3 ai ao am ak
  clear eM fN
  refine hK.out _ _ (gF.out) (fun hHeld=>?_)
  clear hK K
  try simp only [aP]
  refine dn ?_
  rw [om.out]
  exact ⟨rfl,g6,rfl,rfl,HF _ gF,lA,aD⟩
  refine AllReadyH.cons (o:=⟨some 6,.alloc 67,0,_,_,none⟩) rfl (fun K hK=>?_) AllReadyH.nil
  obtain ⟨V8,hN⟩:∃ W,W=V.alloc (.cells #[.int .u64 0,.int .u64 0,.int .u64 0,.int .u64 0] 67):=⟨_,rfl⟩
  go_simp
  rw [←hN]
  obtain ⟨g6,hg⟩:∃ g,g=V.heap.size:=⟨_,rfl⟩
  rw [←hg]
  have oW:Hid (NumOr V8 g6 none):=lH (by rw [hN,hg];exact NumOr.fresh _)
  have aK:=lH (by rw [hN];exact ay.out.alloc ay.out.size _:Below u1.heap.size u1 V8)
  have lR:Hid (u1.heap.size≤g6):=lH (by rw [hg];exact ay.out.size)
  clear hN hg
  have aD:=lH (show w.heap.size+1+1<g6 from (by have h1:=Holds.lt ol.out;have h2:=lR.out;omega))
  clear ay
  refine hK.out _ _ (aK.out) (fun hHeld=>?_)
  clear hK K
  try simp only [aP]
  refine rdy 2 ⟨some 29,.call ⟨ .value (.func 54),#[.tmp 28],#[24]⟩,67,_,_,none⟩ rfl (fun K hK=>?_)
  go_simp
  refine (enterN V8 (lT.out.under aK) u1.heap.size cx Ax lx aK.out.size (ql.out.under aK) pq pr (show nm (enc (val lx))=_ by rw [pn.out];exact oH.out)).mono ?_
  rintro e lV ⟨rfl,ab⟩
  have aA:=lH (aK.out.trans (ab.mono aK.out.size))
  have mY:Hid (NumOr lV g6 none):=lH (NumOr.under oW ab)
  clear ab
  clear aK oW
  go_simp
  refine hK.out _ _ (aA.out) (fun hHeld=>?_)
  clear hK K
  try simp only [aP]
  refine rdy 4 ⟨some 31,.call ⟨ .value (.func 56),#[.tmp 29,.tmp 30],#[67,67]⟩,67,_,_,none⟩ rfl (fun K hK=>?_)
  go_simp
  refine (mulE lV (lT.out.under aA) pu zz oH jI (by rw [←oa.out];exact n7.out)).mono ?_
  rintro e kL ⟨rfl,ab⟩
  have aL:=lH (aA.out.trans (ab.mono aA.out.size))
  have kO:Hid (NumOr kL g6 none):=lH (NumOr.under mY ab)
  clear ab
  clear aA mY
  go_simp
  refine hK.out _ _ (aL.out) (fun hHeld=>?_)
  clear hK K
  try simp only [aP]
  refine rdy 7 ⟨some 34,.call ⟨ .value (.func 55),#[.tmp 31,.tmp 33],#[67,67]⟩,67,_,_,none⟩ rfl (fun K hK=>?_)
  go_simp
  refine (subE kL (lT.out.under aL) m1 j.x n7 Hx (by rw [←nC.out];exact bC.out)).mono ?_
  rintro e mj ⟨rfl,ab⟩
  have eL:=lH (aL.out.trans (ab.mono aL.out.size))
  have eW:Hid (NumOr mj g6 none):=lH (NumOr.under kO ab)
  clear ab
  clear aL kO
  go_simp
  refine hK.out _ _ (eL.out) (fun hHeld=>?_)
  clear hK K
  try simp only [aP]
  refine rdy 9 ⟨none,.store 67 (.tmp 6) (.tmp 34),0,_,_,none⟩ rfl (fun K hK=>?_)
  obtain ⟨ai,ao,am,ak,⟨z0,o0⟩,⟨z1,o1⟩,⟨z2,o2⟩,⟨z3,o3⟩⟩:=NumOr.facts eW.out
  obtain ⟨kM,hN⟩:∃ W,W=((((mj.setCell ⟨g6,0,none⟩ (.int .u64 (nF:Int))).setCell ⟨g6,1,none⟩ (.int .u64 (n9:Int))).setCell ⟨g6,2,none⟩ (.int .u64 (nz:Int))).setCell ⟨g6,3,none⟩ (.int .u64 (nV:Int))):=⟨_,rfl⟩
  go_simp
  rw [←hN]
  have km:Hid (NumOr kM g6 (some (en ah))):=lH (by rw [hN];exact NumOr.set eW bC)
  have gm:=lH (by rw [hN];exact below4 eL lR _ _ _ _:Below u1.heap.size u1 kM)
  clear hN z0 o0 z1 o1 z2 o2 z3 o3 ai ao am ak
  clear eL eW
  refine hK.out _ _ (gm.out) (fun hHeld=>?_)
  clear hK K
  try simp only [aP]
  refine dn ?_
  rw [om.out]
  exact ⟨rfl,g6,rfl,rfl,HF _ gm,km,aD⟩
 rintro e a u2 hq
 rw [om.out] at hq
 obtain ⟨rfl,g6,eI,jz,jc⟩:=hq
 have jK:=lH jc
 clear jc om lf
 obtain ⟨tm,df⟩:=a
 dsimp only at eI jz
 subst jz
 obtain ⟨U,hU⟩:∃ U:Nat→Value,∀ i,tm.getD i undef=U i:=⟨_,fun _=>rfl⟩
 simp only [tG,hU] at eI
 clear hU
 subst eI
 go_step
 go_step
 (repeat (first | (apply wp_seq_k;intro _ _) | apply wp_block))
 obtain ⟨rL,nw⟩:∃ Q:Exit→Act→World→Prop,Hid (Q=fun e a W=>e = .normal∧∃ (g7:Nat),a.tmps=#[tG a 0,tG a 1,.pointer (some ⟨w.heap.size,0,none⟩),.pointer (some ⟨w.heap.size+1,0,none⟩),.pointer (some ⟨w.heap.size+1+1,0,none⟩),.pointer (some ⟨g5,0,none⟩),.pointer (some ⟨g6,0,none⟩),.pointer (some ⟨g7,0,none⟩),tG a 8,tG a 9,tG a 10,tG a 11,tG a 12,tG a 13,tG a 14,tG a 15,tG a 16,tG a 17,tG a 18,tG a 19,tG a 20,tG a 21,tG a 22,tG a 23,tG a 24,tG a 25,tG a 26,tG a 27,tG a 28,tG a 29,tG a 30,tG a 31,tG a 32,tG a 33,tG a 34,tG a 35,tG a 36,tG a 37,tG a 38,tG a 39,tG a 40,tG a 41,tG a 42,tG a 43,tG a 44,tG a 45,tG a 46,tG a 47,tG a 48,tG a 49,tG a 50,tG a 51,tG a 52,tG a 53,tG a 54,tG a 55,tG a 56,tG a 57,tG a 58,tG a 59,tG a 60,tG a 61,tG a 62,tG a 63,tG a 64,tG a 65,tG a 66,tG a 67,tG a 68,tG a 69,tG a 70,tG a 71,tG a 72,tG a 73,tG a 74,tG a 75,tG a 76,tG a 77,tG a 78,tG a 79,tG a 80,tG a 81,tG a 82,tG a 83,tG a 84,tG a 85,tG a 86,tG a 87,tG a 88,tG a 89]∧a.defers=[]∧((((Holds W w.heap.size 69 #[.int .u64 (x0:Int),.int .u64 (x1:Int),.int .u64 (x2:Int),.int .u64 (x3:Int),.int .u64 (y0:Int),.int .u64 (y1:Int),.int .u64 (y2:Int),.int .u64 (y3:Int),.int .u64 (z0:Int),.int .u64 (z1:Int),.int .u64 (z2:Int),.int .u64 (z3:Int)])∧(Holds W (w.heap.size+1+1) 69 #[.int .u64 0,.int .u64 0,.int .u64 0,.int .u64 0,.int .u64 0,.int .u64 0,.int .u64 0,.int .u64 0,.int .u64 0,.int .u64 0,.int .u64 0,.int .u64 0])∧(Below w.heap.size w W)∧(CMet W)∧(Holds W (w.heap.size+1) 26 #[.slice Ax lx.length cx,.slice Ay ly.length cy,.bool false])∧(Rd .u32 W W.heap.size Ax cx lx)∧(Rd .u32 W W.heap.size Ay cy ly))∧(NumOr W g5 (some (en zz)))∧(w.heap.size+1+1<g5))∧(NumOr W g6 (some (en ah)))∧(w.heap.size+1+1<g6))∧(NumOr W g7 (some (en ar)))∧(w.heap.size+1+1<g7)):=⟨_,lH rfl⟩
 refine Code.wp_mono (Q:=rL) ?_ ?_
 rotate_left 1
 ·have og:=lH (jK.out.1.1.1)
  have nT:=lH (jK.out.1.1.2.1)
  have qH:=lH (jK.out.1.1.2.2.1)
  have iA:=lH (jK.out.1.1.2.2.2.1)
  have po:=lH (jK.out.1.1.2.2.2.2.1)
  have sQ:=lH (jK.out.1.1.2.2.2.2.2.1)
  have pE:=lH (jK.out.1.1.2.2.2.2.2.2)
  have oO:=lH (jK.out.1.2.1)
  have bW:=lH (jK.out.1.2.2)
  have pM:=lH (jK.out.2.1)
  have bX:=lH (jK.out.2.2)
  have pf:=lH (FV.out.2.2.1)
  have pc:=lH (FV.out.2.2.2.2.1)
  have ph:=lH (FV.out.2.2.2.2.2.2.1)
  have Hy:=lH (FV.out.2.2.2.2.2.2.2.2.1)
  have Hz:=lH (FV.out.2.2.2.2.2.2.2.2.2.1)
  have od:=lH (FU.out.2.2.1)
  have jW:=lH (FU.out.2.2.2.2.2.2.1)
  have nY:=lH (FU.out.2.2.2.2.2.2.2.1)
  have mq:=lH (FU.out.2.2.2.2.2.2.2.2.1)
  have jI:=lH (FU.out.2.2.2.2.2.2.2.2.2.1)
  have iT:=lH (FU.out.2.2.2.2.2.2.2.2.2.2.2.2.1)
  have l8:=lH (FU.out.2.2.2.2.2.2.2.2.2.2.2.2.2.1)
  have bU:=lH (FU.out.2.2.2.2.2.2.2.2.2.2.2.2.2.2)
  clear jK FV FU
  have HF:Hid (∀ W,Below u2.heap.size u2 W→(((Holds W w.heap.size 69 #[.int .u64 (x0:Int),.int .u64 (x1:Int),.int .u64 (x2:Int),.int .u64 (x3:Int),.int .u64 (y0:Int),.int .u64 (y1:Int),.int .u64 (y2:Int),.int .u64 (y3:Int),.int .u64 (z0:Int),.int .u64 (z1:Int),.int .u64 (z2:Int),.int .u64 (z3:Int)])∧(Holds W (w.heap.size+1+1) 69 #[.int .u64 0,.int .u64 0,.int .u64 0,.int .u64 0,.int .u64 0,.int .u64 0,.int .u64 0,.int .u64 0,.int .u64 0,.int .u64 0,.int .u64 0,.int .u64 0])∧(Below w.heap.size w W)∧(CMet W)∧(Holds W (w.heap.size+1) 26 #[.slice Ax lx.length cx,.slice Ay ly.length cy,.bool false])∧(Rd .u32 W W.heap.size Ax cx lx)∧(Rd .u32 W W.heap.size Ay cy ly))∧(NumOr W g5 (some (en zz)))∧(w.heap.size+1+1<g5))∧(NumOr W g6 (some (en ah)))∧(w.heap.size+1+1<g6)):=lH fun W h=>⟨⟨⟨og.out.under h (Holds.lt og),nT.out.under h (Holds.lt nT),qH.out.trans (h.mono qH.out.size),iA.out.under h,po.out.under h (Holds.lt po),(sQ.out.under h).more h.size,(pE.out.under h).more h.size⟩,NumOr.under oO h,bW⟩,NumOr.under pM h,bX⟩
  refine wp_region_noPanic ?_
  refine wp_region_held_drew (S:=fun W=>Below u2.heap.size u2 W) (by kernel_rfl) ((Below.refl _ u2).drew) (fun hHeld=>?_)
  obtain ⟨V,hV⟩:∃ W,W=u2.drew:=⟨_,rfl⟩
  rw [←hV]
  have ay:Hid (Below u2.heap.size u2 V):=lH (by rw [hV];exact (Below.refl _ u2).drew)
  replace hHeld:(fun W=>Below u2.heap.size u2 W) V:=ay.out
  clear hV
  refine tz 0 ⟨some 35,.fieldAddr 26 (.tmp 3) 1,0,_,_,none⟩ rfl hHeld ?_
  try simp only [aP]
  refine tk 1 ⟨some 36,.load 24 (.tmp 35),24,_,_,none⟩ ?_ rfl ?_ hHeld ?_
  rotate_left 1
  ·(intro W hW;have qi:=po.out.under hW (Holds.lt po.out);have b1:=qi.cell 1;(try dsimp only at hW);go_simp;try with_reducible rfl)
  try simp only [aP]
  refine tk 3 ⟨some 38,.load 67 (.tmp 5),67,_,_,none⟩ ?_ rfl ?_ hHeld ?_
  rotate_left 1
  ·(intro W hW;have aT:=(NumOr.under oO.out hW).cells jI.out;obtain ⟨q0,q1,q2,q3⟩:=aT;(try dsimp only at hW);go_simp;try with_reducible rfl)
  try simp only [aP]
  refine tz 4 ⟨some 39,.fieldAddr 69 (.tmp 2) 2,0,_,_,none⟩ rfl hHeld ?_
  try simp only [aP]
  refine tk 5 ⟨some 40,.load 67 (.tmp 39),67,_,_,none⟩ ?_ rfl ?_ hHeld ?_
  rotate_left 1
  ·(intro W hW;have aM:=og.out.under hW (Holds.lt og.out);have k8:=aM.cell 8;have k9:=aM.cell 9;have n6:=aM.cell 10;have nW:=aM.cell 11;(try dsimp only at hW);go_simp;try with_reducible rfl)
  try simp only [aP]
  refine tz 8 ⟨some 43,.fieldAddr 69 (.tmp 2) 1,0,_,_,none⟩ rfl hHeld ?_
  try simp only [aP]
  refine tk 9 ⟨some 44,.load 67 (.tmp 43),67,_,_,none⟩ ?_ rfl ?_ hHeld ?_
  rotate_left 1
  ·(intro W hW;have aM:=og.out.under hW (Holds.lt og.out);have k4:=aM.cell 4;have k5:=aM.cell 5;have k6:=aM.cell 6;have k7:=aM.cell 7;(try dsimp only at hW);go_simp;try with_reducible rfl)
  try simp only [aP]
  refine wpAnyH_ready (rs:=[2,11]) (by kernel_rfl) (by simp) ?_
  refine AllReadyH.cons (o:=⟨some 37,.call ⟨ .value (.func 54),#[.tmp 36],#[24]⟩,67,_,_,none⟩) rfl (fun K hK=>?_) ?_
  go_simp
  refine (enterN V (iA.out.under ay) u2.heap.size cy Ay ly ay.out.size (pE.out.under ay) pc pf (show nm (enc (val ly))=_ by rw [ph.out];exact od.out)).mono ?_
  rintro e V2 ⟨rfl,ab⟩
  have ae:=lH (ay.out.trans (ab.mono ay.out.size))
  clear ab
  clear ay
  go_simp
  refine hK.out _ _ (ae.out) (fun hHeld=>?_)
  clear hK K
  try simp only [aP]
  refine wpAnyH_ready (rs:=[6,11]) (by kernel_rfl) (by simp) ?_
  refine AllReadyH.cons (o:=⟨some 41,.call ⟨ .value (.func 56),#[.tmp 38,.tmp 40],#[67,67]⟩,67,_,_,none⟩) rfl (fun K hK=>?_) ?_
  go_simp
  refine (mulE V2 (iA.out.under ae) zz j.z jI Hz (by rw [←jW.out];exact iT.out)).mono ?_
  rintro e ng ⟨rfl,ab⟩
  have aE:=lH (ae.out.trans (ab.mono ae.out.size))
  clear ab
  clear ae
  go_simp
  refine hK.out _ _ (aE.out) (fun hHeld=>?_)
  clear hK K
  try simp only [aP]
  refine wpAnyH_ready (rs:=[7,11]) (by kernel_rfl) (by simp) ?_
  refine AllReadyH.cons (o:=⟨some 42,.call ⟨ .value (.func 56),#[.tmp 37,.tmp 41],#[67,67]⟩,67,_,_,none⟩) rfl (fun K hK=>?_) ?_
  go_simp
  refine (mulE ng (iA.out.under aE) pv l7 od iT (by rw [←nY.out];exact l8.out)).mono ?_
  rintro e f6 ⟨rfl,ab⟩
  have aC:=lH (aE.out.trans (ab.mono aE.out.size))
  clear ab
  clear aE
  go_simp
  refine hK.out _ _ (aC.out) (fun hHeld=>?_)
  clear hK K
  try simp only [aP]
  refine wpAnyH_ready (rs:=[10,11]) (by kernel_rfl) (by simp) ?_
  refine AllReadyH.cons (o:=⟨some 45,.call ⟨ .value (.func 55),#[.tmp 42,.tmp 44],#[67,67]⟩,67,_,_,none⟩) rfl (fun K hK=>?_) ?_
  go_simp
  refine (subE f6 (iA.out.under aC) m2 j.y l8 Hy (by rw [←mq.out];exact bU.out)).mono ?_
  rintro e ml ⟨rfl,ab⟩
  have bk:=lH (aC.out.trans (ab.mono aC.out.size))
  clear ab
  clear aC
  go_simp
  refine hK.out _ _ (bk.out) (fun hHeld=>?_)
  clear hK K
  try simp only [aP]
  refine rdy 11 ⟨some 7,.alloc 67,0,_,_,none⟩ rfl (fun K hK=>?_)
  obtain ⟨iO,hN⟩:∃ W,W=ml.alloc (.cells #[.int .u64 0,.int .u64 0,.int .u64 0,.int .u64 0] 67):=⟨_,rfl⟩
  go_simp
  rw [←hN]
  obtain ⟨g7,hg⟩:∃ g,g=ml.heap.size:=⟨_,rfl⟩
  rw [←hg]
  have cH:Hid (NumOr iO g7 none):=lH (by rw [hN,hg];exact NumOr.fresh _)
  have cG:=lH (by rw [hN];exact bk.out.alloc bk.out.size _:Below u2.heap.size u2 iO)
  have i6:Hid (u2.heap.size≤g7):=lH (by rw [hg];exact bk.out.size)
  clear hN hg
  have aD:=lH (show w.heap.size+1+1<g7 from (by have h1:=Holds.lt nT.out;have h2:=i6.out;omega))
  clear bk
  refine hK.out _ _ (cG.out) (fun hHeld=>?_)
  clear hK K
  try simp only [aP]
  refine rdy 12 ⟨none,.store 67 (.tmp 7) (.tmp 45),0,_,_,none⟩ rfl (fun K hK=>?_)
  obtain ⟨ai,ao,am,ak,⟨z0,o0⟩,⟨z1,o1⟩,⟨z2,o2⟩,⟨z3,o3⟩⟩:=NumOr.facts cH.out
  obtain ⟨jG,hN⟩:∃ W,W=((((iO.setCell ⟨g7,0,none⟩ (.int .u64 (mQ:Int))).setCell ⟨g7,1,none⟩ (.int .u64 (mr:Int))).setCell ⟨g7,2,none⟩ (.int .u64 (mZ:Int))).setCell ⟨g7,3,none⟩ (.int .u64 (mW:Int))):=⟨_,rfl⟩
  go_simp
  rw [←hN]
  have jT:Hid (NumOr jG g7 (some (en ar))):=lH (by rw [hN];exact NumOr.set cH bU)
  have ev:=lH (by rw [hN];exact below4 cG i6 _ _ _ _:Below u2.heap.size u2 jG)
  clear hN z0 o0 z1 o1 z2 o2 z3 o3 ai ao am ak
  clear cG cH
  refine hK.out _ _ (ev.out) (fun hHeld=>?_)
  clear hK K
  try simp only [aP]
  refine dn ?_
  rw [nw.out]
  exact ⟨rfl,g7,rfl,rfl,HF _ ev,jT,aD⟩
  refine AllReadyH.cons (o:=⟨some 7,.alloc 67,0,_,_,none⟩) rfl (fun K hK=>?_) AllReadyH.nil
  obtain ⟨lI,hN⟩:∃ W,W=f6.alloc (.cells #[.int .u64 0,.int .u64 0,.int .u64 0,.int .u64 0] 67):=⟨_,rfl⟩
  go_simp
  rw [←hN]
  obtain ⟨g7,hg⟩:∃ g,g=f6.heap.size:=⟨_,rfl⟩
  rw [←hg]
  have jp:Hid (NumOr lI g7 none):=lH (by rw [hN,hg];exact NumOr.fresh _)
  have aU:=lH (by rw [hN];exact aC.out.alloc aC.out.size _:Below u2.heap.size u2 lI)
  have i6:Hid (u2.heap.size≤g7):=lH (by rw [hg];exact aC.out.size)
  clear hN hg
  have aD:=lH (show w.heap.size+1+1<g7 from (by have h1:=Holds.lt nT.out;have h2:=i6.out;omega))
  clear aC
  refine hK.out _ _ (aU.out) (fun hHeld=>?_)
  clear hK K
  try simp only [aP]
  refine rdy 10 ⟨some 45,.call ⟨ .value (.func 55),#[.tmp 42,.tmp 44],#[67,67]⟩,67,_,_,none⟩ rfl (fun K hK=>?_)
  go_simp
  refine (subE lI (iA.out.under aU) m2 j.y l8 Hy (by rw [←mq.out];exact bU.out)).mono ?_
  rintro e ky ⟨rfl,ab⟩
  have bZ:=lH (aU.out.trans (ab.mono aU.out.size))
  have dJ:Hid (NumOr ky g7 none):=lH (NumOr.under jp ab)
  clear ab
  clear aU jp
  go_simp
  refine hK.out _ _ (bZ.out) (fun hHeld=>?_)
  clear hK K
  try simp only [aP]
  refine rdy 12 ⟨none,.store 67 (.tmp 7) (.tmp 45),0,_,_,none⟩ rfl (fun K hK=>?_)
  obtain ⟨ai,ao,am,ak,⟨z0,o0⟩,⟨z1,o1⟩,⟨z2,o2⟩,⟨z3,o3⟩⟩:=NumOr.facts dJ.out
  obtain ⟨jr,hN⟩:∃ W,W=((((ky.setCell ⟨g7,0,none⟩ (.int .u64 (mQ:Int))).setCell ⟨g7,1,none⟩ (.int .u64 (mr:Int))).setCell ⟨g7,2,none⟩ (.int .u64 (mZ:Int))).setCell ⟨g7,3,none⟩ (.int .u64 (mW:Int))):=⟨_,rfl⟩
  go_simp
  rw [←hN]
  have kd:Hid (NumOr jr g7 (some (en ar))):=lH (by rw [hN];exact NumOr.set dJ bU)
  have ee:=lH (by rw [hN];exact below4 bZ i6 _ _ _ _:Below u2.heap.size u2 jr)
  clear hN z0 o0 z1 o1 z2 o2 z3 o3 ai ao am ak
  clear bZ dJ
  refine hK.out _ _ (ee.out) (fun hHeld=>?_)
  clear hK K
  try simp only [aP]
  refine dn ?_
  rw [nw.out]
  exact ⟨rfl,g7,rfl,rfl,HF _ ee,kd,aD⟩
  refine AllReadyH.cons (o:=⟨some 7,.alloc 67,0,_,_,none⟩) rfl (fun K hK=>?_) AllReadyH.nil
  obtain ⟨nX,hN⟩:∃ W,W=ng.alloc (.cells #[.int .u64 0,.int .u64 0,.int .u64 0,.int .u64 0] 67):=⟨_,rfl⟩
  go_simp
  rw [←hN]
  obtain ⟨g7,hg⟩:∃ g,g=ng.heap.size:=⟨_,rfl⟩
  rw [←hg]
  have kT:Hid (NumOr nX g7 none):=lH (by rw [hN,hg];exact NumOr.fresh _)
  have dV:=lH (by rw [hN];exact aE.out.alloc aE.out.size _:Below u2.heap.size u2 nX)
  have i6:Hid (u2.heap.size≤g7):=lH (by rw [hg];exact aE.out.size)
  clear hN hg
  have aD:=lH (show w.heap.size+1+1<g7 from (by have h1:=Holds.lt nT.out;have h2:=i6.out;omega))
  clear aE
  refine hK.out _ _ (dV.out) (fun hHeld=>?_)
  clear hK K
  try simp only [aP]
  refine rdy 7 ⟨some 42,.call ⟨ .value (.func 56),#[.tmp 37,.tmp 41],#[67,67]⟩,67,_,_,none⟩ rfl (fun K hK=>?_)
  go_simp
  refine (mulE nX (iA.out.under dV) pv l7 od iT (by rw [←nY.out];exact l8.out)).mono ?_
  rintro e nh ⟨rfl,ab⟩
  have bd:=lH (dV.out.trans (ab.mono dV.out.size))
  have jf:Hid (NumOr nh g7 none):=lH (NumOr.under kT ab)
  clear ab
  clear dV kT
  go_simp
  refine hK.out _ _ (bd.out) (fun hHeld=>?_)
  clear hK K
  try simp only [aP]
  refine rdy 10 ⟨some 45,.call ⟨ .value (.func 55),#[.tmp 42,.tmp 44],#[67,67]⟩,67,_,_,none⟩ rfl (fun K hK=>?_)
  go_simp
  refine (subE nh (iA.out.under bd) m2 j.y l8 Hy (by rw [←mq.out];exact bU.out)).mono ?_
  rintro e lC ⟨rfl,ab⟩
  have cO:=lH (bd.out.trans (ab.mono bd.out.size))
  have cK:Hid (NumOr lC g7 none):=lH (NumOr.under jf ab)
  clear ab
  clear bd jf
  go_simp
  refine hK.out _ _ (cO.out) (fun hHeld=>?_)
  clear hK K
  try simp only [aP]
  refine rdy 12 ⟨none,.store 67 (.tmp 7) (.tmp 45),0,_,_,none⟩ rfl (fun K hK=>?_)
  obtain ⟨ai,ao,am,ak,⟨z0,o0⟩,⟨z1,o1⟩,⟨z2,o2⟩,⟨z3,o3⟩⟩:=NumOr.facts cK.out
  obtain ⟨jF,hN⟩:∃ W,W=((((lC.setCell ⟨g7,0,none⟩ (.int .u64 (mQ:Int))).setCell ⟨g7,1,none⟩ (.int .u64 (mr:Int))).setCell ⟨g7,2,none⟩ (.int .u64 (mZ:Int))).setCell ⟨g7,3,none⟩ (.int .u64 (mW:Int))):=⟨_,rfl⟩
  go_simp
  rw [←hN]
  have j6:Hid (NumOr jF g7 (some (en ar))):=lH (by rw [hN];exact NumOr.set cK bU)
  have ed:=lH (by rw [hN];exact below4 cO i6 _ _ _ _:Below u2.heap.size u2 jF)
  clear hN z0 o0 z1 o1 z2 o2 z3 o3 ai ao am ak
  clear cO cK
  refine hK.out _ _ (ed.out) (fun hHeld=>?_)
  clear hK K
  try simp only [aP]
  refine dn ?_
  rw [nw.out]
  exact ⟨rfl,g7,rfl,rfl,HF _ ed,j6,aD⟩
  refine AllReadyH.cons (o:=⟨some 7,.alloc 67,0,_,_,none⟩) rfl (fun K hK=>?_) AllReadyH.nil
  obtain ⟨pK,hN⟩:∃ W,W=V2.alloc (.cells #[.int .u64 0,.int .u64 0,.int .u64 0,.int .u64 0] 67):=⟨_,rfl⟩
  go_simp
  rw [←hN]
  obtain ⟨g7,hg⟩:∃ g,g=V2.heap.size:=⟨_,rfl⟩
  rw [←hg]
  have mC:Hid (NumOr pK g7 none):=lH (by rw [hN,hg];exact NumOr.fresh _)
  have hM:=lH (by rw [hN];exact ae.out.alloc ae.out.size _:Below u2.heap.size u2 pK)
  have i6:Hid (u2.heap.size≤g7):=lH (by rw [hg];exact ae.out.size)
  clear hN hg
  have aD:=lH (show w.heap.size+1+1<g7 from (by have h1:=Holds.lt nT.out;have h2:=i6.out;omega))
  clear ae
  refine hK.out _ _ (hM.out) (fun hHeld=>?_)
  clear hK K
  try simp only [aP]
  refine rdy 6 ⟨some 41,.call ⟨ .value (.func 56),#[.tmp 38,.tmp 40],#[67,67]⟩,67,_,_,none⟩ rfl (fun K hK=>?_)
  go_simp
  refine (mulE pK (iA.out.under hM) zz j.z jI Hz (by rw [←jW.out];exact iT.out)).mono ?_
  rintro e oT ⟨rfl,ab⟩
  have cN:=lH (hM.out.trans (ab.mono hM.out.size))
  have kK:Hid (NumOr oT g7 none):=lH (NumOr.under mC ab)
  clear ab
  clear hM mC
  go_simp
  refine hK.out _ _ (cN.out) (fun hHeld=>?_)
  clear hK K
  try simp only [aP]
  refine rdy 7 ⟨some 42,.call ⟨ .value (.func 56),#[.tmp 37,.tmp 41],#[67,67]⟩,67,_,_,none⟩ rfl (fun K hK=>?_)
  go_simp
  refine (mulE oT (iA.out.under cN) pv l7 od iT (by rw [←nY.out];exact l8.out)).mono ?_
  rintro e nk ⟨rfl,ab⟩
  have a_:=lH (cN.out.trans (ab.mono cN.out.size))
  have jE:Hid (NumOr nk g7 none):=lH (NumOr.under kK ab)
  clear ab
  clear cN kK
  go_simp
  refine hK.out _ _ (a_.out) (fun hHeld=>?_)
  clear hK K
  try simp only [aP]
  refine rdy 10 ⟨some 45,.call ⟨ .value (.func 55),#[.tmp 42,.tmp 44],#[67,67]⟩,67,_,_,none⟩ rfl (fun K hK=>?_)
  go_simp
  refine (subE nk (iA.out.under a_) m2 j.y l8 Hy (by rw [←mq.out];exact bU.out)).mono ?_
  rintro e kA ⟨rfl,ab⟩
  have cD:=lH (a_.out.trans (ab.mono a_.out.size))
  have ds:Hid (NumOr kA g7 none):=lH (NumOr.under jE ab)
  clear ab
  clear a_ jE
  go_simp
  refine hK.out _ _ (cD.out) (fun hHeld=>?_)
  clear hK K
  try simp only [aP]
  refine rdy 12 ⟨none,.store 67 (.tmp 7) (.tmp 45),0,_,_,none⟩ rfl (fun K hK=>?_)
  obtain ⟨ai,ao,am,ak,⟨z0,o0⟩,⟨z1,o1⟩,⟨z2,o2⟩,⟨z3,o3⟩⟩:=NumOr.facts ds.out
  obtain ⟨jl,hN⟩:∃ W,W=((((kA.setCell ⟨g7,0,none⟩ (.int .u64 (mQ:Int))).setCell ⟨g7,1,none⟩ (.int .u64 (mr:Int))).setCell ⟨g7,2,none⟩ (.int .u64 (mZ:Int))).setCell ⟨g7,3,none⟩ (.int .u64 (mW:Int))):=⟨_,rfl⟩
  go_simp
  rw [←hN]
  have jJ:Hid (NumOr jl g7 (some (en ar))):=lH (by rw [hN];exact NumOr.set ds bU)
  have d_:=lH (by rw [hN];exact below4 cD i6 _ _ _ _:Below u2.heap.size u2 jl)
  clear hN z0 o0 z1 o1 z2 o2 z3 o3 ai ao am ak
  clear cD ds
  refine hK.out _ _ (d_.out) (fun hHeld=>?_)
  clear hK K
  try simp only [aP]
  refine dn ?_
  rw [nw.out]
  exact ⟨rfl,g7,rfl,rfl,HF _ d_,jJ,aD⟩
  refine AllReadyH.cons (o:=⟨some 7,.alloc 67,0,_,_,none⟩) rfl (fun K hK=>?_) AllReadyH.nil
  obtain ⟨Vb,hN⟩:∃ W,W=V.alloc (.cells #[.int .u64 0,.int .u64 0,.int .u64 0,.int .u64 0] 67):=⟨_,rfl⟩
  go_simp
  rw [←hN]
  obtain ⟨g7,hg⟩:∃ g,g=V.heap.size:=⟨_,rfl⟩
  rw [←hg]
  have oV:Hid (NumOr Vb g7 none):=lH (by rw [hN,hg];exact NumOr.fresh _)
  have iL:=lH (by rw [hN];exact ay.out.alloc ay.out.size _:Below u2.heap.size u2 Vb)
  have i6:Hid (u2.heap.size≤g7):=lH (by rw [hg];exact ay.out.size)
  clear hN hg
  have aD:=lH (show w.heap.size+1+1<g7 from (by have h1:=Holds.lt nT.out;have h2:=i6.out;omega))
  clear ay
  refine hK.out _ _ (iL.out) (fun hHeld=>?_)
  clear hK K
  try simp only [aP]
  refine rdy 2 ⟨some 37,.call ⟨ .value (.func 54),#[.tmp 36],#[24]⟩,67,_,_,none⟩ rfl (fun K hK=>?_)
  go_simp
  refine (enterN Vb (iA.out.under iL) u2.heap.size cy Ay ly iL.out.size (pE.out.under iL) pc pf (show nm (enc (val ly))=_ by rw [ph.out];exact od.out)).mono ?_
  rintro e qW ⟨rfl,ab⟩
  have gB:=lH (iL.out.trans (ab.mono iL.out.size))
  have mU:Hid (NumOr qW g7 none):=lH (NumOr.under oV ab)
  clear ab
  clear iL oV
  go_simp
  refine hK.out _ _ (gB.out) (fun hHeld=>?_)
  clear hK K
  try simp only [aP]
  refine rdy 6 ⟨some 41,.call ⟨ .value (.func 56),#[.tmp 38,.tmp 40],#[67,67]⟩,67,_,_,none⟩ rfl (fun K hK=>?_)
  go_simp
  refine (mulE qW (iA.out.under gB) zz j.z jI Hz (by rw [←jW.out];exact iT.out)).mono ?_
  rintro e oG ⟨rfl,ab⟩
  have cJ:=lH (gB.out.trans (ab.mono gB.out.size))
  have lj:Hid (NumOr oG g7 none):=lH (NumOr.under mU ab)
  clear ab
  clear gB mU
  go_simp
  refine hK.out _ _ (cJ.out) (fun hHeld=>?_)
  clear hK K
  try simp only [aP]
  refine rdy 7 ⟨some 42,.call ⟨ .value (.func 56),#[.tmp 37,.tmp 41],#[67,67]⟩,67,_,_,none⟩ rfl (fun K hK=>?_)
  go_simp
  refine (mulE oG (iA.out.under cJ) pv l7 od iT (by rw [←nY.out];exact l8.out)).mono ?_
  rintro e ns ⟨rfl,ab⟩
  have bs:=lH (cJ.out.trans (ab.mono cJ.out.size))
  have jC:Hid (NumOr ns g7 none):=lH (NumOr.under lj ab)
  clear ab
  clear cJ lj
  go_simp
  refine hK.out _ _ (bs.out) (fun hHeld=>?_)
  clear hK K
  try simp only [aP]
  refine rdy 10 ⟨some 45,.call ⟨ .value (.func 55),#[.tmp 42,.tmp 44],#[67,67]⟩,67,_,_,none⟩ rfl (fun K hK=>?_)
  go_simp
  refine (subE ns (iA.out.under bs) m2 j.y l8 Hy (by rw [←mq.out];exact bU.out)).mono ?_
  rintro e kC ⟨rfl,ab⟩
  have dS:=lH (bs.out.trans (ab.mono bs.out.size))
  have dc:Hid (NumOr kC g7 none):=lH (NumOr.under jC ab)
  clear ab
  clear bs jC
  go_simp
  refine hK.out _ _ (dS.out) (fun hHeld=>?_)
  clear hK K
  try simp only [aP]
  refine rdy 12 ⟨none,.store 67 (.tmp 7) (.tmp 45),0,_,_,none⟩ rfl (fun K hK=>?_)
  obtain ⟨ai,ao,am,ak,⟨z0,o0⟩,⟨z1,o1⟩,⟨z2,o2⟩,⟨z3,o3⟩⟩:=NumOr.facts dc.out
  obtain ⟨jk,hN⟩:∃ W,W=((((kC.setCell ⟨g7,0,none⟩ (.int .u64 (mQ:Int))).setCell ⟨g7,1,none⟩ (.int .u64 (mr:Int))).setCell ⟨g7,2,none⟩ (.int .u64 (mZ:Int))).setCell ⟨g7,3,none⟩ (.int .u64 (mW:Int))):=⟨_,rfl⟩
  go_simp
  rw [←hN]
  have j5:Hid (NumOr jk g7 (some (en ar))):=lH (by rw [hN];exact NumOr.set dc bU)
  have d9:=lH (by rw [hN];exact below4 dS i6 _ _ _ _:Below u2.heap.size u2 jk)
  clear hN z0 o0 z1 o1 z2 o2 z3 o3 ai ao am ak
  clear dS dc
  refine hK.out _ _ (d9.out) (fun hHeld=>?_)
  clear hK K
  try simp only [aP]
  refine dn ?_
  rw [nw.out]
  exact ⟨rfl,g7,rfl,rfl,HF _ d9,j5,aD⟩
 rintro e a u3 hq
 rw [nw.out] at hq
 obtain ⟨rfl,g7,eI,jz,jc⟩:=hq
 have dX:=lH jc
 clear jc nw jK
 obtain ⟨tm,df⟩:=a
 dsimp only at eI jz
 subst jz
 obtain ⟨U,hU⟩:∃ U:Nat→Value,∀ i,tm.getD i undef=U i:=⟨_,fun _=>rfl⟩
 simp only [tG,hU] at eI
 clear hU
 subst eI
 by_cases hcz:ah=0
 ·have oB:=lH (dX.out.1.1.1.1)
  have mu:=lH (dX.out.1.1.1.2.1)
  have nH:=lH (dX.out.1.1.1.2.2.1)
  have oM:=lH (dX.out.1.1.1.2.2.2.1)
  have kp:=lH (dX.out.1.2.1)
  have l9:=lH (dX.out.2.1)
  have Hx:=lH (FV.out.2.2.2.2.2.2.2.1)
  have Hy:=lH (FV.out.2.2.2.2.2.2.2.2.1)
  have Hz:=lH (FV.out.2.2.2.2.2.2.2.2.2.1)
  have PX:=lH (FV.out.2.2.2.2.2.2.2.2.2.2.1)
  have PY:=lH (FV.out.2.2.2.2.2.2.2.2.2.2.2.1)
  have PZ:=lH (FV.out.2.2.2.2.2.2.2.2.2.2.2.2)
  have ox:=lH (FU.out.1)
  have nA:=lH (FU.out.2.2.2.1)
  have oa:=lH (FU.out.2.2.2.2.1)
  have nC:=lH (FU.out.2.2.2.2.2.1)
  have jW:=lH (FU.out.2.2.2.2.2.2.1)
  have nY:=lH (FU.out.2.2.2.2.2.2.2.1)
  have mq:=lH (FU.out.2.2.2.2.2.2.2.2.1)
  have bC:=lH (FU.out.2.2.2.2.2.2.2.2.2.2.2.1)
  have bU:=lH (FU.out.2.2.2.2.2.2.2.2.2.2.2.2.2.2)
  clear dX FV FU
  have pR:∀ W,(Op.equalIn 10000 67 (.agg #[.int .u64 (nF:Int),.int .u64 (n9:Int),.int .u64 (nz:Int),.int .u64 (nV:Int)]) (.agg #[.int .u64 0,.int .u64 0,.int .u64 0,.int .u64 0])).run Tryd.prog W = .ok true W:=fun W=>(eqE W ah 0 bC dig0).trans (by rw [decide_eq_true hcz])
  obtain ⟨pB,pQ,pG,qk⟩:=kp.out.cells bC.out
  obtain ⟨sf,qY,r_,sH⟩:=l9.out.cells bU.out
  by_cases hr0:ar=0
  ·have qn:∀ W,(Op.equalIn 10000 67 (.agg #[.int .u64 (mQ:Int),.int .u64 (mr:Int),.int .u64 (mZ:Int),.int .u64 (mW:Int)]) (.agg #[.int .u64 0,.int .u64 0,.int .u64 0,.int .u64 0])).run Tryd.prog W = .ok true W:=fun W=>(eqE W ar 0 bU dig0).trans (by rw [decide_eq_true hr0])
   have id:Hid (Luc.pls j pu pv=Luc.dbl j):=lH (by
    unfold Luc.pls
    rw [if_neg ox.out]
    simp only
    rw [if_pos (by rw [←nA.out,←oa.out,←nC.out];exact hcz),if_pos (by rw [←nA.out,←jW.out,←nY.out,←mq.out];exact hr0)])
   have aM:=oB.out
   have k0:=aM.cell 0
   have k1:=aM.cell 1
   have k2:=aM.cell 2
   have k3:=aM.cell 3
   have k4:=aM.cell 4
   have k5:=aM.cell 5
   have k6:=aM.cell 6
   have k7:=aM.cell 7
   have k8:=aM.cell 8
   have k9:=aM.cell 9
   have n6:=aM.cell 10
   have nW:=aM.cell 11
   clear aM
   have rH:=lH (doubleE u3 oM j Hx Hy Hz (by rw [←id.out];exact PX.out) (by rw [←id.out];exact PY.out) (by rw [←id.out];exact PZ.out))
   go_step
   go_wp2_with fail
   go_simp
   go_wp2_with fail
   go_simp
   go_wp2_with fail
   refine rH.out.mono ?_
   rintro e uE ⟨rfl,ab⟩
   have HR:=lH (mu.out.under ab (Holds.lt mu))
   have HB:=lH (nH.out.trans (ab.mono nH.out.size))
   clear ab pR qn pB pQ pG qk sf qY r_ sH k0 k1 k2 k3 k4 k5 k6 k7 k8 k9 n6 nW
   have z0:=HR.out.cell 0
   have o0:=HR.out.open_ 0
   have z1:=HR.out.cell 1
   have o1:=HR.out.open_ 1
   have z2:=HR.out.cell 2
   have o2:=HR.out.open_ 2
   have z3:=HR.out.cell 3
   have o3:=HR.out.open_ 3
   have z4:=HR.out.cell 4
   have o4:=HR.out.open_ 4
   have z5:=HR.out.cell 5
   have o5:=HR.out.open_ 5
   have z6:=HR.out.cell 6
   have o6:=HR.out.open_ 6
   have z7:=HR.out.cell 7
   have o7:=HR.out.open_ 7
   have z8:=HR.out.cell 8
   have o8:=HR.out.open_ 8
   have z9:=HR.out.cell 9
   have o9:=HR.out.open_ 9
   have qs:=HR.out.cell 10
   have qo:=HR.out.open_ 10
   have qm:=HR.out.cell 11
   have qF:=HR.out.open_ 11
   go_wp2_with fail
   exact ret_wd (g:=w.heap.size+1+1) rfl rfl (set12 HR _ _ _ _ _ _ _ _ _ _ _ _) rfl ⟨rfl,below12 HB (by omega) _ _ _ _ _ _ _ _ _ _ _ _⟩
  ·have qn:∀ W,(Op.equalIn 10000 67 (.agg #[.int .u64 (mQ:Int),.int .u64 (mr:Int),.int .u64 (mZ:Int),.int .u64 (mW:Int)]) (.agg #[.int .u64 0,.int .u64 0,.int .u64 0,.int .u64 0])).run Tryd.prog W = .ok false W:=fun W=>(eqE W ar 0 bU dig0).trans (by rw [decide_eq_false hr0])
   have id:Hid (Luc.pls j pu pv=⟨0,0,0⟩):=lH (by
    unfold Luc.pls
    rw [if_neg ox.out]
    simp only
    rw [if_pos (by rw [←nA.out,←oa.out,←nC.out];exact hcz),if_neg (by rw [←nA.out,←jW.out,←nY.out,←mq.out];exact hr0)])
   have HR:=mu
   have HB:=nH
   have DX:Hid ([X0,X1,X2,X3]=[0,0,0,0]):=lH (by rw [←PX.out,id.out];exact dig0)
   have DY:Hid ([Y0,Y1,Y2,Y3]=[0,0,0,0]):=lH (by rw [←PY.out,id.out];exact dig0)
   have DZ:Hid ([Z0,Z1,Z2,Z3]=[0,0,0,0]):=lH (by rw [←PZ.out,id.out];exact dig0)
   have z0:=HR.out.cell 0
   have o0:=HR.out.open_ 0
   have z1:=HR.out.cell 1
   have o1:=HR.out.open_ 1
   have z2:=HR.out.cell 2
   have o2:=HR.out.open_ 2
   have z3:=HR.out.cell 3
   have o3:=HR.out.open_ 3
   have z4:=HR.out.cell 4
   have o4:=HR.out.open_ 4
   have z5:=HR.out.cell 5
   have o5:=HR.out.open_ 5
   have z6:=HR.out.cell 6
   have o6:=HR.out.open_ 6
   have z7:=HR.out.cell 7
   have o7:=HR.out.open_ 7
   have z8:=HR.out.cell 8
   have o8:=HR.out.open_ 8
   have z9:=HR.out.cell 9
   have o9:=HR.out.open_ 9
   have qs:=HR.out.cell 10
   have qo:=HR.out.open_ 10
   have qm:=HR.out.cell 11
   have qF:=HR.out.open_ 11
   go_step
   go_wp2_with fail
   go_simp
   go_wp2_with fail
   go_simp
   go_wp2_with fail
   refine ret_wd (g:=w.heap.size+1+1) rfl rfl (set12 HR _ _ _ _ _ _ _ _ _ _ _ _) rfl ⟨?_,below12 HB (by omega) _ _ _ _ _ _ _ _ _ _ _ _⟩
   have dx:=DX.out
   have dy:=DY.out
   have dz:=DZ.out
   simp only [List.cons.injEq,and_true] at dx dy dz
   obtain ⟨rfl,rfl,rfl,rfl⟩:=dx
   obtain ⟨rfl,rfl,rfl,rfl⟩:=dy
   obtain ⟨rfl,rfl,rfl,rfl⟩:=dz
   rfl
 obtain ⟨bh,kE⟩:∃ v,v=ah*ah:=⟨_,rfl⟩
 obtain ⟨ch,kD⟩:∃ v,v=bh*ah:=⟨_,rfl⟩
 obtain ⟨vv,ku⟩:∃ v,v=j.x*bh:=⟨_,rfl⟩
 obtain ⟨rr,ke⟩:∃ v,v=ar*ar:=⟨_,rfl⟩
 obtain ⟨s1,kY⟩:∃ v,v=rr - ch:=⟨_,rfl⟩
 obtain ⟨v2,lE⟩:∃ v,v=vv+vv:=⟨_,rfl⟩
 obtain ⟨X,nI⟩:∃ v,v=s1 - v2:=⟨_,rfl⟩
 obtain ⟨vx,kv⟩:∃ v,v=vv - X:=⟨_,rfl⟩
 obtain ⟨rv,lL⟩:∃ v,v=ar*vx:=⟨_,rfl⟩
 obtain ⟨yh,lK⟩:∃ v,v=j.y*ch:=⟨_,rfl⟩
 obtain ⟨Y,nP⟩:∃ v,v=rv - yh:=⟨_,rfl⟩
 obtain ⟨Z,nu⟩:∃ v,v=j.z*ah:=⟨_,rfl⟩
 obtain ⟨qJ,qp,qK,qP,mX⟩:=four (nm_len (en bh))
 obtain ⟨jU,jX,jY,jH,mO⟩:=four (nm_len (en ch))
 obtain ⟨kc,jV,j9,jN,mI⟩:=four (nm_len (en vv))
 obtain ⟨rJ,sT,sK,sW,mo⟩:=four (nm_len (en rr))
 obtain ⟨sO,sS,rI,rE,nl⟩:=four (nm_len (en s1))
 obtain ⟨rk,r7,rD,sD,m6⟩:=four (nm_len (en v2))
 obtain ⟨sG,sI,r9,rG,mf⟩:=four (nm_len (en vx))
 obtain ⟨rh,rB,sa,rQ,mh⟩:=four (nm_len (en rv))
 obtain ⟨sB,rl,rN,rz,m9⟩:=four (nm_len (en yh))
 have id:Hid (Luc.pls j pu pv=⟨X,Y,Z⟩):=lH (by
  unfold Luc.pls
  rw [if_neg FU.out.1]
  simp only
  rw [←FU.out.2.2.2.1,←FU.out.2.2.2.2.1,←FU.out.2.2.2.2.2.1,if_neg hcz,←FU.out.2.2.2.2.2.2.1,←FU.out.2.2.2.2.2.2.2.1,←FU.out.2.2.2.2.2.2.2.2.1,←kE,←kD,←ku,←ke,←kY,←lE,←nI,←kv,←lL,←lK,←nP,←nu])
 have oR:nm (en X)=[X0,X1,X2,X3]:=by rw [←FV.out.2.2.2.2.2.2.2.2.2.2.1,id.out]
 have oF:nm (en Y)=[Y0,Y1,Y2,Y3]:=by rw [←FV.out.2.2.2.2.2.2.2.2.2.2.2.1,id.out]
 have oD:nm (en Z)=[Z0,Z1,Z2,Z3]:=by rw [←FV.out.2.2.2.2.2.2.2.2.2.2.2.2,id.out]
 have FW:Hid ((bh=ah*ah)∧(ch=bh*ah)∧(vv=j.x*bh)∧(rr=ar*ar)∧(s1=rr - ch)∧(v2=vv+vv)∧(X=s1 - v2)∧(vx=vv - X)∧(rv=ar*vx)∧(yh=j.y*ch)∧(Y=rv - yh)∧(Z=j.z*ah)∧(nm (en bh)=[qJ,qp,qK,qP])∧(nm (en ch)=[jU,jX,jY,jH])∧(nm (en vv)=[kc,jV,j9,jN])∧(nm (en rr)=[rJ,sT,sK,sW])∧(nm (en s1)=[sO,sS,rI,rE])∧(nm (en v2)=[rk,r7,rD,sD])∧(nm (en X)=[X0,X1,X2,X3])∧(nm (en vx)=[sG,sI,r9,rG])∧(nm (en rv)=[rh,rB,sa,rQ])∧(nm (en yh)=[sB,rl,rN,rz])∧(nm (en Y)=[Y0,Y1,Y2,Y3])∧(nm (en Z)=[Z0,Z1,Z2,Z3])):=lH ⟨kE,kD,ku,ke,kY,lE,nI,kv,lL,lK,nP,nu,mX,mO,mI,mo,nl,m6,oR,mf,mh,m9,oF,oD⟩
 clear id kE mX kD mO ku mI ke mo kY nl lE m6 nI oR kv mf lL mh lK m9 nP oF nu oD
 have oB:=lH (dX.out.1.1.1.1)
 have mu:=lH (dX.out.1.1.1.2.1)
 have nH:=lH (dX.out.1.1.1.2.2.1)
 have oM:=lH (dX.out.1.1.1.2.2.2.1)
 have qd:=lH (dX.out.1.1.1.2.2.2.2.1)
 have qt:=lH (dX.out.1.1.1.2.2.2.2.2.1)
 have qD:=lH (dX.out.1.1.1.2.2.2.2.2.2)
 have ot:=lH (dX.out.1.1.2.1)
 have bW:=lH (dX.out.1.1.2.2)
 have kp:=lH (dX.out.1.2.1)
 have bX:=lH (dX.out.1.2.2)
 have l9:=lH (dX.out.2.1)
 have gt:=lH (dX.out.2.2)
 have bC:=lH (FU.out.2.2.2.2.2.2.2.2.2.2.2.1)
 have qr:=lH (FW.out.1)
 have dW:=lH (FW.out.2.2.2.2.2.2.2.2.2.2.2.2.1)
 obtain ⟨pB,pQ,pG,qk⟩:=kp.out.cells bC.out
 have pR:∀ W,(Op.equalIn 10000 67 (.agg #[.int .u64 (nF:Int),.int .u64 (n9:Int),.int .u64 (nz:Int),.int .u64 (nV:Int)]) (.agg #[.int .u64 0,.int .u64 0,.int .u64 0,.int .u64 0])).run Tryd.prog W = .ok false W:=fun W=>(eqE W ah 0 bC dig0).trans (by rw [decide_eq_false hcz])
 go_step
 go_wp2_with fail
 go_simp
 go_wp2_with fail
 have fi:Below u3.heap.size u3 u3:=Below.refl _ _
 refine (mulE u3 (oM.out.under fi) ah ah bC bC (by rw [←qr.out];exact dW.out)).mono ?_
 rintro e mE ⟨rfl,ab⟩
 have fK:=fi.trans (ab.mono fi.size)
 clear ab fi
 clear pB pQ pG qk pR
 go_wp2_with fail
 obtain ⟨u4,hu⟩:∃ W,W=mE.alloc (.cells #[.int .u64 (qJ:Int),.int .u64 (qp:Int),.int .u64 (qK:Int),.int .u64 (qP:Int)] 67):=⟨_,rfl⟩
 obtain ⟨g8,hg⟩:∃ g,g=mE.heap.size:=⟨_,rfl⟩
 rw [←hu,←hg]
 have oo:u3.heap.size≤g8:=by rw [hg];exact fK.size
 have bY:Below u3.heap.size u3 u4:=by rw [hu];exact fK.alloc fK.size _
 have kz:NumOr u4 g8 (some (en bh)):=by
  show Holds _ _ _ (nums .u64 (nm (en bh)))
  rw [nv_of dW.out,hu,hg]
  exact Holds.fresh _ _ _
 have gZ:Hid ((((((Holds u4 w.heap.size 69 #[.int .u64 (x0:Int),.int .u64 (x1:Int),.int .u64 (x2:Int),.int .u64 (x3:Int),.int .u64 (y0:Int),.int .u64 (y1:Int),.int .u64 (y2:Int),.int .u64 (y3:Int),.int .u64 (z0:Int),.int .u64 (z1:Int),.int .u64 (z2:Int),.int .u64 (z3:Int)])∧(Holds u4 (w.heap.size+1+1) 69 #[.int .u64 0,.int .u64 0,.int .u64 0,.int .u64 0,.int .u64 0,.int .u64 0,.int .u64 0,.int .u64 0,.int .u64 0,.int .u64 0,.int .u64 0,.int .u64 0])∧(Below w.heap.size w u4)∧(CMet u4)∧(Holds u4 (w.heap.size+1) 26 #[.slice Ax lx.length cx,.slice Ay ly.length cy,.bool false])∧(Rd .u32 u4 u4.heap.size Ax cx lx)∧(Rd .u32 u4 u4.heap.size Ay cy ly))∧(NumOr u4 g5 (some (en zz)))∧(w.heap.size+1+1<g5))∧(NumOr u4 g6 (some (en ah)))∧(w.heap.size+1+1<g6))∧(NumOr u4 g7 (some (en ar)))∧(w.heap.size+1+1<g7))∧(NumOr u4 g8 (some (en bh)))∧(w.heap.size+1+1<g8)):=lH ⟨⟨⟨⟨⟨oB.out.under bY (Holds.lt oB),mu.out.under bY (Holds.lt mu),nH.out.trans (bY.mono nH.out.size),oM.out.under bY,qd.out.under bY (Holds.lt qd),(qt.out.under bY).more bY.size,(qD.out.under bY).more bY.size⟩,NumOr.under ot bY,bW⟩,NumOr.under kp bY,bX⟩,NumOr.under l9 bY,gt⟩,kz,(by have h1:=Holds.lt mu.out;have h2:=oo;omega)⟩
 clear oo bY kz hu hg fK oB mu nH oM qd qt qD ot bW kp bX l9 gt bC qr dW dX
 obtain ⟨pF,a6⟩:∃ Q:Exit→Act→World→Prop,Hid (Q=fun e a W=>e = .normal∧∃ (g9 ac:Nat),a.tmps=#[tG a 0,tG a 1,.pointer (some ⟨w.heap.size,0,none⟩),.pointer (some ⟨w.heap.size+1,0,none⟩),.pointer (some ⟨w.heap.size+1+1,0,none⟩),.pointer (some ⟨g5,0,none⟩),.pointer (some ⟨g6,0,none⟩),.pointer (some ⟨g7,0,none⟩),.pointer (some ⟨g8,0,none⟩),.pointer (some ⟨g9,0,none⟩),.pointer (some ⟨ac,0,none⟩),tG a 11,tG a 12,tG a 13,tG a 14,tG a 15,tG a 16,tG a 17,tG a 18,tG a 19,tG a 20,tG a 21,tG a 22,tG a 23,tG a 24,tG a 25,tG a 26,tG a 27,tG a 28,tG a 29,tG a 30,tG a 31,tG a 32,tG a 33,tG a 34,tG a 35,tG a 36,tG a 37,tG a 38,tG a 39,tG a 40,tG a 41,tG a 42,tG a 43,tG a 44,tG a 45,tG a 46,tG a 47,tG a 48,tG a 49,tG a 50,tG a 51,tG a 52,tG a 53,tG a 54,tG a 55,tG a 56,tG a 57,tG a 58,tG a 59,tG a 60,tG a 61,tG a 62,tG a 63,tG a 64,tG a 65,tG a 66,tG a 67,tG a 68,tG a 69,tG a 70,tG a 71,tG a 72,tG a 73,tG a 74,tG a 75,tG a 76,tG a 77,tG a 78,tG a 79,tG a 80,tG a 81,tG a 82,tG a 83,tG a 84,tG a 85,tG a 86,tG a 87,tG a 88,tG a 89]∧a.defers=[]∧((((((Holds W w.heap.size 69 #[.int .u64 (x0:Int),.int .u64 (x1:Int),.int .u64 (x2:Int),.int .u64 (x3:Int),.int .u64 (y0:Int),.int .u64 (y1:Int),.int .u64 (y2:Int),.int .u64 (y3:Int),.int .u64 (z0:Int),.int .u64 (z1:Int),.int .u64 (z2:Int),.int .u64 (z3:Int)])∧(Holds W (w.heap.size+1+1) 69 #[.int .u64 0,.int .u64 0,.int .u64 0,.int .u64 0,.int .u64 0,.int .u64 0,.int .u64 0,.int .u64 0,.int .u64 0,.int .u64 0,.int .u64 0,.int .u64 0])∧(Below w.heap.size w W)∧(CMet W)∧(Holds W (w.heap.size+1) 26 #[.slice Ax lx.length cx,.slice Ay ly.length cy,.bool false])∧(Rd .u32 W W.heap.size Ax cx lx)∧(Rd .u32 W W.heap.size Ay cy ly))∧(NumOr W g5 (some (en zz)))∧(w.heap.size+1+1<g5))∧(NumOr W g6 (some (en ah)))∧(w.heap.size+1+1<g6))∧(NumOr W g7 (some (en ar)))∧(w.heap.size+1+1<g7))∧(NumOr W g8 (some (en bh)))∧(w.heap.size+1+1<g8))∧(NumOr W g9 (some (en ch)))∧(NumOr W ac (some (en vv)))∧(w.heap.size+1+1<g9)∧(w.heap.size+1+1<ac)):=⟨_,lH rfl⟩
 refine Code.wp_mono (Q:=pF) ?_ ?_
 rotate_left 1
 ·have pk:=lH (gZ.out.1.1.1.1.1)
  have bV:=lH (gZ.out.1.1.1.1.2.1)
  have qI:=lH (gZ.out.1.1.1.1.2.2.1)
  have gK:=lH (gZ.out.1.1.1.1.2.2.2.1)
  have qA:=lH (gZ.out.1.1.1.1.2.2.2.2.1)
  have sX:=lH (gZ.out.1.1.1.1.2.2.2.2.2.1)
  have sJ:=lH (gZ.out.1.1.1.1.2.2.2.2.2.2)
  have pt:=lH (gZ.out.1.1.1.2.1)
  have bW:=lH (gZ.out.1.1.1.2.2)
  have oN:=lH (gZ.out.1.1.2.1)
  have bX:=lH (gZ.out.1.1.2.2)
  have qj:=lH (gZ.out.1.2.1)
  have gt:=lH (gZ.out.1.2.2)
  have nG:=lH (gZ.out.2.1)
  have kn:=lH (gZ.out.2.2)
  have Hx:=lH (FV.out.2.2.2.2.2.2.2.1)
  have bC:=lH (FU.out.2.2.2.2.2.2.2.2.2.2.2.1)
  have oK:=lH (FW.out.2.1)
  have kN:=lH (FW.out.2.2.1)
  have dW:=lH (FW.out.2.2.2.2.2.2.2.2.2.2.2.2.1)
  have bv:=lH (FW.out.2.2.2.2.2.2.2.2.2.2.2.2.2.1)
  have aQ:=lH (FW.out.2.2.2.2.2.2.2.2.2.2.2.2.2.2.1)
  clear gZ FV FU FW
  have HF:Hid (∀ W,Below u4.heap.size u4 W→(((((Holds W w.heap.size 69 #[.int .u64 (x0:Int),.int .u64 (x1:Int),.int .u64 (x2:Int),.int .u64 (x3:Int),.int .u64 (y0:Int),.int .u64 (y1:Int),.int .u64 (y2:Int),.int .u64 (y3:Int),.int .u64 (z0:Int),.int .u64 (z1:Int),.int .u64 (z2:Int),.int .u64 (z3:Int)])∧(Holds W (w.heap.size+1+1) 69 #[.int .u64 0,.int .u64 0,.int .u64 0,.int .u64 0,.int .u64 0,.int .u64 0,.int .u64 0,.int .u64 0,.int .u64 0,.int .u64 0,.int .u64 0,.int .u64 0])∧(Below w.heap.size w W)∧(CMet W)∧(Holds W (w.heap.size+1) 26 #[.slice Ax lx.length cx,.slice Ay ly.length cy,.bool false])∧(Rd .u32 W W.heap.size Ax cx lx)∧(Rd .u32 W W.heap.size Ay cy ly))∧(NumOr W g5 (some (en zz)))∧(w.heap.size+1+1<g5))∧(NumOr W g6 (some (en ah)))∧(w.heap.size+1+1<g6))∧(NumOr W g7 (some (en ar)))∧(w.heap.size+1+1<g7))∧(NumOr W g8 (some (en bh)))∧(w.heap.size+1+1<g8)):=lH fun W h=>⟨⟨⟨⟨⟨pk.out.under h (Holds.lt pk),bV.out.under h (Holds.lt bV),qI.out.trans (h.mono qI.out.size),gK.out.under h,qA.out.under h (Holds.lt qA),(sX.out.under h).more h.size,(sJ.out.under h).more h.size⟩,NumOr.under pt h,bW⟩,NumOr.under oN h,bX⟩,NumOr.under qj h,gt⟩,NumOr.under nG h,kn⟩
  refine wp_region_noPanic ?_
  refine wp_region_held_drew (S:=fun W=>Below u4.heap.size u4 W) (by kernel_rfl) ((Below.refl _ u4).drew) (fun hHeld=>?_)
  obtain ⟨V,hV⟩:∃ W,W=u4.drew:=⟨_,rfl⟩
  rw [←hV]
  have ay:Hid (Below u4.heap.size u4 V):=lH (by rw [hV];exact (Below.refl _ u4).drew)
  replace hHeld:(fun W=>Below u4.heap.size u4 W) V:=ay.out
  clear hV
  refine tk 0 ⟨some 58,.load 67 (.tmp 8),67,_,_,none⟩ ?_ rfl ?_ hHeld ?_
  rotate_left 1
  ·(intro W hW;have aT:=(NumOr.under nG.out hW).cells dW.out;obtain ⟨q0,q1,q2,q3⟩:=aT;(try dsimp only at hW);go_simp;try with_reducible rfl)
  try simp only [aP]
  refine tk 1 ⟨some 59,.load 67 (.tmp 6),67,_,_,none⟩ ?_ rfl ?_ hHeld ?_
  rotate_left 1
  ·(intro W hW;have aT:=(NumOr.under oN.out hW).cells bC.out;obtain ⟨q0,q1,q2,q3⟩:=aT;(try dsimp only at hW);go_simp;try with_reducible rfl)
  try simp only [aP]
  refine tz 3 ⟨some 61,.fieldAddr 69 (.tmp 2) 0,0,_,_,none⟩ rfl hHeld ?_
  try simp only [aP]
  refine tk 4 ⟨some 62,.load 67 (.tmp 61),67,_,_,none⟩ ?_ rfl ?_ hHeld ?_
  rotate_left 1
  ·(intro W hW;have aM:=pk.out.under hW (Holds.lt pk.out);have k0:=aM.cell 0;have k1:=aM.cell 1;have k2:=aM.cell 2;have k3:=aM.cell 3;(try dsimp only at hW);go_simp;try with_reducible rfl)
  try simp only [aP]
  refine tk 5 ⟨some 63,.load 67 (.tmp 8),67,_,_,none⟩ ?_ rfl ?_ hHeld ?_
  rotate_left 1
  ·(intro W hW;have aT:=(NumOr.under nG.out hW).cells dW.out;obtain ⟨q0,q1,q2,q3⟩:=aT;(try dsimp only at hW);go_simp;try with_reducible rfl)
  try simp only [aP]
  refine wpAnyH_ready (rs:=[2,7,8]) (by kernel_rfl) (by simp) ?_
  refine AllReadyH.cons (o:=⟨some 60,.call ⟨ .value (.func 56),#[.tmp 58,.tmp 59],#[67,67]⟩,67,_,_,none⟩) rfl (fun K hK=>?_) ?_
  go_simp
  refine (mulE V (gK.out.under ay) bh ah dW bC (by rw [←oK.out];exact bv.out)).mono ?_
  rintro e V2 ⟨rfl,ab⟩
  have ae:=lH (ay.out.trans (ab.mono ay.out.size))
  clear ab
  clear ay
  go_simp
  refine hK.out _ _ (ae.out) (fun hHeld=>?_)
  clear hK K
  try simp only [aP]
  refine wpAnyH_ready (rs:=[6,7,8]) (by kernel_rfl) (by simp) ?_
  refine AllReadyH.cons (o:=⟨some 64,.call ⟨ .value (.func 56),#[.tmp 62,.tmp 63],#[67,67]⟩,67,_,_,none⟩) rfl (fun K hK=>?_) ?_
  go_simp
  refine (mulE V2 (gK.out.under ae) j.x bh Hx dW (by rw [←kN.out];exact aQ.out)).mono ?_
  rintro e ng ⟨rfl,ab⟩
  have aE:=lH (ae.out.trans (ab.mono ae.out.size))
  clear ab
  clear ae
  go_simp
  refine hK.out _ _ (aE.out) (fun hHeld=>?_)
  clear hK K
  try simp only [aP]
  refine wpAnyH_ready (rs:=[7,8]) (by kernel_rfl) (by simp) ?_
  refine AllReadyH.cons (o:=⟨some 9,.alloc 67,0,_,_,none⟩) rfl (fun K hK=>?_) ?_
  obtain ⟨f6,hN⟩:∃ W,W=ng.alloc (.cells #[.int .u64 0,.int .u64 0,.int .u64 0,.int .u64 0] 67):=⟨_,rfl⟩
  go_simp
  rw [←hN]
  obtain ⟨g9,hg⟩:∃ g,g=ng.heap.size:=⟨_,rfl⟩
  rw [←hg]
  have iW:Hid (NumOr f6 g9 none):=lH (by rw [hN,hg];exact NumOr.fresh _)
  have aC:=lH (by rw [hN];exact aE.out.alloc aE.out.size _:Below u4.heap.size u4 f6)
  have aR:Hid (u4.heap.size≤g9):=lH (by rw [hg];exact aE.out.size)
  clear hN hg
  clear aE
  refine hK.out _ _ (aC.out) (fun hHeld=>?_)
  clear hK K
  try simp only [aP]
  refine rdy 8 ⟨some 10,.alloc 67,0,_,_,none⟩ rfl (fun K hK=>?_)
  obtain ⟨je,hN⟩:∃ W,W=f6.alloc (.cells #[.int .u64 0,.int .u64 0,.int .u64 0,.int .u64 0] 67):=⟨_,rfl⟩
  go_simp
  rw [←hN]
  obtain ⟨ac,hg⟩:∃ g,g=f6.heap.size:=⟨_,rfl⟩
  rw [←hg]
  have fZ:Hid (NumOr je ac none):=lH (by rw [hN,hg];exact NumOr.fresh _)
  have eK:=lH (by rw [hN];exact aC.out.alloc aC.out.size _:Below u4.heap.size u4 je)
  have aB:Hid (u4.heap.size≤ac):=lH (by rw [hg];exact aC.out.size)
  have av:Hid (g9≠ac):=lH (by rw [hg];exact Nat.ne_of_lt iW.out.lt)
  have fm:Hid (NumOr je g9 none):=lH (by rw [hN];exact NumOr.alloc iW _)
  clear hN hg
  have aD:=lH (show w.heap.size+1+1<g9 from (by have h1:=Holds.lt bV.out;have h2:=aR.out;omega))
  have dN:=lH (show w.heap.size+1+1<ac from (by have h1:=Holds.lt bV.out;have h2:=aB.out;omega))
  clear aC iW
  refine hK.out _ _ (eK.out) (fun hHeld=>?_)
  clear hK K
  try simp only [aP]
  refine rdy 9 ⟨none,.store 67 (.tmp 9) (.tmp 60),0,_,_,none⟩ rfl (fun K hK=>?_)
  obtain ⟨ai,ao,am,ak,⟨z0,o0⟩,⟨z1,o1⟩,⟨z2,o2⟩,⟨z3,o3⟩⟩:=NumOr.facts fm.out
  obtain ⟨fE,hN⟩:∃ W,W=((((je.setCell ⟨g9,0,none⟩ (.int .u64 (jU:Int))).setCell ⟨g9,1,none⟩ (.int .u64 (jX:Int))).setCell ⟨g9,2,none⟩ (.int .u64 (jY:Int))).setCell ⟨g9,3,none⟩ (.int .u64 (jH:Int))):=⟨_,rfl⟩
  go_simp
  rw [←hN]
  have gr:Hid (NumOr fE g9 (some (en ch))):=lH (by rw [hN];exact NumOr.set fm bv)
  have cT:=lH (by rw [hN];exact below4 eK aR _ _ _ _:Below u4.heap.size u4 fE)
  have bG:Hid (NumOr fE ac none):=lH (by rw [hN];exact NumOr.aside4 fZ av.out.symm _ _ _ _)
  clear hN z0 o0 z1 o1 z2 o2 z3 o3 ai ao am ak
  clear eK fm fZ
  refine hK.out _ _ (cT.out) (fun hHeld=>?_)
  clear hK K
  try simp only [aP]
  refine rdy 10 ⟨none,.store 67 (.tmp 10) (.tmp 64),0,_,_,none⟩ rfl (fun K hK=>?_)
  obtain ⟨ai,ao,am,ak,⟨z0,o0⟩,⟨z1,o1⟩,⟨z2,o2⟩,⟨z3,o3⟩⟩:=NumOr.facts bG.out
  obtain ⟨e8,hN⟩:∃ W,W=((((fE.setCell ⟨ac,0,none⟩ (.int .u64 (kc:Int))).setCell ⟨ac,1,none⟩ (.int .u64 (jV:Int))).setCell ⟨ac,2,none⟩ (.int .u64 (j9:Int))).setCell ⟨ac,3,none⟩ (.int .u64 (jN:Int))):=⟨_,rfl⟩
  go_simp
  rw [←hN]
  have iE:Hid (NumOr e8 ac (some (en vv))):=lH (by rw [hN];exact NumOr.set bG aQ)
  have d7:=lH (by rw [hN];exact below4 cT aB _ _ _ _:Below u4.heap.size u4 e8)
  have jR:Hid (NumOr e8 g9 (some (en ch))):=lH (by rw [hN];exact NumOr.aside4 gr av _ _ _ _)
  clear hN z0 o0 z1 o1 z2 o2 z3 o3 ai ao am ak
  clear cT gr bG
  refine hK.out _ _ (d7.out) (fun hHeld=>?_)
  clear hK K
  try simp only [aP]
  refine dn ?_
  rw [a6.out]
  exact ⟨rfl,g9,ac,rfl,rfl,HF _ d7,jR,iE,aD,dN⟩
  refine AllReadyH.cons (o:=⟨some 10,.alloc 67,0,_,_,none⟩) rfl (fun K hK=>?_) AllReadyH.nil
  obtain ⟨l4,hN⟩:∃ W,W=ng.alloc (.cells #[.int .u64 0,.int .u64 0,.int .u64 0,.int .u64 0] 67):=⟨_,rfl⟩
  go_simp
  rw [←hN]
  obtain ⟨ac,hg⟩:∃ g,g=ng.heap.size:=⟨_,rfl⟩
  rw [←hg]
  have fw:Hid (NumOr l4 ac none):=lH (by rw [hN,hg];exact NumOr.fresh _)
  have dw:=lH (by rw [hN];exact aE.out.alloc aE.out.size _:Below u4.heap.size u4 l4)
  have aB:Hid (u4.heap.size≤ac):=lH (by rw [hg];exact aE.out.size)
  clear hN hg
  clear aE
  refine hK.out _ _ (dw.out) (fun hHeld=>?_)
  clear hK K
  try simp only [aP]
  refine rdy 7 ⟨some 9,.alloc 67,0,_,_,none⟩ rfl (fun K hK=>?_)
  obtain ⟨jq,hN⟩:∃ W,W=l4.alloc (.cells #[.int .u64 0,.int .u64 0,.int .u64 0,.int .u64 0] 67):=⟨_,rfl⟩
  go_simp
  rw [←hN]
  obtain ⟨g9,hg⟩:∃ g,g=l4.heap.size:=⟨_,rfl⟩
  rw [←hg]
  have eZ:Hid (NumOr jq g9 none):=lH (by rw [hN,hg];exact NumOr.fresh _)
  have fa:=lH (by rw [hN];exact dw.out.alloc dw.out.size _:Below u4.heap.size u4 jq)
  have aR:Hid (u4.heap.size≤g9):=lH (by rw [hg];exact dw.out.size)
  have aw:Hid (ac≠g9):=lH (by rw [hg];exact Nat.ne_of_lt fw.out.lt)
  have gG:Hid (NumOr jq ac none):=lH (by rw [hN];exact NumOr.alloc fw _)
  clear hN hg
  have aD:=lH (show w.heap.size+1+1<g9 from (by have h1:=Holds.lt bV.out;have h2:=aR.out;omega))
  have dN:=lH (show w.heap.size+1+1<ac from (by have h1:=Holds.lt bV.out;have h2:=aB.out;omega))
  clear dw fw
  refine hK.out _ _ (fa.out) (fun hHeld=>?_)
  clear hK K
  try simp only [aP]
  refine rdy 9 ⟨none,.store 67 (.tmp 9) (.tmp 60),0,_,_,none⟩ rfl (fun K hK=>?_)
  obtain ⟨ai,ao,am,ak,⟨z0,o0⟩,⟨z1,o1⟩,⟨z2,o2⟩,⟨z3,o3⟩⟩:=NumOr.facts eZ.out
  obtain ⟨eO,hN⟩:∃ W,W=((((jq.setCell ⟨g9,0,none⟩ (.int .u64 (jU:Int))).setCell ⟨g9,1,none⟩ (.int .u64 (jX:Int))).setCell ⟨g9,2,none⟩ (.int .u64 (jY:Int))).setCell ⟨g9,3,none⟩ (.int .u64 (jH:Int))):=⟨_,rfl⟩
  go_simp
  rw [←hN]
  have ib:Hid (NumOr eO g9 (some (en ch))):=lH (by rw [hN];exact NumOr.set eZ bv)
  have cL:=lH (by rw [hN];exact below4 fa aR _ _ _ _:Below u4.heap.size u4 eO)
  have bB:Hid (NumOr eO ac none):=lH (by rw [hN];exact NumOr.aside4 gG aw _ _ _ _)
  clear hN z0 o0 z1 o1 z2 o2 z3 o3 ai ao am ak
  clear fa gG eZ
  refine hK.out _ _ (cL.out) (fun hHeld=>?_)
  clear hK K
  try simp only [aP]
  refine rdy 10 ⟨none,.store 67 (.tmp 10) (.tmp 64),0,_,_,none⟩ rfl (fun K hK=>?_)
  obtain ⟨ai,ao,am,ak,⟨z0,o0⟩,⟨z1,o1⟩,⟨z2,o2⟩,⟨z3,o3⟩⟩:=NumOr.facts bB.out
  obtain ⟨fX,hN⟩:∃ W,W=((((eO.setCell ⟨ac,0,none⟩ (.int .u64 (kc:Int))).setCell ⟨ac,1,none⟩ (.int .u64 (jV:Int))).setCell ⟨ac,2,none⟩ (.int .u64 (j9:Int))).setCell ⟨ac,3,none⟩ (.int .u64 (jN:Int))):=⟨_,rfl⟩
  go_simp
  rw [←hN]
  have ix:Hid (NumOr fX ac (some (en vv))):=lH (by rw [hN];exact NumOr.set bB aQ)
  have eh:=lH (by rw [hN];exact below4 cL aB _ _ _ _:Below u4.heap.size u4 fX)
  have jP:Hid (NumOr fX g9 (some (en ch))):=lH (by rw [hN];exact NumOr.aside4 ib aw.out.symm _ _ _ _)
  clear hN z0 o0 z1 o1 z2 o2 z3 o3 ai ao am ak
  clear cL bB ib
  refine hK.out _ _ (eh.out) (fun hHeld=>?_)
  clear hK K
  try simp only [aP]
  refine dn ?_
  rw [a6.out]
  exact ⟨rfl,g9,ac,rfl,rfl,HF _ eh,jP,ix,aD,dN⟩
  refine AllReadyH.cons (o:=⟨some 9,.alloc 67,0,_,_,none⟩) rfl (fun K hK=>?_) ?_
  obtain ⟨oJ,hN⟩:∃ W,W=V2.alloc (.cells #[.int .u64 0,.int .u64 0,.int .u64 0,.int .u64 0] 67):=⟨_,rfl⟩
  go_simp
  rw [←hN]
  obtain ⟨g9,hg⟩:∃ g,g=V2.heap.size:=⟨_,rfl⟩
  rw [←hg]
  have gj:Hid (NumOr oJ g9 none):=lH (by rw [hN,hg];exact NumOr.fresh _)
  have bu:=lH (by rw [hN];exact ae.out.alloc ae.out.size _:Below u4.heap.size u4 oJ)
  have aR:Hid (u4.heap.size≤g9):=lH (by rw [hg];exact ae.out.size)
  clear hN hg
  clear ae
  refine hK.out _ _ (bu.out) (fun hHeld=>?_)
  clear hK K
  try simp only [aP]
  refine wpAnyH_ready (rs:=[6,8]) (by kernel_rfl) (by simp) ?_
  refine AllReadyH.cons (o:=⟨some 64,.call ⟨ .value (.func 56),#[.tmp 62,.tmp 63],#[67,67]⟩,67,_,_,none⟩) rfl (fun K hK=>?_) ?_
  go_simp
  refine (mulE oJ (gK.out.under bu) j.x bh Hx dW (by rw [←kN.out];exact aQ.out)).mono ?_
  rintro e nQ ⟨rfl,ab⟩
  have dE:=lH (bu.out.trans (ab.mono bu.out.size))
  have iD:Hid (NumOr nQ g9 none):=lH (NumOr.under gj ab)
  clear ab
  clear bu gj
  go_simp
  refine hK.out _ _ (dE.out) (fun hHeld=>?_)
  clear hK K
  try simp only [aP]
  refine rdy 8 ⟨some 10,.alloc 67,0,_,_,none⟩ rfl (fun K hK=>?_)
  obtain ⟨ju,hN⟩:∃ W,W=nQ.alloc (.cells #[.int .u64 0,.int .u64 0,.int .u64 0,.int .u64 0] 67):=⟨_,rfl⟩
  go_simp
  rw [←hN]
  obtain ⟨ac,hg⟩:∃ g,g=nQ.heap.size:=⟨_,rfl⟩
  rw [←hg]
  have gN:Hid (NumOr ju ac none):=lH (by rw [hN,hg];exact NumOr.fresh _)
  have fO:=lH (by rw [hN];exact dE.out.alloc dE.out.size _:Below u4.heap.size u4 ju)
  have aB:Hid (u4.heap.size≤ac):=lH (by rw [hg];exact dE.out.size)
  have av:Hid (g9≠ac):=lH (by rw [hg];exact Nat.ne_of_lt iD.out.lt)
  have fS:Hid (NumOr ju g9 none):=lH (by rw [hN];exact NumOr.alloc iD _)
  clear hN hg
  have aD:=lH (show w.heap.size+1+1<g9 from (by have h1:=Holds.lt bV.out;have h2:=aR.out;omega))
  have dN:=lH (show w.heap.size+1+1<ac from (by have h1:=Holds.lt bV.out;have h2:=aB.out;omega))
  clear dE iD
  refine hK.out _ _ (fO.out) (fun hHeld=>?_)
  clear hK K
  try simp only [aP]
  refine rdy 9 ⟨none,.store 67 (.tmp 9) (.tmp 60),0,_,_,none⟩ rfl (fun K hK=>?_)
  obtain ⟨ai,ao,am,ak,⟨z0,o0⟩,⟨z1,o1⟩,⟨z2,o2⟩,⟨z3,o3⟩⟩:=NumOr.facts fS.out
  obtain ⟨fT,hN⟩:∃ W,W=((((ju.setCell ⟨g9,0,none⟩ (.int .u64 (jU:Int))).setCell ⟨g9,1,none⟩ (.int .u64 (jX:Int))).setCell ⟨g9,2,none⟩ (.int .u64 (jY:Int))).setCell ⟨g9,3,none⟩ (.int .u64 (jH:Int))):=⟨_,rfl⟩
  go_simp
  rw [←hN]
  have fY:Hid (NumOr fT g9 (some (en ch))):=lH (by rw [hN];exact NumOr.set fS bv)
  have dF:=lH (by rw [hN];exact below4 fO aR _ _ _ _:Below u4.heap.size u4 fT)
  have bT:Hid (NumOr fT ac none):=lH (by rw [hN];exact NumOr.aside4 gN av.out.symm _ _ _ _)
  clear hN z0 o0 z1 o1 z2 o2 z3 o3 ai ao am ak
  clear fO fS gN
  refine hK.out _ _ (dF.out) (fun hHeld=>?_)
  clear hK K
  try simp only [aP]
  refine rdy 10 ⟨none,.store 67 (.tmp 10) (.tmp 64),0,_,_,none⟩ rfl (fun K hK=>?_)
  obtain ⟨ai,ao,am,ak,⟨z0,o0⟩,⟨z1,o1⟩,⟨z2,o2⟩,⟨z3,o3⟩⟩:=NumOr.facts bT.out
  obtain ⟨ft,hN⟩:∃ W,W=((((fT.setCell ⟨ac,0,none⟩ (.int .u64 (kc:Int))).setCell ⟨ac,1,none⟩ (.int .u64 (jV:Int))).setCell ⟨ac,2,none⟩ (.int .u64 (j9:Int))).setCell ⟨ac,3,none⟩ (.int .u64 (jN:Int))):=⟨_,rfl⟩
  go_simp
  rw [←hN]
  have iS:Hid (NumOr ft ac (some (en vv))):=lH (by rw [hN];exact NumOr.set bT aQ)
  have ew:=lH (by rw [hN];exact below4 dF aB _ _ _ _:Below u4.heap.size u4 ft)
  have jZ:Hid (NumOr ft g9 (some (en ch))):=lH (by rw [hN];exact NumOr.aside4 fY av _ _ _ _)
  clear hN z0 o0 z1 o1 z2 o2 z3 o3 ai ao am ak
  clear dF fY bT
  refine hK.out _ _ (ew.out) (fun hHeld=>?_)
  clear hK K
  try simp only [aP]
  refine dn ?_
  rw [a6.out]
  exact ⟨rfl,g9,ac,rfl,rfl,HF _ ew,jZ,iS,aD,dN⟩
  refine AllReadyH.cons (o:=⟨some 10,.alloc 67,0,_,_,none⟩) rfl (fun K hK=>?_) AllReadyH.nil
  obtain ⟨l6,hN⟩:∃ W,W=oJ.alloc (.cells #[.int .u64 0,.int .u64 0,.int .u64 0,.int .u64 0] 67):=⟨_,rfl⟩
  go_simp
  rw [←hN]
  obtain ⟨ac,hg⟩:∃ g,g=oJ.heap.size:=⟨_,rfl⟩
  rw [←hg]
  have jB:Hid (NumOr l6 ac none):=lH (by rw [hN,hg];exact NumOr.fresh _)
  have dO:=lH (by rw [hN];exact bu.out.alloc bu.out.size _:Below u4.heap.size u4 l6)
  have aB:Hid (u4.heap.size≤ac):=lH (by rw [hg];exact bu.out.size)
  have av:Hid (g9≠ac):=lH (by rw [hg];exact Nat.ne_of_lt gj.out.lt)
  have kU:Hid (NumOr l6 g9 none):=lH (by rw [hN];exact NumOr.alloc gj _)
  clear hN hg
  have aD:=lH (show w.heap.size+1+1<g9 from (by have h1:=Holds.lt bV.out;have h2:=aR.out;omega))
  have dN:=lH (show w.heap.size+1+1<ac from (by have h1:=Holds.lt bV.out;have h2:=aB.out;omega))
  clear bu gj
  refine hK.out _ _ (dO.out) (fun hHeld=>?_)
  clear hK K
  try simp only [aP]
  refine rdy 6 ⟨some 64,.call ⟨ .value (.func 56),#[.tmp 62,.tmp 63],#[67,67]⟩,67,_,_,none⟩ rfl (fun K hK=>?_)
  go_simp
  refine (mulE l6 (gK.out.under dO) j.x bh Hx dW (by rw [←kN.out];exact aQ.out)).mono ?_
  rintro e lh ⟨rfl,ab⟩
  have eY:=lH (dO.out.trans (ab.mono dO.out.size))
  have fc:Hid (NumOr lh g9 none):=lH (NumOr.under kU ab)
  have gS:Hid (NumOr lh ac none):=lH (NumOr.under jB ab)
  clear ab
  clear dO kU jB
  go_simp
  refine hK.out _ _ (eY.out) (fun hHeld=>?_)
  clear hK K
  try simp only [aP]
  refine rdy 9 ⟨none,.store 67 (.tmp 9) (.tmp 60),0,_,_,none⟩ rfl (fun K hK=>?_)
  obtain ⟨ai,ao,am,ak,⟨z0,o0⟩,⟨z1,o1⟩,⟨z2,o2⟩,⟨z3,o3⟩⟩:=NumOr.facts fc.out
  obtain ⟨fB,hN⟩:∃ W,W=((((lh.setCell ⟨g9,0,none⟩ (.int .u64 (jU:Int))).setCell ⟨g9,1,none⟩ (.int .u64 (jX:Int))).setCell ⟨g9,2,none⟩ (.int .u64 (jY:Int))).setCell ⟨g9,3,none⟩ (.int .u64 (jH:Int))):=⟨_,rfl⟩
  go_simp
  rw [←hN]
  have gT:Hid (NumOr fB g9 (some (en ch))):=lH (by rw [hN];exact NumOr.set fc bv)
  have dP:=lH (by rw [hN];exact below4 eY aR _ _ _ _:Below u4.heap.size u4 fB)
  have bK:Hid (NumOr fB ac none):=lH (by rw [hN];exact NumOr.aside4 gS av.out.symm _ _ _ _)
  clear hN z0 o0 z1 o1 z2 o2 z3 o3 ai ao am ak
  clear eY fc gS
  refine hK.out _ _ (dP.out) (fun hHeld=>?_)
  clear hK K
  try simp only [aP]
  refine rdy 10 ⟨none,.store 67 (.tmp 10) (.tmp 64),0,_,_,none⟩ rfl (fun K hK=>?_)
  obtain ⟨ai,ao,am,ak,⟨z0,o0⟩,⟨z1,o1⟩,⟨z2,o2⟩,⟨z3,o3⟩⟩:=NumOr.facts bK.out
  obtain ⟨eQ,hN⟩:∃ W,W=((((fB.setCell ⟨ac,0,none⟩ (.int .u64 (kc:Int))).setCell ⟨ac,1,none⟩ (.int .u64 (jV:Int))).setCell ⟨ac,2,none⟩ (.int .u64 (j9:Int))).setCell ⟨ac,3,none⟩ (.int .u64 (jN:Int))):=⟨_,rfl⟩
  go_simp
  rw [←hN]
  have iZ:Hid (NumOr eQ ac (some (en vv))):=lH (by rw [hN];exact NumOr.set bK aQ)
  have em:=lH (by rw [hN];exact below4 dP aB _ _ _ _:Below u4.heap.size u4 eQ)
  have jO:Hid (NumOr eQ g9 (some (en ch))):=lH (by rw [hN];exact NumOr.aside4 gT av _ _ _ _)
  clear hN z0 o0 z1 o1 z2 o2 z3 o3 ai ao am ak
  clear dP gT bK
  refine hK.out _ _ (em.out) (fun hHeld=>?_)
  clear hK K
  try simp only [aP]
  refine dn ?_
  rw [a6.out]
  exact ⟨rfl,g9,ac,rfl,rfl,HF _ em,jO,iZ,aD,dN⟩
  refine AllReadyH.cons (o:=⟨some 10,.alloc 67,0,_,_,none⟩) rfl (fun K hK=>?_) AllReadyH.nil
  obtain ⟨j4,hN⟩:∃ W,W=V2.alloc (.cells #[.int .u64 0,.int .u64 0,.int .u64 0,.int .u64 0] 67):=⟨_,rfl⟩
  go_simp
  rw [←hN]
  obtain ⟨ac,hg⟩:∃ g,g=V2.heap.size:=⟨_,rfl⟩
  rw [←hg]
  have cE:Hid (NumOr j4 ac none):=lH (by rw [hN,hg];exact NumOr.fresh _)
  have az:=lH (by rw [hN];exact ae.out.alloc ae.out.size _:Below u4.heap.size u4 j4)
  have aB:Hid (u4.heap.size≤ac):=lH (by rw [hg];exact ae.out.size)
  clear hN hg
  clear ae
  refine hK.out _ _ (az.out) (fun hHeld=>?_)
  clear hK K
  try simp only [aP]
  refine wpAnyH_ready (rs:=[6,7]) (by kernel_rfl) (by simp) ?_
  refine AllReadyH.cons (o:=⟨some 64,.call ⟨ .value (.func 56),#[.tmp 62,.tmp 63],#[67,67]⟩,67,_,_,none⟩) rfl (fun K hK=>?_) ?_
  go_simp
  refine (mulE j4 (gK.out.under az) j.x bh Hx dW (by rw [←kN.out];exact aQ.out)).mono ?_
  rintro e nM ⟨rfl,ab⟩
  have dA:=lH (az.out.trans (ab.mono az.out.size))
  have eP:Hid (NumOr nM ac none):=lH (NumOr.under cE ab)
  clear ab
  clear az cE
  go_simp
  refine hK.out _ _ (dA.out) (fun hHeld=>?_)
  clear hK K
  try simp only [aP]
  refine rdy 7 ⟨some 9,.alloc 67,0,_,_,none⟩ rfl (fun K hK=>?_)
  obtain ⟨jb,hN⟩:∃ W,W=nM.alloc (.cells #[.int .u64 0,.int .u64 0,.int .u64 0,.int .u64 0] 67):=⟨_,rfl⟩
  go_simp
  rw [←hN]
  obtain ⟨g9,hg⟩:∃ g,g=nM.heap.size:=⟨_,rfl⟩
  rw [←hg]
  have fq:Hid (NumOr jb g9 none):=lH (by rw [hN,hg];exact NumOr.fresh _)
  have eH:=lH (by rw [hN];exact dA.out.alloc dA.out.size _:Below u4.heap.size u4 jb)
  have aR:Hid (u4.heap.size≤g9):=lH (by rw [hg];exact dA.out.size)
  have aw:Hid (ac≠g9):=lH (by rw [hg];exact Nat.ne_of_lt eP.out.lt)
  have gH:Hid (NumOr jb ac none):=lH (by rw [hN];exact NumOr.alloc eP _)
  clear hN hg
  have aD:=lH (show w.heap.size+1+1<g9 from (by have h1:=Holds.lt bV.out;have h2:=aR.out;omega))
  have dN:=lH (show w.heap.size+1+1<ac from (by have h1:=Holds.lt bV.out;have h2:=aB.out;omega))
  clear dA eP
  refine hK.out _ _ (eH.out) (fun hHeld=>?_)
  clear hK K
  try simp only [aP]
  refine rdy 9 ⟨none,.store 67 (.tmp 9) (.tmp 60),0,_,_,none⟩ rfl (fun K hK=>?_)
  obtain ⟨ai,ao,am,ak,⟨z0,o0⟩,⟨z1,o1⟩,⟨z2,o2⟩,⟨z3,o3⟩⟩:=NumOr.facts fq.out
  obtain ⟨fC,hN⟩:∃ W,W=((((jb.setCell ⟨g9,0,none⟩ (.int .u64 (jU:Int))).setCell ⟨g9,1,none⟩ (.int .u64 (jX:Int))).setCell ⟨g9,2,none⟩ (.int .u64 (jY:Int))).setCell ⟨g9,3,none⟩ (.int .u64 (jH:Int))):=⟨_,rfl⟩
  go_simp
  rw [←hN]
  have f9:Hid (NumOr fC g9 (some (en ch))):=lH (by rw [hN];exact NumOr.set fq bv)
  have dM:=lH (by rw [hN];exact below4 eH aR _ _ _ _:Below u4.heap.size u4 fC)
  have bR:Hid (NumOr fC ac none):=lH (by rw [hN];exact NumOr.aside4 gH aw _ _ _ _)
  clear hN z0 o0 z1 o1 z2 o2 z3 o3 ai ao am ak
  clear eH gH fq
  refine hK.out _ _ (dM.out) (fun hHeld=>?_)
  clear hK K
  try simp only [aP]
  refine rdy 10 ⟨none,.store 67 (.tmp 10) (.tmp 64),0,_,_,none⟩ rfl (fun K hK=>?_)
  obtain ⟨ai,ao,am,ak,⟨z0,o0⟩,⟨z1,o1⟩,⟨z2,o2⟩,⟨z3,o3⟩⟩:=NumOr.facts bR.out
  obtain ⟨fU,hN⟩:∃ W,W=((((fC.setCell ⟨ac,0,none⟩ (.int .u64 (kc:Int))).setCell ⟨ac,1,none⟩ (.int .u64 (jV:Int))).setCell ⟨ac,2,none⟩ (.int .u64 (j9:Int))).setCell ⟨ac,3,none⟩ (.int .u64 (jN:Int))):=⟨_,rfl⟩
  go_simp
  rw [←hN]
  have iN:Hid (NumOr fU ac (some (en vv))):=lH (by rw [hN];exact NumOr.set bR aQ)
  have er:=lH (by rw [hN];exact below4 dM aB _ _ _ _:Below u4.heap.size u4 fU)
  have j_:Hid (NumOr fU g9 (some (en ch))):=lH (by rw [hN];exact NumOr.aside4 f9 aw.out.symm _ _ _ _)
  clear hN z0 o0 z1 o1 z2 o2 z3 o3 ai ao am ak
  clear dM bR f9
  refine hK.out _ _ (er.out) (fun hHeld=>?_)
  clear hK K
  try simp only [aP]
  refine dn ?_
  rw [a6.out]
  exact ⟨rfl,g9,ac,rfl,rfl,HF _ er,j_,iN,aD,dN⟩
  refine AllReadyH.cons (o:=⟨some 9,.alloc 67,0,_,_,none⟩) rfl (fun K hK=>?_) AllReadyH.nil
  obtain ⟨l5,hN⟩:∃ W,W=j4.alloc (.cells #[.int .u64 0,.int .u64 0,.int .u64 0,.int .u64 0] 67):=⟨_,rfl⟩
  go_simp
  rw [←hN]
  obtain ⟨g9,hg⟩:∃ g,g=j4.heap.size:=⟨_,rfl⟩
  rw [←hg]
  have lS:Hid (NumOr l5 g9 none):=lH (by rw [hN,hg];exact NumOr.fresh _)
  have cW:=lH (by rw [hN];exact az.out.alloc az.out.size _:Below u4.heap.size u4 l5)
  have aR:Hid (u4.heap.size≤g9):=lH (by rw [hg];exact az.out.size)
  have aw:Hid (ac≠g9):=lH (by rw [hg];exact Nat.ne_of_lt cE.out.lt)
  have i5:Hid (NumOr l5 ac none):=lH (by rw [hN];exact NumOr.alloc cE _)
  clear hN hg
  have aD:=lH (show w.heap.size+1+1<g9 from (by have h1:=Holds.lt bV.out;have h2:=aR.out;omega))
  have dN:=lH (show w.heap.size+1+1<ac from (by have h1:=Holds.lt bV.out;have h2:=aB.out;omega))
  clear az cE
  refine hK.out _ _ (cW.out) (fun hHeld=>?_)
  clear hK K
  try simp only [aP]
  refine rdy 6 ⟨some 64,.call ⟨ .value (.func 56),#[.tmp 62,.tmp 63],#[67,67]⟩,67,_,_,none⟩ rfl (fun K hK=>?_)
  go_simp
  refine (mulE l5 (gK.out.under cW) j.x bh Hx dW (by rw [←kN.out];exact aQ.out)).mono ?_
  rintro e kQ ⟨rfl,ab⟩
  have fs:=lH (cW.out.trans (ab.mono cW.out.size))
  have gu:Hid (NumOr kQ ac none):=lH (NumOr.under i5 ab)
  have eS:Hid (NumOr kQ g9 none):=lH (NumOr.under lS ab)
  clear ab
  clear cW i5 lS
  go_simp
  refine hK.out _ _ (fs.out) (fun hHeld=>?_)
  clear hK K
  try simp only [aP]
  refine rdy 9 ⟨none,.store 67 (.tmp 9) (.tmp 60),0,_,_,none⟩ rfl (fun K hK=>?_)
  obtain ⟨ai,ao,am,ak,⟨z0,o0⟩,⟨z1,o1⟩,⟨z2,o2⟩,⟨z3,o3⟩⟩:=NumOr.facts eS.out
  obtain ⟨fD,hN⟩:∃ W,W=((((kQ.setCell ⟨g9,0,none⟩ (.int .u64 (jU:Int))).setCell ⟨g9,1,none⟩ (.int .u64 (jX:Int))).setCell ⟨g9,2,none⟩ (.int .u64 (jY:Int))).setCell ⟨g9,3,none⟩ (.int .u64 (jH:Int))):=⟨_,rfl⟩
  go_simp
  rw [←hN]
  have gJ:Hid (NumOr fD g9 (some (en ch))):=lH (by rw [hN];exact NumOr.set eS bv)
  have dl:=lH (by rw [hN];exact below4 fs aR _ _ _ _:Below u4.heap.size u4 fD)
  have bE:Hid (NumOr fD ac none):=lH (by rw [hN];exact NumOr.aside4 gu aw _ _ _ _)
  clear hN z0 o0 z1 o1 z2 o2 z3 o3 ai ao am ak
  clear fs gu eS
  refine hK.out _ _ (dl.out) (fun hHeld=>?_)
  clear hK K
  try simp only [aP]
  refine rdy 10 ⟨none,.store 67 (.tmp 10) (.tmp 64),0,_,_,none⟩ rfl (fun K hK=>?_)
  obtain ⟨ai,ao,am,ak,⟨z0,o0⟩,⟨z1,o1⟩,⟨z2,o2⟩,⟨z3,o3⟩⟩:=NumOr.facts bE.out
  obtain ⟨fh,hN⟩:∃ W,W=((((fD.setCell ⟨ac,0,none⟩ (.int .u64 (kc:Int))).setCell ⟨ac,1,none⟩ (.int .u64 (jV:Int))).setCell ⟨ac,2,none⟩ (.int .u64 (j9:Int))).setCell ⟨ac,3,none⟩ (.int .u64 (jN:Int))):=⟨_,rfl⟩
  go_simp
  rw [←hN]
  have ik:Hid (NumOr fh ac (some (en vv))):=lH (by rw [hN];exact NumOr.set bE aQ)
  have eC:=lH (by rw [hN];exact below4 dl aB _ _ _ _:Below u4.heap.size u4 fh)
  have kb:Hid (NumOr fh g9 (some (en ch))):=lH (by rw [hN];exact NumOr.aside4 gJ aw.out.symm _ _ _ _)
  clear hN z0 o0 z1 o1 z2 o2 z3 o3 ai ao am ak
  clear dl bE gJ
  refine hK.out _ _ (eC.out) (fun hHeld=>?_)
  clear hK K
  try simp only [aP]
  refine dn ?_
  rw [a6.out]
  exact ⟨rfl,g9,ac,rfl,rfl,HF _ eC,kb,ik,aD,dN⟩
  refine AllReadyH.cons (o:=⟨some 9,.alloc 67,0,_,_,none⟩) rfl (fun K hK=>?_) ?_
  obtain ⟨V7,hN⟩:∃ W,W=V.alloc (.cells #[.int .u64 0,.int .u64 0,.int .u64 0,.int .u64 0] 67):=⟨_,rfl⟩
  go_simp
  rw [←hN]
  obtain ⟨g9,hg⟩:∃ g,g=V.heap.size:=⟨_,rfl⟩
  rw [←hg]
  have kx:Hid (NumOr V7 g9 none):=lH (by rw [hN,hg];exact NumOr.fresh _)
  have fp:=lH (by rw [hN];exact ay.out.alloc ay.out.size _:Below u4.heap.size u4 V7)
  have aR:Hid (u4.heap.size≤g9):=lH (by rw [hg];exact ay.out.size)
  clear hN hg
  clear ay
  refine hK.out _ _ (fp.out) (fun hHeld=>?_)
  clear hK K
  try simp only [aP]
  refine wpAnyH_ready (rs:=[2,8]) (by kernel_rfl) (by simp) ?_
  refine AllReadyH.cons (o:=⟨some 60,.call ⟨ .value (.func 56),#[.tmp 58,.tmp 59],#[67,67]⟩,67,_,_,none⟩) rfl (fun K hK=>?_) ?_
  go_simp
  refine (mulE V7 (gK.out.under fp) bh ah dW bC (by rw [←oK.out];exact bv.out)).mono ?_
  rintro e pe ⟨rfl,ab⟩
  have a8:=lH (fp.out.trans (ab.mono fp.out.size))
  have gE:Hid (NumOr pe g9 none):=lH (NumOr.under kx ab)
  clear ab
  clear fp kx
  go_simp
  refine hK.out _ _ (a8.out) (fun hHeld=>?_)
  clear hK K
  try simp only [aP]
  refine wpAnyH_ready (rs:=[6,8]) (by kernel_rfl) (by simp) ?_
  refine AllReadyH.cons (o:=⟨some 64,.call ⟨ .value (.func 56),#[.tmp 62,.tmp 63],#[67,67]⟩,67,_,_,none⟩) rfl (fun K hK=>?_) ?_
  go_simp
  refine (mulE pe (gK.out.under a8) j.x bh Hx dW (by rw [←kN.out];exact aQ.out)).mono ?_
  rintro e nJ ⟨rfl,ab⟩
  have cA:=lH (a8.out.trans (ab.mono a8.out.size))
  have iK:Hid (NumOr nJ g9 none):=lH (NumOr.under gE ab)
  clear ab
  clear a8 gE
  go_simp
  refine hK.out _ _ (cA.out) (fun hHeld=>?_)
  clear hK K
  try simp only [aP]
  refine rdy 8 ⟨some 10,.alloc 67,0,_,_,none⟩ rfl (fun K hK=>?_)
  obtain ⟨i7,hN⟩:∃ W,W=nJ.alloc (.cells #[.int .u64 0,.int .u64 0,.int .u64 0,.int .u64 0] 67):=⟨_,rfl⟩
  go_simp
  rw [←hN]
  obtain ⟨ac,hg⟩:∃ g,g=nJ.heap.size:=⟨_,rfl⟩
  rw [←hg]
  have gL:Hid (NumOr i7 ac none):=lH (by rw [hN,hg];exact NumOr.fresh _)
  have eU:=lH (by rw [hN];exact cA.out.alloc cA.out.size _:Below u4.heap.size u4 i7)
  have aB:Hid (u4.heap.size≤ac):=lH (by rw [hg];exact cA.out.size)
  have av:Hid (g9≠ac):=lH (by rw [hg];exact Nat.ne_of_lt iK.out.lt)
  have fb:Hid (NumOr i7 g9 none):=lH (by rw [hN];exact NumOr.alloc iK _)
  clear hN hg
  have aD:=lH (show w.heap.size+1+1<g9 from (by have h1:=Holds.lt bV.out;have h2:=aR.out;omega))
  have dN:=lH (show w.heap.size+1+1<ac from (by have h1:=Holds.lt bV.out;have h2:=aB.out;omega))
  clear cA iK
  refine hK.out _ _ (eU.out) (fun hHeld=>?_)
  clear hK K
  try simp only [aP]
  refine rdy 9 ⟨none,.store 67 (.tmp 9) (.tmp 60),0,_,_,none⟩ rfl (fun K hK=>?_)
  obtain ⟨ai,ao,am,ak,⟨z0,o0⟩,⟨z1,o1⟩,⟨z2,o2⟩,⟨z3,o3⟩⟩:=NumOr.facts fb.out
  obtain ⟨fk,hN⟩:∃ W,W=((((i7.setCell ⟨g9,0,none⟩ (.int .u64 (jU:Int))).setCell ⟨g9,1,none⟩ (.int .u64 (jX:Int))).setCell ⟨g9,2,none⟩ (.int .u64 (jY:Int))).setCell ⟨g9,3,none⟩ (.int .u64 (jH:Int))):=⟨_,rfl⟩
  go_simp
  rw [←hN]
  have gI:Hid (NumOr fk g9 (some (en ch))):=lH (by rw [hN];exact NumOr.set fb bv)
  have cB:=lH (by rw [hN];exact below4 eU aR _ _ _ _:Below u4.heap.size u4 fk)
  have bJ:Hid (NumOr fk ac none):=lH (by rw [hN];exact NumOr.aside4 gL av.out.symm _ _ _ _)
  clear hN z0 o0 z1 o1 z2 o2 z3 o3 ai ao am ak
  clear eU fb gL
  refine hK.out _ _ (cB.out) (fun hHeld=>?_)
  clear hK K
  try simp only [aP]
  refine rdy 10 ⟨none,.store 67 (.tmp 10) (.tmp 64),0,_,_,none⟩ rfl (fun K hK=>?_)
  obtain ⟨ai,ao,am,ak,⟨z0,o0⟩,⟨z1,o1⟩,⟨z2,o2⟩,⟨z3,o3⟩⟩:=NumOr.facts bJ.out
  obtain ⟨eG,hN⟩:∃ W,W=((((fk.setCell ⟨ac,0,none⟩ (.int .u64 (kc:Int))).setCell ⟨ac,1,none⟩ (.int .u64 (jV:Int))).setCell ⟨ac,2,none⟩ (.int .u64 (j9:Int))).setCell ⟨ac,3,none⟩ (.int .u64 (jN:Int))):=⟨_,rfl⟩
  go_simp
  rw [←hN]
  have im:Hid (NumOr eG ac (some (en vv))):=lH (by rw [hN];exact NumOr.set bJ aQ)
  have eD:=lH (by rw [hN];exact below4 cB aB _ _ _ _:Below u4.heap.size u4 eG)
  have j7:Hid (NumOr eG g9 (some (en ch))):=lH (by rw [hN];exact NumOr.aside4 gI av _ _ _ _)
  clear hN z0 o0 z1 o1 z2 o2 z3 o3 ai ao am ak
  clear cB gI bJ
  refine hK.out _ _ (eD.out) (fun hHeld=>?_)
  clear hK K
  try simp only [aP]
  refine dn ?_
  rw [a6.out]
  exact ⟨rfl,g9,ac,rfl,rfl,HF _ eD,j7,im,aD,dN⟩
  refine AllReadyH.cons (o:=⟨some 10,.alloc 67,0,_,_,none⟩) rfl (fun K hK=>?_) AllReadyH.nil
  obtain ⟨mc,hN⟩:∃ W,W=pe.alloc (.cells #[.int .u64 0,.int .u64 0,.int .u64 0,.int .u64 0] 67):=⟨_,rfl⟩
  go_simp
  rw [←hN]
  obtain ⟨ac,hg⟩:∃ g,g=pe.heap.size:=⟨_,rfl⟩
  rw [←hg]
  have jD:Hid (NumOr mc ac none):=lH (by rw [hN,hg];exact NumOr.fresh _)
  have cF:=lH (by rw [hN];exact a8.out.alloc a8.out.size _:Below u4.heap.size u4 mc)
  have aB:Hid (u4.heap.size≤ac):=lH (by rw [hg];exact a8.out.size)
  have av:Hid (g9≠ac):=lH (by rw [hg];exact Nat.ne_of_lt gE.out.lt)
  have kj:Hid (NumOr mc g9 none):=lH (by rw [hN];exact NumOr.alloc gE _)
  clear hN hg
  have aD:=lH (show w.heap.size+1+1<g9 from (by have h1:=Holds.lt bV.out;have h2:=aR.out;omega))
  have dN:=lH (show w.heap.size+1+1<ac from (by have h1:=Holds.lt bV.out;have h2:=aB.out;omega))
  clear a8 gE
  refine hK.out _ _ (cF.out) (fun hHeld=>?_)
  clear hK K
  try simp only [aP]
  refine rdy 6 ⟨some 64,.call ⟨ .value (.func 56),#[.tmp 62,.tmp 63],#[67,67]⟩,67,_,_,none⟩ rfl (fun K hK=>?_)
  go_simp
  refine (mulE mc (gK.out.under cF) j.x bh Hx dW (by rw [←kN.out];exact aQ.out)).mono ?_
  rintro e lc ⟨rfl,ab⟩
  have fP:=lH (cF.out.trans (ab.mono cF.out.size))
  have eJ:Hid (NumOr lc g9 none):=lH (NumOr.under kj ab)
  have gv:Hid (NumOr lc ac none):=lH (NumOr.under jD ab)
  clear ab
  clear cF kj jD
  go_simp
  refine hK.out _ _ (fP.out) (fun hHeld=>?_)
  clear hK K
  try simp only [aP]
  refine rdy 9 ⟨none,.store 67 (.tmp 9) (.tmp 60),0,_,_,none⟩ rfl (fun K hK=>?_)
  obtain ⟨ai,ao,am,ak,⟨z0,o0⟩,⟨z1,o1⟩,⟨z2,o2⟩,⟨z3,o3⟩⟩:=NumOr.facts eJ.out
  obtain ⟨fF,hN⟩:∃ W,W=((((lc.setCell ⟨g9,0,none⟩ (.int .u64 (jU:Int))).setCell ⟨g9,1,none⟩ (.int .u64 (jX:Int))).setCell ⟨g9,2,none⟩ (.int .u64 (jY:Int))).setCell ⟨g9,3,none⟩ (.int .u64 (jH:Int))):=⟨_,rfl⟩
  go_simp
  rw [←hN]
  have gM:Hid (NumOr fF g9 (some (en ch))):=lH (by rw [hN];exact NumOr.set eJ bv)
  have dR:=lH (by rw [hN];exact below4 fP aR _ _ _ _:Below u4.heap.size u4 fF)
  have bD:Hid (NumOr fF ac none):=lH (by rw [hN];exact NumOr.aside4 gv av.out.symm _ _ _ _)
  clear hN z0 o0 z1 o1 z2 o2 z3 o3 ai ao am ak
  clear fP eJ gv
  refine hK.out _ _ (dR.out) (fun hHeld=>?_)
  clear hK K
  try simp only [aP]
  refine rdy 10 ⟨none,.store 67 (.tmp 10) (.tmp 64),0,_,_,none⟩ rfl (fun K hK=>?_)
  obtain ⟨ai,ao,am,ak,⟨z0,o0⟩,⟨z1,o1⟩,⟨z2,o2⟩,⟨z3,o3⟩⟩:=NumOr.facts bD.out
  obtain ⟨fM,hN⟩:∃ W,W=((((fF.setCell ⟨ac,0,none⟩ (.int .u64 (kc:Int))).setCell ⟨ac,1,none⟩ (.int .u64 (jV:Int))).setCell ⟨ac,2,none⟩ (.int .u64 (j9:Int))).setCell ⟨ac,3,none⟩ (.int .u64 (jN:Int))):=⟨_,rfl⟩
  go_simp
  rw [←hN]
  have il:Hid (NumOr fM ac (some (en vv))):=lH (by rw [hN];exact NumOr.set bD aQ)
  have d6:=lH (by rw [hN];exact below4 dR aB _ _ _ _:Below u4.heap.size u4 fM)
  have ka:Hid (NumOr fM g9 (some (en ch))):=lH (by rw [hN];exact NumOr.aside4 gM av _ _ _ _)
  clear hN z0 o0 z1 o1 z2 o2 z3 o3 ai ao am ak
  clear dR gM bD
  refine hK.out _ _ (d6.out) (fun hHeld=>?_)
  clear hK K
  try simp only [aP]
  refine dn ?_
  rw [a6.out]
  exact ⟨rfl,g9,ac,rfl,rfl,HF _ d6,ka,il,aD,dN⟩
  refine AllReadyH.cons (o:=⟨some 10,.alloc 67,0,_,_,none⟩) rfl (fun K hK=>?_) AllReadyH.nil
  obtain ⟨oZ,hN⟩:∃ W,W=V7.alloc (.cells #[.int .u64 0,.int .u64 0,.int .u64 0,.int .u64 0] 67):=⟨_,rfl⟩
  go_simp
  rw [←hN]
  obtain ⟨ac,hg⟩:∃ g,g=V7.heap.size:=⟨_,rfl⟩
  rw [←hg]
  have lM:Hid (NumOr oZ ac none):=lH (by rw [hN,hg];exact NumOr.fresh _)
  have gw:=lH (by rw [hN];exact fp.out.alloc fp.out.size _:Below u4.heap.size u4 oZ)
  have aB:Hid (u4.heap.size≤ac):=lH (by rw [hg];exact fp.out.size)
  have av:Hid (g9≠ac):=lH (by rw [hg];exact Nat.ne_of_lt kx.out.lt)
  have my:Hid (NumOr oZ g9 none):=lH (by rw [hN];exact NumOr.alloc kx _)
  clear hN hg
  have aD:=lH (show w.heap.size+1+1<g9 from (by have h1:=Holds.lt bV.out;have h2:=aR.out;omega))
  have dN:=lH (show w.heap.size+1+1<ac from (by have h1:=Holds.lt bV.out;have h2:=aB.out;omega))
  clear fp kx
  refine hK.out _ _ (gw.out) (fun hHeld=>?_)
  clear hK K
  try simp only [aP]
  refine rdy 2 ⟨some 60,.call ⟨ .value (.func 56),#[.tmp 58,.tmp 59],#[67,67]⟩,67,_,_,none⟩ rfl (fun K hK=>?_)
  go_simp
  refine (mulE oZ (gK.out.under gw) bh ah dW bC (by rw [←oK.out];exact bv.out)).mono ?_
  rintro e n8 ⟨rfl,ab⟩
  have dQ:=lH (gw.out.trans (ab.mono gw.out.size))
  have lO:Hid (NumOr n8 g9 none):=lH (NumOr.under my ab)
  have jt:Hid (NumOr n8 ac none):=lH (NumOr.under lM ab)
  clear ab
  clear gw my lM
  go_simp
  refine hK.out _ _ (dQ.out) (fun hHeld=>?_)
  clear hK K
  try simp only [aP]
  refine rdy 6 ⟨some 64,.call ⟨ .value (.func 56),#[.tmp 62,.tmp 63],#[67,67]⟩,67,_,_,none⟩ rfl (fun K hK=>?_)
  go_simp
  refine (mulE n8 (gK.out.under dQ) j.x bh Hx dW (by rw [←kN.out];exact aQ.out)).mono ?_
  rintro e kZ ⟨rfl,ab⟩
  have fH:=lH (dQ.out.trans (ab.mono dQ.out.size))
  have fI:Hid (NumOr kZ g9 none):=lH (NumOr.under lO ab)
  have gg:Hid (NumOr kZ ac none):=lH (NumOr.under jt ab)
  clear ab
  clear dQ lO jt
  go_simp
  refine hK.out _ _ (fH.out) (fun hHeld=>?_)
  clear hK K
  try simp only [aP]
  refine rdy 9 ⟨none,.store 67 (.tmp 9) (.tmp 60),0,_,_,none⟩ rfl (fun K hK=>?_)
  obtain ⟨ai,ao,am,ak,⟨z0,o0⟩,⟨z1,o1⟩,⟨z2,o2⟩,⟨z3,o3⟩⟩:=NumOr.facts fI.out
  obtain ⟨fj,hN⟩:∃ W,W=((((kZ.setCell ⟨g9,0,none⟩ (.int .u64 (jU:Int))).setCell ⟨g9,1,none⟩ (.int .u64 (jX:Int))).setCell ⟨g9,2,none⟩ (.int .u64 (jY:Int))).setCell ⟨g9,3,none⟩ (.int .u64 (jH:Int))):=⟨_,rfl⟩
  go_simp
  rw [←hN]
  have gi:Hid (NumOr fj g9 (some (en ch))):=lH (by rw [hN];exact NumOr.set fI bv)
  have dK:=lH (by rw [hN];exact below4 fH aR _ _ _ _:Below u4.heap.size u4 fj)
  have bQ:Hid (NumOr fj ac none):=lH (by rw [hN];exact NumOr.aside4 gg av.out.symm _ _ _ _)
  clear hN z0 o0 z1 o1 z2 o2 z3 o3 ai ao am ak
  clear fH fI gg
  refine hK.out _ _ (dK.out) (fun hHeld=>?_)
  clear hK K
  try simp only [aP]
  refine rdy 10 ⟨none,.store 67 (.tmp 10) (.tmp 64),0,_,_,none⟩ rfl (fun K hK=>?_)
  obtain ⟨ai,ao,am,ak,⟨z0,o0⟩,⟨z1,o1⟩,⟨z2,o2⟩,⟨z3,o3⟩⟩:=NumOr.facts bQ.out
  obtain ⟨fJ,hN⟩:∃ W,W=((((fj.setCell ⟨ac,0,none⟩ (.int .u64 (kc:Int))).setCell ⟨ac,1,none⟩ (.int .u64 (jV:Int))).setCell ⟨ac,2,none⟩ (.int .u64 (j9:Int))).setCell ⟨ac,3,none⟩ (.int .u64 (jN:Int))):=⟨_,rfl⟩
  go_simp
  rw [←hN]
  have ir:Hid (NumOr fJ ac (some (en vv))):=lH (by rw [hN];exact NumOr.set bQ aQ)
  have ej:=lH (by rw [hN];exact below4 dK aB _ _ _ _:Below u4.heap.size u4 fJ)
  have jQ:Hid (NumOr fJ g9 (some (en ch))):=lH (by rw [hN];exact NumOr.aside4 gi av _ _ _ _)
  clear hN z0 o0 z1 o1 z2 o2 z3 o3 ai ao am ak
  clear dK gi bQ
  refine hK.out _ _ (ej.out) (fun hHeld=>?_)
  clear hK K
  try simp only [aP]
  refine dn ?_
  rw [a6.out]
  exact ⟨rfl,g9,ac,rfl,rfl,HF _ ej,jQ,ir,aD,dN⟩
  refine AllReadyH.cons (o:=⟨some 10,.alloc 67,0,_,_,none⟩) rfl (fun K hK=>?_) AllReadyH.nil
  obtain ⟨V8,hN⟩:∃ W,W=V.alloc (.cells #[.int .u64 0,.int .u64 0,.int .u64 0,.int .u64 0] 67):=⟨_,rfl⟩
  go_simp
  rw [←hN]
  obtain ⟨ac,hg⟩:∃ g,g=V.heap.size:=⟨_,rfl⟩
  rw [←hg]
  have gQ:Hid (NumOr V8 ac none):=lH (by rw [hN,hg];exact NumOr.fresh _)
  have aK:=lH (by rw [hN];exact ay.out.alloc ay.out.size _:Below u4.heap.size u4 V8)
  have aB:Hid (u4.heap.size≤ac):=lH (by rw [hg];exact ay.out.size)
  clear hN hg
  clear ay
  refine hK.out _ _ (aK.out) (fun hHeld=>?_)
  clear hK K
  try simp only [aP]
  refine wpAnyH_ready (rs:=[2,7]) (by kernel_rfl) (by simp) ?_
  refine AllReadyH.cons (o:=⟨some 60,.call ⟨ .value (.func 56),#[.tmp 58,.tmp 59],#[67,67]⟩,67,_,_,none⟩) rfl (fun K hK=>?_) ?_
  go_simp
  refine (mulE V8 (gK.out.under aK) bh ah dW bC (by rw [←oK.out];exact bv.out)).mono ?_
  rintro e lV ⟨rfl,ab⟩
  have aA:=lH (aK.out.trans (ab.mono aK.out.size))
  have dD:Hid (NumOr lV ac none):=lH (NumOr.under gQ ab)
  clear ab
  clear aK gQ
  go_simp
  refine hK.out _ _ (aA.out) (fun hHeld=>?_)
  clear hK K
  try simp only [aP]
  refine wpAnyH_ready (rs:=[6,7]) (by kernel_rfl) (by simp) ?_
  refine AllReadyH.cons (o:=⟨some 64,.call ⟨ .value (.func 56),#[.tmp 62,.tmp 63],#[67,67]⟩,67,_,_,none⟩) rfl (fun K hK=>?_) ?_
  go_simp
  refine (mulE lV (gK.out.under aA) j.x bh Hx dW (by rw [←kN.out];exact aQ.out)).mono ?_
  rintro e nU ⟨rfl,ab⟩
  have cM:=lH (aA.out.trans (ab.mono aA.out.size))
  have e_:Hid (NumOr nU ac none):=lH (NumOr.under dD ab)
  clear ab
  clear aA dD
  go_simp
  refine hK.out _ _ (cM.out) (fun hHeld=>?_)
  clear hK K
  try simp only [aP]
  refine rdy 7 ⟨some 9,.alloc 67,0,_,_,none⟩ rfl (fun K hK=>?_)
  obtain ⟨jo,hN⟩:∃ W,W=nU.alloc (.cells #[.int .u64 0,.int .u64 0,.int .u64 0,.int .u64 0] 67):=⟨_,rfl⟩
  go_simp
  rw [←hN]
  obtain ⟨g9,hg⟩:∃ g,g=nU.heap.size:=⟨_,rfl⟩
  rw [←hg]
  have fv:Hid (NumOr jo g9 none):=lH (by rw [hN,hg];exact NumOr.fresh _)
  have eV:=lH (by rw [hN];exact cM.out.alloc cM.out.size _:Below u4.heap.size u4 jo)
  have aR:Hid (u4.heap.size≤g9):=lH (by rw [hg];exact cM.out.size)
  have aw:Hid (ac≠g9):=lH (by rw [hg];exact Nat.ne_of_lt e_.out.lt)
  have g_:Hid (NumOr jo ac none):=lH (by rw [hN];exact NumOr.alloc e_ _)
  clear hN hg
  have aD:=lH (show w.heap.size+1+1<g9 from (by have h1:=Holds.lt bV.out;have h2:=aR.out;omega))
  have dN:=lH (show w.heap.size+1+1<ac from (by have h1:=Holds.lt bV.out;have h2:=aB.out;omega))
  clear cM e_
  refine hK.out _ _ (eV.out) (fun hHeld=>?_)
  clear hK K
  try simp only [aP]
  refine rdy 9 ⟨none,.store 67 (.tmp 9) (.tmp 60),0,_,_,none⟩ rfl (fun K hK=>?_)
  obtain ⟨ai,ao,am,ak,⟨z0,o0⟩,⟨z1,o1⟩,⟨z2,o2⟩,⟨z3,o3⟩⟩:=NumOr.facts fv.out
  obtain ⟨eN,hN⟩:∃ W,W=((((jo.setCell ⟨g9,0,none⟩ (.int .u64 (jU:Int))).setCell ⟨g9,1,none⟩ (.int .u64 (jX:Int))).setCell ⟨g9,2,none⟩ (.int .u64 (jY:Int))).setCell ⟨g9,3,none⟩ (.int .u64 (jH:Int))):=⟨_,rfl⟩
  go_simp
  rw [←hN]
  have h_:Hid (NumOr eN g9 (some (en ch))):=lH (by rw [hN];exact NumOr.set fv bv)
  have b_:=lH (by rw [hN];exact below4 eV aR _ _ _ _:Below u4.heap.size u4 eN)
  have bM:Hid (NumOr eN ac none):=lH (by rw [hN];exact NumOr.aside4 g_ aw _ _ _ _)
  clear hN z0 o0 z1 o1 z2 o2 z3 o3 ai ao am ak
  clear eV g_ fv
  refine hK.out _ _ (b_.out) (fun hHeld=>?_)
  clear hK K
  try simp only [aP]
  refine rdy 10 ⟨none,.store 67 (.tmp 10) (.tmp 64),0,_,_,none⟩ rfl (fun K hK=>?_)
  obtain ⟨ai,ao,am,ak,⟨z0,o0⟩,⟨z1,o1⟩,⟨z2,o2⟩,⟨z3,o3⟩⟩:=NumOr.facts bM.out
  obtain ⟨e9,hN⟩:∃ W,W=((((eN.setCell ⟨ac,0,none⟩ (.int .u64 (kc:Int))).setCell ⟨ac,1,none⟩ (.int .u64 (jV:Int))).setCell ⟨ac,2,none⟩ (.int .u64 (j9:Int))).setCell ⟨ac,3,none⟩ (.int .u64 (jN:Int))):=⟨_,rfl⟩
  go_simp
  rw [←hN]
  have iB:Hid (NumOr e9 ac (some (en vv))):=lH (by rw [hN];exact NumOr.set bM aQ)
  have eF:=lH (by rw [hN];exact below4 b_ aB _ _ _ _:Below u4.heap.size u4 e9)
  have jL:Hid (NumOr e9 g9 (some (en ch))):=lH (by rw [hN];exact NumOr.aside4 h_ aw.out.symm _ _ _ _)
  clear hN z0 o0 z1 o1 z2 o2 z3 o3 ai ao am ak
  clear b_ bM h_
  refine hK.out _ _ (eF.out) (fun hHeld=>?_)
  clear hK K
  try simp only [aP]
  refine dn ?_
  rw [a6.out]
  exact ⟨rfl,g9,ac,rfl,rfl,HF _ eF,jL,iB,aD,dN⟩
  refine AllReadyH.cons (o:=⟨some 9,.alloc 67,0,_,_,none⟩) rfl (fun K hK=>?_) AllReadyH.nil
  obtain ⟨ma,hN⟩:∃ W,W=lV.alloc (.cells #[.int .u64 0,.int .u64 0,.int .u64 0,.int .u64 0] 67):=⟨_,rfl⟩
  go_simp
  rw [←hN]
  obtain ⟨g9,hg⟩:∃ g,g=lV.heap.size:=⟨_,rfl⟩
  rw [←hg]
  have lq:Hid (NumOr ma g9 none):=lH (by rw [hN,hg];exact NumOr.fresh _)
  have dL:=lH (by rw [hN];exact aA.out.alloc aA.out.size _:Below u4.heap.size u4 ma)
  have aR:Hid (u4.heap.size≤g9):=lH (by rw [hg];exact aA.out.size)
  have aw:Hid (ac≠g9):=lH (by rw [hg];exact Nat.ne_of_lt dD.out.lt)
  have i4:Hid (NumOr ma ac none):=lH (by rw [hN];exact NumOr.alloc dD _)
  clear hN hg
  have aD:=lH (show w.heap.size+1+1<g9 from (by have h1:=Holds.lt bV.out;have h2:=aR.out;omega))
  have dN:=lH (show w.heap.size+1+1<ac from (by have h1:=Holds.lt bV.out;have h2:=aB.out;omega))
  clear aA dD
  refine hK.out _ _ (dL.out) (fun hHeld=>?_)
  clear hK K
  try simp only [aP]
  refine rdy 6 ⟨some 64,.call ⟨ .value (.func 56),#[.tmp 62,.tmp 63],#[67,67]⟩,67,_,_,none⟩ rfl (fun K hK=>?_)
  go_simp
  refine (mulE ma (gK.out.under dL) j.x bh Hx dW (by rw [←kN.out];exact aQ.out)).mono ?_
  rintro e kJ ⟨rfl,ab⟩
  have fR:=lH (dL.out.trans (ab.mono dL.out.size))
  have hC:Hid (NumOr kJ ac none):=lH (NumOr.under i4 ab)
  have fG:Hid (NumOr kJ g9 none):=lH (NumOr.under lq ab)
  clear ab
  clear dL i4 lq
  go_simp
  refine hK.out _ _ (fR.out) (fun hHeld=>?_)
  clear hK K
  try simp only [aP]
  refine rdy 9 ⟨none,.store 67 (.tmp 9) (.tmp 60),0,_,_,none⟩ rfl (fun K hK=>?_)
  obtain ⟨ai,ao,am,ak,⟨z0,o0⟩,⟨z1,o1⟩,⟨z2,o2⟩,⟨z3,o3⟩⟩:=NumOr.facts fG.out
  obtain ⟨eX,hN⟩:∃ W,W=((((kJ.setCell ⟨g9,0,none⟩ (.int .u64 (jU:Int))).setCell ⟨g9,1,none⟩ (.int .u64 (jX:Int))).setCell ⟨g9,2,none⟩ (.int .u64 (jY:Int))).setCell ⟨g9,3,none⟩ (.int .u64 (jH:Int))):=⟨_,rfl⟩
  go_simp
  rw [←hN]
  have gD:Hid (NumOr eX g9 (some (en ch))):=lH (by rw [hN];exact NumOr.set fG bv)
  have dI:=lH (by rw [hN];exact below4 fR aR _ _ _ _:Below u4.heap.size u4 eX)
  have bS:Hid (NumOr eX ac none):=lH (by rw [hN];exact NumOr.aside4 hC aw _ _ _ _)
  clear hN z0 o0 z1 o1 z2 o2 z3 o3 ai ao am ak
  clear fR hC fG
  refine hK.out _ _ (dI.out) (fun hHeld=>?_)
  clear hK K
  try simp only [aP]
  refine rdy 10 ⟨none,.store 67 (.tmp 10) (.tmp 64),0,_,_,none⟩ rfl (fun K hK=>?_)
  obtain ⟨ai,ao,am,ak,⟨z0,o0⟩,⟨z1,o1⟩,⟨z2,o2⟩,⟨z3,o3⟩⟩:=NumOr.facts bS.out
  obtain ⟨fg,hN⟩:∃ W,W=((((eX.setCell ⟨ac,0,none⟩ (.int .u64 (kc:Int))).setCell ⟨ac,1,none⟩ (.int .u64 (jV:Int))).setCell ⟨ac,2,none⟩ (.int .u64 (j9:Int))).setCell ⟨ac,3,none⟩ (.int .u64 (jN:Int))):=⟨_,rfl⟩
  go_simp
  rw [←hN]
  have iQ:Hid (NumOr fg ac (some (en vv))):=lH (by rw [hN];exact NumOr.set bS aQ)
  have dZ:=lH (by rw [hN];exact below4 dI aB _ _ _ _:Below u4.heap.size u4 fg)
  have jM:Hid (NumOr fg g9 (some (en ch))):=lH (by rw [hN];exact NumOr.aside4 gD aw.out.symm _ _ _ _)
  clear hN z0 o0 z1 o1 z2 o2 z3 o3 ai ao am ak
  clear dI bS gD
  refine hK.out _ _ (dZ.out) (fun hHeld=>?_)
  clear hK K
  try simp only [aP]
  refine dn ?_
  rw [a6.out]
  exact ⟨rfl,g9,ac,rfl,rfl,HF _ dZ,jM,iQ,aD,dN⟩
  refine AllReadyH.cons (o:=⟨some 9,.alloc 67,0,_,_,none⟩) rfl (fun K hK=>?_) AllReadyH.nil
  obtain ⟨oX,hN⟩:∃ W,W=V8.alloc (.cells #[.int .u64 0,.int .u64 0,.int .u64 0,.int .u64 0] 67):=⟨_,rfl⟩
  go_simp
  rw [←hN]
  obtain ⟨g9,hg⟩:∃ g,g=V8.heap.size:=⟨_,rfl⟩
  rw [←hg]
  have mF:Hid (NumOr oX g9 none):=lH (by rw [hN,hg];exact NumOr.fresh _)
  have gA:=lH (by rw [hN];exact aK.out.alloc aK.out.size _:Below u4.heap.size u4 oX)
  have aR:Hid (u4.heap.size≤g9):=lH (by rw [hg];exact aK.out.size)
  have aw:Hid (ac≠g9):=lH (by rw [hg];exact Nat.ne_of_lt gQ.out.lt)
  have lG:Hid (NumOr oX ac none):=lH (by rw [hN];exact NumOr.alloc gQ _)
  clear hN hg
  have aD:=lH (show w.heap.size+1+1<g9 from (by have h1:=Holds.lt bV.out;have h2:=aR.out;omega))
  have dN:=lH (show w.heap.size+1+1<ac from (by have h1:=Holds.lt bV.out;have h2:=aB.out;omega))
  clear aK gQ
  refine hK.out _ _ (gA.out) (fun hHeld=>?_)
  clear hK K
  try simp only [aP]
  refine rdy 2 ⟨some 60,.call ⟨ .value (.func 56),#[.tmp 58,.tmp 59],#[67,67]⟩,67,_,_,none⟩ rfl (fun K hK=>?_)
  go_simp
  refine (mulE oX (gK.out.under gA) bh ah dW bC (by rw [←oK.out];exact bv.out)).mono ?_
  rintro e nB ⟨rfl,ab⟩
  have dU:=lH (gA.out.trans (ab.mono gA.out.size))
  have ja:Hid (NumOr nB ac none):=lH (NumOr.under lG ab)
  have kW:Hid (NumOr nB g9 none):=lH (NumOr.under mF ab)
  clear ab
  clear gA lG mF
  go_simp
  refine hK.out _ _ (dU.out) (fun hHeld=>?_)
  clear hK K
  try simp only [aP]
  refine rdy 6 ⟨some 64,.call ⟨ .value (.func 56),#[.tmp 62,.tmp 63],#[67,67]⟩,67,_,_,none⟩ rfl (fun K hK=>?_)
  go_simp
  refine (mulE nB (gK.out.under dU) j.x bh Hx dW (by rw [←kN.out];exact aQ.out)).mono ?_
  rintro e kP ⟨rfl,ab⟩
  have eT:=lH (dU.out.trans (ab.mono dU.out.size))
  have gO:Hid (NumOr kP ac none):=lH (NumOr.under ja ab)
  have fu:Hid (NumOr kP g9 none):=lH (NumOr.under kW ab)
  clear ab
  clear dU ja kW
  go_simp
  refine hK.out _ _ (eT.out) (fun hHeld=>?_)
  clear hK K
  try simp only [aP]
  refine rdy 9 ⟨none,.store 67 (.tmp 9) (.tmp 60),0,_,_,none⟩ rfl (fun K hK=>?_)
  obtain ⟨ai,ao,am,ak,⟨z0,o0⟩,⟨z1,o1⟩,⟨z2,o2⟩,⟨z3,o3⟩⟩:=NumOr.facts fu.out
  obtain ⟨fW,hN⟩:∃ W,W=((((kP.setCell ⟨g9,0,none⟩ (.int .u64 (jU:Int))).setCell ⟨g9,1,none⟩ (.int .u64 (jX:Int))).setCell ⟨g9,2,none⟩ (.int .u64 (jY:Int))).setCell ⟨g9,3,none⟩ (.int .u64 (jH:Int))):=⟨_,rfl⟩
  go_simp
  rw [←hN]
  have gc:Hid (NumOr fW g9 (some (en ch))):=lH (by rw [hN];exact NumOr.set fu bv)
  have di:=lH (by rw [hN];exact below4 eT aR _ _ _ _:Below u4.heap.size u4 fW)
  have bz:Hid (NumOr fW ac none):=lH (by rw [hN];exact NumOr.aside4 gO aw _ _ _ _)
  clear hN z0 o0 z1 o1 z2 o2 z3 o3 ai ao am ak
  clear eT gO fu
  refine hK.out _ _ (di.out) (fun hHeld=>?_)
  clear hK K
  try simp only [aP]
  refine rdy 10 ⟨none,.store 67 (.tmp 10) (.tmp 64),0,_,_,none⟩ rfl (fun K hK=>?_)
  obtain ⟨ai,ao,am,ak,⟨z0,o0⟩,⟨z1,o1⟩,⟨z2,o2⟩,⟨z3,o3⟩⟩:=NumOr.facts bz.out
  obtain ⟨fV,hN⟩:∃ W,W=((((fW.setCell ⟨ac,0,none⟩ (.int .u64 (kc:Int))).setCell ⟨ac,1,none⟩ (.int .u64 (jV:Int))).setCell ⟨ac,2,none⟩ (.int .u64 (j9:Int))).setCell ⟨ac,3,none⟩ (.int .u64 (jN:Int))):=⟨_,rfl⟩
  go_simp
  rw [←hN]
  have iC:Hid (NumOr fV ac (some (en vv))):=lH (by rw [hN];exact NumOr.set bz aQ)
  have ep:=lH (by rw [hN];exact below4 di aB _ _ _ _:Below u4.heap.size u4 fV)
  have j8:Hid (NumOr fV g9 (some (en ch))):=lH (by rw [hN];exact NumOr.aside4 gc aw.out.symm _ _ _ _)
  clear hN z0 o0 z1 o1 z2 o2 z3 o3 ai ao am ak
  clear di bz gc
  refine hK.out _ _ (ep.out) (fun hHeld=>?_)
  clear hK K
  try simp only [aP]
  refine dn ?_
  rw [a6.out]
  exact ⟨rfl,g9,ac,rfl,rfl,HF _ ep,j8,iC,aD,dN⟩
 rintro e a u5 hq
 rw [a6.out] at hq
 obtain ⟨rfl,g9,ac,eI,jz,jc⟩:=hq
 have dY:=lH jc
 clear jc a6 gZ
 obtain ⟨tm,df⟩:=a
 dsimp only at eI jz
 subst jz
 obtain ⟨U,hU⟩:∃ U:Nat→Value,∀ i,tm.getD i undef=U i:=⟨_,fun _=>rfl⟩
 simp only [tG,hU] at eI
 clear hU
 subst eI
 go_step
 go_step
 (repeat (first | (apply wp_seq_k;intro _ _) | apply wp_block))
 obtain ⟨pA,iJ⟩:∃ Q:Exit→Act→World→Prop,Hid (Q=fun e a W=>e = .normal∧∃ (au:Nat),a.tmps=#[tG a 0,tG a 1,.pointer (some ⟨w.heap.size,0,none⟩),.pointer (some ⟨w.heap.size+1,0,none⟩),.pointer (some ⟨w.heap.size+1+1,0,none⟩),.pointer (some ⟨g5,0,none⟩),.pointer (some ⟨g6,0,none⟩),.pointer (some ⟨g7,0,none⟩),.pointer (some ⟨g8,0,none⟩),.pointer (some ⟨g9,0,none⟩),.pointer (some ⟨ac,0,none⟩),.pointer (some ⟨au,0,none⟩),tG a 12,tG a 13,tG a 14,tG a 15,tG a 16,tG a 17,tG a 18,tG a 19,tG a 20,tG a 21,tG a 22,tG a 23,tG a 24,tG a 25,tG a 26,tG a 27,tG a 28,tG a 29,tG a 30,tG a 31,tG a 32,tG a 33,tG a 34,tG a 35,tG a 36,tG a 37,tG a 38,tG a 39,tG a 40,tG a 41,tG a 42,tG a 43,tG a 44,tG a 45,tG a 46,tG a 47,tG a 48,tG a 49,tG a 50,tG a 51,tG a 52,tG a 53,tG a 54,tG a 55,tG a 56,tG a 57,tG a 58,tG a 59,tG a 60,tG a 61,tG a 62,tG a 63,tG a 64,tG a 65,tG a 66,tG a 67,tG a 68,tG a 69,tG a 70,tG a 71,tG a 72,tG a 73,tG a 74,tG a 75,tG a 76,tG a 77,tG a 78,tG a 79,tG a 80,tG a 81,tG a 82,tG a 83,tG a 84,tG a 85,tG a 86,tG a 87,tG a 88,tG a 89]∧a.defers=[]∧(((((((Holds W w.heap.size 69 #[.int .u64 (x0:Int),.int .u64 (x1:Int),.int .u64 (x2:Int),.int .u64 (x3:Int),.int .u64 (y0:Int),.int .u64 (y1:Int),.int .u64 (y2:Int),.int .u64 (y3:Int),.int .u64 (z0:Int),.int .u64 (z1:Int),.int .u64 (z2:Int),.int .u64 (z3:Int)])∧(Holds W (w.heap.size+1+1) 69 #[.int .u64 0,.int .u64 0,.int .u64 0,.int .u64 0,.int .u64 0,.int .u64 0,.int .u64 0,.int .u64 0,.int .u64 0,.int .u64 0,.int .u64 0,.int .u64 0])∧(Below w.heap.size w W)∧(CMet W)∧(Holds W (w.heap.size+1) 26 #[.slice Ax lx.length cx,.slice Ay ly.length cy,.bool false])∧(Rd .u32 W W.heap.size Ax cx lx)∧(Rd .u32 W W.heap.size Ay cy ly))∧(NumOr W g5 (some (en zz)))∧(w.heap.size+1+1<g5))∧(NumOr W g6 (some (en ah)))∧(w.heap.size+1+1<g6))∧(NumOr W g7 (some (en ar)))∧(w.heap.size+1+1<g7))∧(NumOr W g8 (some (en bh)))∧(w.heap.size+1+1<g8))∧(NumOr W g9 (some (en ch)))∧(NumOr W ac (some (en vv)))∧(w.heap.size+1+1<g9)∧(w.heap.size+1+1<ac))∧(NumOr W au (some (en X)))∧(w.heap.size+1+1<au)):=⟨_,lH rfl⟩
 refine Code.wp_mono (Q:=pA) ?_ ?_
 rotate_left 1
 ·have qz:=lH (dY.out.1.1.1.1.1.1)
  have nD:=lH (dY.out.1.1.1.1.1.2.1)
  have qx:=lH (dY.out.1.1.1.1.1.2.2.1)
  have iV:=lH (dY.out.1.1.1.1.1.2.2.2.1)
  have qu:=lH (dY.out.1.1.1.1.1.2.2.2.2.1)
  have rW:=lH (dY.out.1.1.1.1.1.2.2.2.2.2.1)
  have rR:=lH (dY.out.1.1.1.1.1.2.2.2.2.2.2)
  have qf:=lH (dY.out.1.1.1.1.2.1)
  have bW:=lH (dY.out.1.1.1.1.2.2)
  have pI:=lH (dY.out.1.1.1.2.1)
  have bX:=lH (dY.out.1.1.1.2.2)
  have nK:=lH (dY.out.1.1.2.1)
  have gt:=lH (dY.out.1.1.2.2)
  have pT:=lH (dY.out.1.2.1)
  have kn:=lH (dY.out.1.2.2)
  have oC:=lH (dY.out.2.1)
  have np:=lH (dY.out.2.2.1)
  have nO:=lH (dY.out.2.2.2.1)
  have kI:=lH (dY.out.2.2.2.2)
  have bU:=lH (FU.out.2.2.2.2.2.2.2.2.2.2.2.2.2.2)
  have qO:=lH (FW.out.2.2.2.1)
  have pP:=lH (FW.out.2.2.2.2.1)
  have oY:=lH (FW.out.2.2.2.2.2.1)
  have EX:=lH (FW.out.2.2.2.2.2.2.1)
  have bv:=lH (FW.out.2.2.2.2.2.2.2.2.2.2.2.2.2.1)
  have aQ:=lH (FW.out.2.2.2.2.2.2.2.2.2.2.2.2.2.2.1)
  have oq:=lH (FW.out.2.2.2.2.2.2.2.2.2.2.2.2.2.2.2.1)
  have m_:=lH (FW.out.2.2.2.2.2.2.2.2.2.2.2.2.2.2.2.2.1)
  have l_:=lH (FW.out.2.2.2.2.2.2.2.2.2.2.2.2.2.2.2.2.2.1)
  have HX:=lH (FW.out.2.2.2.2.2.2.2.2.2.2.2.2.2.2.2.2.2.2.1)
  clear dY FV FU FW
  have HF:Hid (∀ W,Below u5.heap.size u5 W→((((((Holds W w.heap.size 69 #[.int .u64 (x0:Int),.int .u64 (x1:Int),.int .u64 (x2:Int),.int .u64 (x3:Int),.int .u64 (y0:Int),.int .u64 (y1:Int),.int .u64 (y2:Int),.int .u64 (y3:Int),.int .u64 (z0:Int),.int .u64 (z1:Int),.int .u64 (z2:Int),.int .u64 (z3:Int)])∧(Holds W (w.heap.size+1+1) 69 #[.int .u64 0,.int .u64 0,.int .u64 0,.int .u64 0,.int .u64 0,.int .u64 0,.int .u64 0,.int .u64 0,.int .u64 0,.int .u64 0,.int .u64 0,.int .u64 0])∧(Below w.heap.size w W)∧(CMet W)∧(Holds W (w.heap.size+1) 26 #[.slice Ax lx.length cx,.slice Ay ly.length cy,.bool false])∧(Rd .u32 W W.heap.size Ax cx lx)∧(Rd .u32 W W.heap.size Ay cy ly))∧(NumOr W g5 (some (en zz)))∧(w.heap.size+1+1<g5))∧(NumOr W g6 (some (en ah)))∧(w.heap.size+1+1<g6))∧(NumOr W g7 (some (en ar)))∧(w.heap.size+1+1<g7))∧(NumOr W g8 (some (en bh)))∧(w.heap.size+1+1<g8))∧(NumOr W g9 (some (en ch)))∧(NumOr W ac (some (en vv)))∧(w.heap.size+1+1<g9)∧(w.heap.size+1+1<ac)):=lH fun W h=>⟨⟨⟨⟨⟨⟨qz.out.under h (Holds.lt qz),nD.out.under h (Holds.lt nD),qx.out.trans (h.mono qx.out.size),iV.out.under h,qu.out.under h (Holds.lt qu),(rW.out.under h).more h.size,(rR.out.under h).more h.size⟩,NumOr.under qf h,bW⟩,NumOr.under pI h,bX⟩,NumOr.under nK h,gt⟩,NumOr.under pT h,kn⟩,NumOr.under oC h,NumOr.under np h,nO,kI⟩
  refine wp_region_noPanic ?_
  refine wp_region_held_drew (S:=fun W=>Below u5.heap.size u5 W) (by kernel_rfl) ((Below.refl _ u5).drew) (fun hHeld=>?_)
  obtain ⟨V,hV⟩:∃ W,W=u5.drew:=⟨_,rfl⟩
  rw [←hV]
  have ay:Hid (Below u5.heap.size u5 V):=lH (by rw [hV];exact (Below.refl _ u5).drew)
  replace hHeld:(fun W=>Below u5.heap.size u5 W) V:=ay.out
  clear hV
  refine tk 0 ⟨some 65,.load 67 (.tmp 7),67,_,_,none⟩ ?_ rfl ?_ hHeld ?_
  rotate_left 1
  ·(intro W hW;have aT:=(NumOr.under nK.out hW).cells bU.out;obtain ⟨q0,q1,q2,q3⟩:=aT;(try dsimp only at hW);go_simp;try with_reducible rfl)
  try simp only [aP]
  refine tk 1 ⟨some 66,.load 67 (.tmp 7),67,_,_,none⟩ ?_ rfl ?_ hHeld ?_
  rotate_left 1
  ·(intro W hW;have aT:=(NumOr.under nK.out hW).cells bU.out;obtain ⟨q0,q1,q2,q3⟩:=aT;(try dsimp only at hW);go_simp;try with_reducible rfl)
  try simp only [aP]
  refine tk 3 ⟨some 68,.load 67 (.tmp 9),67,_,_,none⟩ ?_ rfl ?_ hHeld ?_
  rotate_left 1
  ·(intro W hW;have aT:=(NumOr.under oC.out hW).cells bv.out;obtain ⟨q0,q1,q2,q3⟩:=aT;(try dsimp only at hW);go_simp;try with_reducible rfl)
  try simp only [aP]
  refine tk 5 ⟨some 70,.load 67 (.tmp 10),67,_,_,none⟩ ?_ rfl ?_ hHeld ?_
  rotate_left 1
  ·(intro W hW;have aT:=(NumOr.under np.out hW).cells aQ.out;obtain ⟨q0,q1,q2,q3⟩:=aT;(try dsimp only at hW);go_simp;try with_reducible rfl)
  try simp only [aP]
  refine wpAnyH_ready (rs:=[2,8]) (by kernel_rfl) (by simp) ?_
  refine AllReadyH.cons (o:=⟨some 67,.call ⟨ .value (.func 56),#[.tmp 65,.tmp 66],#[67,67]⟩,67,_,_,none⟩) rfl (fun K hK=>?_) ?_
  go_simp
  refine (mulE V (iV.out.under ay) ar ar bU bU (by rw [←qO.out];exact oq.out)).mono ?_
  rintro e V2 ⟨rfl,ab⟩
  have ae:=lH (ay.out.trans (ab.mono ay.out.size))
  clear ab
  clear ay
  go_simp
  refine hK.out _ _ (ae.out) (fun hHeld=>?_)
  clear hK K
  try simp only [aP]
  refine wpAnyH_ready (rs:=[4,8]) (by kernel_rfl) (by simp) ?_
  refine AllReadyH.cons (o:=⟨some 69,.call ⟨ .value (.func 55),#[.tmp 67,.tmp 68],#[67,67]⟩,67,_,_,none⟩) rfl (fun K hK=>?_) ?_
  go_simp
  refine (subE V2 (iV.out.under ae) rr ch oq bv (by rw [←pP.out];exact m_.out)).mono ?_
  rintro e nL ⟨rfl,ab⟩
  have aF:=lH (ae.out.trans (ab.mono ae.out.size))
  clear ab
  clear ae
  go_simp
  refine hK.out _ _ (aF.out) (fun hHeld=>?_)
  clear hK K
  try simp only [aP]
  refine wpAnyH_ready (rs:=[6,8]) (by kernel_rfl) (by simp) ?_
  refine AllReadyH.cons (o:=⟨some 71,.call ⟨ .value (.func 78),#[.tmp 70],#[67]⟩,67,_,_,none⟩) rfl (fun K hK=>?_) ?_
  go_simp
  refine (twiceE nL (iV.out.under aF) vv aQ (by rw [←oY.out];exact l_.out)).mono ?_
  rintro e nZ ⟨rfl,ab⟩
  have aN:=lH (aF.out.trans (ab.mono aF.out.size))
  clear ab
  clear aF
  go_simp
  refine hK.out _ _ (aN.out) (fun hHeld=>?_)
  clear hK K
  try simp only [aP]
  refine wpAnyH_ready (rs:=[7,8]) (by kernel_rfl) (by simp) ?_
  refine AllReadyH.cons (o:=⟨some 72,.call ⟨ .value (.func 55),#[.tmp 69,.tmp 71],#[67,67]⟩,67,_,_,none⟩) rfl (fun K hK=>?_) ?_
  go_simp
  refine (subE nZ (iV.out.under aN) s1 v2 m_ l_ (by rw [←EX.out];exact HX.out)).mono ?_
  rintro e m8 ⟨rfl,ab⟩
  have bn:=lH (aN.out.trans (ab.mono aN.out.size))
  clear ab
  clear aN
  go_simp
  refine hK.out _ _ (bn.out) (fun hHeld=>?_)
  clear hK K
  try simp only [aP]
  refine rdy 8 ⟨some 11,.alloc 67,0,_,_,none⟩ rfl (fun K hK=>?_)
  obtain ⟨iI,hN⟩:∃ W,W=m8.alloc (.cells #[.int .u64 0,.int .u64 0,.int .u64 0,.int .u64 0] 67):=⟨_,rfl⟩
  go_simp
  rw [←hN]
  obtain ⟨au,hg⟩:∃ g,g=m8.heap.size:=⟨_,rfl⟩
  rw [←hg]
  have bP:Hid (NumOr iI au none):=lH (by rw [hN,hg];exact NumOr.fresh _)
  have dr:=lH (by rw [hN];exact bn.out.alloc bn.out.size _:Below u5.heap.size u5 iI)
  have bt:Hid (u5.heap.size≤au):=lH (by rw [hg];exact bn.out.size)
  clear hN hg
  have aD:=lH (show w.heap.size+1+1<au from (by have h1:=Holds.lt nD.out;have h2:=bt.out;omega))
  clear bn
  refine hK.out _ _ (dr.out) (fun hHeld=>?_)
  clear hK K
  try simp only [aP]
  refine rdy 9 ⟨none,.store 67 (.tmp 11) (.tmp 72),0,_,_,none⟩ rfl (fun K hK=>?_)
  obtain ⟨ai,ao,am,ak,⟨z0,o0⟩,⟨z1,o1⟩,⟨z2,o2⟩,⟨z3,o3⟩⟩:=NumOr.facts bP.out
  obtain ⟨jn,hN⟩:∃ W,W=((((iI.setCell ⟨au,0,none⟩ (.int .u64 (X0:Int))).setCell ⟨au,1,none⟩ (.int .u64 (X1:Int))).setCell ⟨au,2,none⟩ (.int .u64 (X2:Int))).setCell ⟨au,3,none⟩ (.int .u64 (X3:Int))):=⟨_,rfl⟩
  go_simp
  rw [←hN]
  have iU:Hid (NumOr jn au (some (en X))):=lH (by rw [hN];exact NumOr.set bP HX)
  have ec:=lH (by rw [hN];exact below4 dr bt _ _ _ _:Below u5.heap.size u5 jn)
  clear hN z0 o0 z1 o1 z2 o2 z3 o3 ai ao am ak
  clear dr bP
  refine hK.out _ _ (ec.out) (fun hHeld=>?_)
  clear hK K
  try simp only [aP]
  refine dn ?_
  rw [iJ.out]
  exact ⟨rfl,au,rfl,rfl,HF _ ec,iU,aD⟩
  refine AllReadyH.cons (o:=⟨some 11,.alloc 67,0,_,_,none⟩) rfl (fun K hK=>?_) AllReadyH.nil
  obtain ⟨lJ,hN⟩:∃ W,W=nZ.alloc (.cells #[.int .u64 0,.int .u64 0,.int .u64 0,.int .u64 0] 67):=⟨_,rfl⟩
  go_simp
  rw [←hN]
  obtain ⟨au,hg⟩:∃ g,g=nZ.heap.size:=⟨_,rfl⟩
  rw [←hg]
  have hI:Hid (NumOr lJ au none):=lH (by rw [hN,hg];exact NumOr.fresh _)
  have ba:=lH (by rw [hN];exact aN.out.alloc aN.out.size _:Below u5.heap.size u5 lJ)
  have bt:Hid (u5.heap.size≤au):=lH (by rw [hg];exact aN.out.size)
  clear hN hg
  have aD:=lH (show w.heap.size+1+1<au from (by have h1:=Holds.lt nD.out;have h2:=bt.out;omega))
  clear aN
  refine hK.out _ _ (ba.out) (fun hHeld=>?_)
  clear hK K
  try simp only [aP]
  refine rdy 7 ⟨some 72,.call ⟨ .value (.func 55),#[.tmp 69,.tmp 71],#[67,67]⟩,67,_,_,none⟩ rfl (fun K hK=>?_)
  go_simp
  refine (subE lJ (iV.out.under ba) s1 v2 m_ l_ (by rw [←EX.out];exact HX.out)).mono ?_
  rintro e kw ⟨rfl,ab⟩
  have du:=lH (ba.out.trans (ab.mono ba.out.size))
  have bx:Hid (NumOr kw au none):=lH (NumOr.under hI ab)
  clear ab
  clear ba hI
  go_simp
  refine hK.out _ _ (du.out) (fun hHeld=>?_)
  clear hK K
  try simp only [aP]
  refine rdy 9 ⟨none,.store 67 (.tmp 11) (.tmp 72),0,_,_,none⟩ rfl (fun K hK=>?_)
  obtain ⟨ai,ao,am,ak,⟨z0,o0⟩,⟨z1,o1⟩,⟨z2,o2⟩,⟨z3,o3⟩⟩:=NumOr.facts bx.out
  obtain ⟨i_,hN⟩:∃ W,W=((((kw.setCell ⟨au,0,none⟩ (.int .u64 (X0:Int))).setCell ⟨au,1,none⟩ (.int .u64 (X1:Int))).setCell ⟨au,2,none⟩ (.int .u64 (X2:Int))).setCell ⟨au,3,none⟩ (.int .u64 (X3:Int))):=⟨_,rfl⟩
  go_simp
  rw [←hN]
  have iX:Hid (NumOr i_ au (some (en X))):=lH (by rw [hN];exact NumOr.set bx HX)
  have ei:=lH (by rw [hN];exact below4 du bt _ _ _ _:Below u5.heap.size u5 i_)
  clear hN z0 o0 z1 o1 z2 o2 z3 o3 ai ao am ak
  clear du bx
  refine hK.out _ _ (ei.out) (fun hHeld=>?_)
  clear hK K
  try simp only [aP]
  refine dn ?_
  rw [iJ.out]
  exact ⟨rfl,au,rfl,rfl,HF _ ei,iX,aD⟩
  refine AllReadyH.cons (o:=⟨some 11,.alloc 67,0,_,_,none⟩) rfl (fun K hK=>?_) AllReadyH.nil
  obtain ⟨iP,hN⟩:∃ W,W=nL.alloc (.cells #[.int .u64 0,.int .u64 0,.int .u64 0,.int .u64 0] 67):=⟨_,rfl⟩
  go_simp
  rw [←hN]
  obtain ⟨au,hg⟩:∃ g,g=nL.heap.size:=⟨_,rfl⟩
  rw [←hg]
  have js:Hid (NumOr iP au none):=lH (by rw [hN,hg];exact NumOr.fresh _)
  have aJ:=lH (by rw [hN];exact aF.out.alloc aF.out.size _:Below u5.heap.size u5 iP)
  have bt:Hid (u5.heap.size≤au):=lH (by rw [hg];exact aF.out.size)
  clear hN hg
  have aD:=lH (show w.heap.size+1+1<au from (by have h1:=Holds.lt nD.out;have h2:=bt.out;omega))
  clear aF
  refine hK.out _ _ (aJ.out) (fun hHeld=>?_)
  clear hK K
  try simp only [aP]
  refine rdy 6 ⟨some 71,.call ⟨ .value (.func 78),#[.tmp 70],#[67]⟩,67,_,_,none⟩ rfl (fun K hK=>?_)
  go_simp
  refine (twiceE iP (iV.out.under aJ) vv aQ (by rw [←oY.out];exact l_.out)).mono ?_
  rintro e mB ⟨rfl,ab⟩
  have br:=lH (aJ.out.trans (ab.mono aJ.out.size))
  have gW:Hid (NumOr mB au none):=lH (NumOr.under js ab)
  clear ab
  clear aJ js
  go_simp
  refine hK.out _ _ (br.out) (fun hHeld=>?_)
  clear hK K
  try simp only [aP]
  refine rdy 7 ⟨some 72,.call ⟨ .value (.func 55),#[.tmp 69,.tmp 71],#[67,67]⟩,67,_,_,none⟩ rfl (fun K hK=>?_)
  go_simp
  refine (subE mB (iV.out.under br) s1 v2 m_ l_ (by rw [←EX.out];exact HX.out)).mono ?_
  rintro e lF ⟨rfl,ab⟩
  have cl:=lH (br.out.trans (ab.mono br.out.size))
  have bA:Hid (NumOr lF au none):=lH (NumOr.under gW ab)
  clear ab
  clear br gW
  go_simp
  refine hK.out _ _ (cl.out) (fun hHeld=>?_)
  clear hK K
  try simp only [aP]
  refine rdy 9 ⟨none,.store 67 (.tmp 11) (.tmp 72),0,_,_,none⟩ rfl (fun K hK=>?_)
  obtain ⟨ai,ao,am,ak,⟨z0,o0⟩,⟨z1,o1⟩,⟨z2,o2⟩,⟨z3,o3⟩⟩:=NumOr.facts bA.out
  obtain ⟨i9,hN⟩:∃ W,W=((((lF.setCell ⟨au,0,none⟩ (.int .u64 (X0:Int))).setCell ⟨au,1,none⟩ (.int .u64 (X1:Int))).setCell ⟨au,2,none⟩ (.int .u64 (X2:Int))).setCell ⟨au,3,none⟩ (.int .u64 (X3:Int))):=⟨_,rfl⟩
  go_simp
  rw [←hN]
  have iY:Hid (NumOr i9 au (some (en X))):=lH (by rw [hN];exact NumOr.set bA HX)
  have eg:=lH (by rw [hN];exact below4 cl bt _ _ _ _:Below u5.heap.size u5 i9)
  clear hN z0 o0 z1 o1 z2 o2 z3 o3 ai ao am ak
  clear cl bA
  refine hK.out _ _ (eg.out) (fun hHeld=>?_)
  clear hK K
  try simp only [aP]
  refine dn ?_
  rw [iJ.out]
  exact ⟨rfl,au,rfl,rfl,HF _ eg,iY,aD⟩
  refine AllReadyH.cons (o:=⟨some 11,.alloc 67,0,_,_,none⟩) rfl (fun K hK=>?_) AllReadyH.nil
  obtain ⟨j4,hN⟩:∃ W,W=V2.alloc (.cells #[.int .u64 0,.int .u64 0,.int .u64 0,.int .u64 0] 67):=⟨_,rfl⟩
  go_simp
  rw [←hN]
  obtain ⟨au,hg⟩:∃ g,g=V2.heap.size:=⟨_,rfl⟩
  rw [←hg]
  have kB:Hid (NumOr j4 au none):=lH (by rw [hN,hg];exact NumOr.fresh _)
  have az:=lH (by rw [hN];exact ae.out.alloc ae.out.size _:Below u5.heap.size u5 j4)
  have bt:Hid (u5.heap.size≤au):=lH (by rw [hg];exact ae.out.size)
  clear hN hg
  have aD:=lH (show w.heap.size+1+1<au from (by have h1:=Holds.lt nD.out;have h2:=bt.out;omega))
  clear ae
  refine hK.out _ _ (az.out) (fun hHeld=>?_)
  clear hK K
  try simp only [aP]
  refine rdy 4 ⟨some 69,.call ⟨ .value (.func 55),#[.tmp 67,.tmp 68],#[67,67]⟩,67,_,_,none⟩ rfl (fun K hK=>?_)
  go_simp
  refine (subE j4 (iV.out.under az) rr ch oq bv (by rw [←pP.out];exact m_.out)).mono ?_
  rintro e lQ ⟨rfl,ab⟩
  have aH:=lH (az.out.trans (ab.mono az.out.size))
  have jw:Hid (NumOr lQ au none):=lH (NumOr.under kB ab)
  clear ab
  clear az kB
  go_simp
  refine hK.out _ _ (aH.out) (fun hHeld=>?_)
  clear hK K
  try simp only [aP]
  refine rdy 6 ⟨some 71,.call ⟨ .value (.func 78),#[.tmp 70],#[67]⟩,67,_,_,none⟩ rfl (fun K hK=>?_)
  go_simp
  refine (twiceE lQ (iV.out.under aH) vv aQ (by rw [←oY.out];exact l_.out)).mono ?_
  rintro e mG ⟨rfl,ab⟩
  have aW:=lH (aH.out.trans (ab.mono aH.out.size))
  have gC:Hid (NumOr mG au none):=lH (NumOr.under jw ab)
  clear ab
  clear aH jw
  go_simp
  refine hK.out _ _ (aW.out) (fun hHeld=>?_)
  clear hK K
  try simp only [aP]
  refine rdy 7 ⟨some 72,.call ⟨ .value (.func 55),#[.tmp 69,.tmp 71],#[67,67]⟩,67,_,_,none⟩ rfl (fun K hK=>?_)
  go_simp
  refine (subE mG (iV.out.under aW) s1 v2 m_ l_ (by rw [←EX.out];exact HX.out)).mono ?_
  rintro e kr ⟨rfl,ab⟩
  have dH:=lH (aW.out.trans (ab.mono aW.out.size))
  have bO:Hid (NumOr kr au none):=lH (NumOr.under gC ab)
  clear ab
  clear aW gC
  go_simp
  refine hK.out _ _ (dH.out) (fun hHeld=>?_)
  clear hK K
  try simp only [aP]
  refine rdy 9 ⟨none,.store 67 (.tmp 11) (.tmp 72),0,_,_,none⟩ rfl (fun K hK=>?_)
  obtain ⟨ai,ao,am,ak,⟨z0,o0⟩,⟨z1,o1⟩,⟨z2,o2⟩,⟨z3,o3⟩⟩:=NumOr.facts bO.out
  obtain ⟨i8,hN⟩:∃ W,W=((((kr.setCell ⟨au,0,none⟩ (.int .u64 (X0:Int))).setCell ⟨au,1,none⟩ (.int .u64 (X1:Int))).setCell ⟨au,2,none⟩ (.int .u64 (X2:Int))).setCell ⟨au,3,none⟩ (.int .u64 (X3:Int))):=⟨_,rfl⟩
  go_simp
  rw [←hN]
  have io:Hid (NumOr i8 au (some (en X))):=lH (by rw [hN];exact NumOr.set bO HX)
  have d8:=lH (by rw [hN];exact below4 dH bt _ _ _ _:Below u5.heap.size u5 i8)
  clear hN z0 o0 z1 o1 z2 o2 z3 o3 ai ao am ak
  clear dH bO
  refine hK.out _ _ (d8.out) (fun hHeld=>?_)
  clear hK K
  try simp only [aP]
  refine dn ?_
  rw [iJ.out]
  exact ⟨rfl,au,rfl,rfl,HF _ d8,io,aD⟩
  refine AllReadyH.cons (o:=⟨some 11,.alloc 67,0,_,_,none⟩) rfl (fun K hK=>?_) AllReadyH.nil
  obtain ⟨V8,hN⟩:∃ W,W=V.alloc (.cells #[.int .u64 0,.int .u64 0,.int .u64 0,.int .u64 0] 67):=⟨_,rfl⟩
  go_simp
  rw [←hN]
  obtain ⟨au,hg⟩:∃ g,g=V.heap.size:=⟨_,rfl⟩
  rw [←hg]
  have mL:Hid (NumOr V8 au none):=lH (by rw [hN,hg];exact NumOr.fresh _)
  have aK:=lH (by rw [hN];exact ay.out.alloc ay.out.size _:Below u5.heap.size u5 V8)
  have bt:Hid (u5.heap.size≤au):=lH (by rw [hg];exact ay.out.size)
  clear hN hg
  have aD:=lH (show w.heap.size+1+1<au from (by have h1:=Holds.lt nD.out;have h2:=bt.out;omega))
  clear ay
  refine hK.out _ _ (aK.out) (fun hHeld=>?_)
  clear hK K
  try simp only [aP]
  refine rdy 2 ⟨some 67,.call ⟨ .value (.func 56),#[.tmp 65,.tmp 66],#[67,67]⟩,67,_,_,none⟩ rfl (fun K hK=>?_)
  go_simp
  refine (mulE V8 (iV.out.under aK) ar ar bU bU (by rw [←qO.out];exact oq.out)).mono ?_
  rintro e lV ⟨rfl,ab⟩
  have aA:=lH (aK.out.trans (ab.mono aK.out.size))
  have ld:Hid (NumOr lV au none):=lH (NumOr.under mL ab)
  clear ab
  clear aK mL
  go_simp
  refine hK.out _ _ (aA.out) (fun hHeld=>?_)
  clear hK K
  try simp only [aP]
  refine rdy 4 ⟨some 69,.call ⟨ .value (.func 55),#[.tmp 67,.tmp 68],#[67,67]⟩,67,_,_,none⟩ rfl (fun K hK=>?_)
  go_simp
  refine (subE lV (iV.out.under aA) rr ch oq bv (by rw [←pP.out];exact m_.out)).mono ?_
  rintro e kL ⟨rfl,ab⟩
  have aL:=lH (aA.out.trans (ab.mono aA.out.size))
  have jd:Hid (NumOr kL au none):=lH (NumOr.under ld ab)
  clear ab
  clear aA ld
  go_simp
  refine hK.out _ _ (aL.out) (fun hHeld=>?_)
  clear hK K
  try simp only [aP]
  refine rdy 6 ⟨some 71,.call ⟨ .value (.func 78),#[.tmp 70],#[67]⟩,67,_,_,none⟩ rfl (fun K hK=>?_)
  go_simp
  refine (twiceE kL (iV.out.under aL) vv aQ (by rw [←oY.out];exact l_.out)).mono ?_
  rintro e mV ⟨rfl,ab⟩
  have aV:=lH (aL.out.trans (ab.mono aL.out.size))
  have gR:Hid (NumOr mV au none):=lH (NumOr.under jd ab)
  clear ab
  clear aL jd
  go_simp
  refine hK.out _ _ (aV.out) (fun hHeld=>?_)
  clear hK K
  try simp only [aP]
  refine rdy 7 ⟨some 72,.call ⟨ .value (.func 55),#[.tmp 69,.tmp 71],#[67,67]⟩,67,_,_,none⟩ rfl (fun K hK=>?_)
  go_simp
  refine (subE mV (iV.out.under aV) s1 v2 m_ l_ (by rw [←EX.out];exact HX.out)).mono ?_
  rintro e lg ⟨rfl,ab⟩
  have dC:=lH (aV.out.trans (ab.mono aV.out.size))
  have bN:Hid (NumOr lg au none):=lH (NumOr.under gR ab)
  clear ab
  clear aV gR
  go_simp
  refine hK.out _ _ (dC.out) (fun hHeld=>?_)
  clear hK K
  try simp only [aP]
  refine rdy 9 ⟨none,.store 67 (.tmp 11) (.tmp 72),0,_,_,none⟩ rfl (fun K hK=>?_)
  obtain ⟨ai,ao,am,ak,⟨z0,o0⟩,⟨z1,o1⟩,⟨z2,o2⟩,⟨z3,o3⟩⟩:=NumOr.facts bN.out
  obtain ⟨jg,hN⟩:∃ W,W=((((lg.setCell ⟨au,0,none⟩ (.int .u64 (X0:Int))).setCell ⟨au,1,none⟩ (.int .u64 (X1:Int))).setCell ⟨au,2,none⟩ (.int .u64 (X2:Int))).setCell ⟨au,3,none⟩ (.int .u64 (X3:Int))):=⟨_,rfl⟩
  go_simp
  rw [←hN]
  have iy:Hid (NumOr jg au (some (en X))):=lH (by rw [hN];exact NumOr.set bN HX)
  have eo:=lH (by rw [hN];exact below4 dC bt _ _ _ _:Below u5.heap.size u5 jg)
  clear hN z0 o0 z1 o1 z2 o2 z3 o3 ai ao am ak
  clear dC bN
  refine hK.out _ _ (eo.out) (fun hHeld=>?_)
  clear hK K
  try simp only [aP]
  refine dn ?_
  rw [iJ.out]
  exact ⟨rfl,au,rfl,rfl,HF _ eo,iy,aD⟩
 rintro e a u6 hq
 rw [iJ.out] at hq
 obtain ⟨rfl,au,eI,jz,jc⟩:=hq
 have dT:=lH jc
 clear jc iJ dY
 obtain ⟨tm,df⟩:=a
 dsimp only at eI jz
 subst jz
 obtain ⟨U,hU⟩:∃ U:Nat→Value,∀ i,tm.getD i undef=U i:=⟨_,fun _=>rfl⟩
 simp only [tG,hU] at eI
 clear hU
 subst eI
 go_step
 go_step
 (repeat (first | (apply wp_seq_k;intro _ _) | apply wp_block))
 obtain ⟨pU,iF⟩:∃ Q:Exit→Act→World→Prop,Hid (Q=fun e a W=>e = .normal∧∃ (ax:Nat),a.tmps=#[tG a 0,tG a 1,.pointer (some ⟨w.heap.size,0,none⟩),.pointer (some ⟨w.heap.size+1,0,none⟩),.pointer (some ⟨w.heap.size+1+1,0,none⟩),.pointer (some ⟨g5,0,none⟩),.pointer (some ⟨g6,0,none⟩),.pointer (some ⟨g7,0,none⟩),.pointer (some ⟨g8,0,none⟩),.pointer (some ⟨g9,0,none⟩),.pointer (some ⟨ac,0,none⟩),.pointer (some ⟨au,0,none⟩),.pointer (some ⟨ax,0,none⟩),tG a 13,tG a 14,tG a 15,tG a 16,tG a 17,tG a 18,tG a 19,tG a 20,tG a 21,tG a 22,tG a 23,tG a 24,tG a 25,tG a 26,tG a 27,tG a 28,tG a 29,tG a 30,tG a 31,tG a 32,tG a 33,tG a 34,tG a 35,tG a 36,tG a 37,tG a 38,tG a 39,tG a 40,tG a 41,tG a 42,tG a 43,tG a 44,tG a 45,tG a 46,tG a 47,tG a 48,tG a 49,tG a 50,tG a 51,tG a 52,tG a 53,tG a 54,tG a 55,tG a 56,tG a 57,tG a 58,tG a 59,tG a 60,tG a 61,tG a 62,tG a 63,tG a 64,tG a 65,tG a 66,tG a 67,tG a 68,tG a 69,tG a 70,tG a 71,tG a 72,tG a 73,tG a 74,tG a 75,tG a 76,tG a 77,tG a 78,tG a 79,tG a 80,tG a 81,tG a 82,tG a 83,tG a 84,tG a 85,tG a 86,tG a 87,tG a 88,tG a 89]∧a.defers=[]∧((((((((Holds W w.heap.size 69 #[.int .u64 (x0:Int),.int .u64 (x1:Int),.int .u64 (x2:Int),.int .u64 (x3:Int),.int .u64 (y0:Int),.int .u64 (y1:Int),.int .u64 (y2:Int),.int .u64 (y3:Int),.int .u64 (z0:Int),.int .u64 (z1:Int),.int .u64 (z2:Int),.int .u64 (z3:Int)])∧(Holds W (w.heap.size+1+1) 69 #[.int .u64 0,.int .u64 0,.int .u64 0,.int .u64 0,.int .u64 0,.int .u64 0,.int .u64 0,.int .u64 0,.int .u64 0,.int .u64 0,.int .u64 0,.int .u64 0])∧(Below w.heap.size w W)∧(CMet W)∧(Holds W (w.heap.size+1) 26 #[.slice Ax lx.length cx,.slice Ay ly.length cy,.bool false])∧(Rd .u32 W W.heap.size Ax cx lx)∧(Rd .u32 W W.heap.size Ay cy ly))∧(NumOr W g5 (some (en zz)))∧(w.heap.size+1+1<g5))∧(NumOr W g6 (some (en ah)))∧(w.heap.size+1+1<g6))∧(NumOr W g7 (some (en ar)))∧(w.heap.size+1+1<g7))∧(NumOr W g8 (some (en bh)))∧(w.heap.size+1+1<g8))∧(NumOr W g9 (some (en ch)))∧(NumOr W ac (some (en vv)))∧(w.heap.size+1+1<g9)∧(w.heap.size+1+1<ac))∧(NumOr W au (some (en X)))∧(w.heap.size+1+1<au))∧(NumOr W ax (some (en Y)))∧(w.heap.size+1+1<ax)):=⟨_,lH rfl⟩
 refine Code.wp_mono (Q:=pU) ?_ ?_
 rotate_left 1
 ·have pj:=lH (dT.out.1.1.1.1.1.1.1)
  have nE:=lH (dT.out.1.1.1.1.1.1.2.1)
  have qE:=lH (dT.out.1.1.1.1.1.1.2.2.1)
  have iR:=lH (dT.out.1.1.1.1.1.1.2.2.2.1)
  have qy:=lH (dT.out.1.1.1.1.1.1.2.2.2.2.1)
  have rt:=lH (dT.out.1.1.1.1.1.1.2.2.2.2.2.1)
  have rj:=lH (dT.out.1.1.1.1.1.1.2.2.2.2.2.2)
  have pW:=lH (dT.out.1.1.1.1.1.2.1)
  have bW:=lH (dT.out.1.1.1.1.1.2.2)
  have pH:=lH (dT.out.1.1.1.1.2.1)
  have bX:=lH (dT.out.1.1.1.1.2.2)
  have oy:=lH (dT.out.1.1.1.2.1)
  have gt:=lH (dT.out.1.1.1.2.2)
  have pS:=lH (dT.out.1.1.2.1)
  have kn:=lH (dT.out.1.1.2.2)
  have oS:=lH (dT.out.1.2.1)
  have mi:=lH (dT.out.1.2.2.1)
  have nO:=lH (dT.out.1.2.2.2.1)
  have kI:=lH (dT.out.1.2.2.2.2)
  have nn:=lH (dT.out.2.1)
  have lp:=lH (dT.out.2.2)
  have Hy:=lH (FV.out.2.2.2.2.2.2.2.2.1)
  have bU:=lH (FU.out.2.2.2.2.2.2.2.2.2.2.2.2.2.2)
  have qU:=lH (FW.out.2.2.2.2.2.2.2.1)
  have pC:=lH (FW.out.2.2.2.2.2.2.2.2.1)
  have o_:=lH (FW.out.2.2.2.2.2.2.2.2.2.1)
  have EY:=lH (FW.out.2.2.2.2.2.2.2.2.2.2.1)
  have bv:=lH (FW.out.2.2.2.2.2.2.2.2.2.2.2.2.2.1)
  have aQ:=lH (FW.out.2.2.2.2.2.2.2.2.2.2.2.2.2.2.1)
  have HX:=lH (FW.out.2.2.2.2.2.2.2.2.2.2.2.2.2.2.2.2.2.2.1)
  have oz:=lH (FW.out.2.2.2.2.2.2.2.2.2.2.2.2.2.2.2.2.2.2.2.1)
  have ms:=lH (FW.out.2.2.2.2.2.2.2.2.2.2.2.2.2.2.2.2.2.2.2.2.1)
  have mb:=lH (FW.out.2.2.2.2.2.2.2.2.2.2.2.2.2.2.2.2.2.2.2.2.2.1)
  have HY:=lH (FW.out.2.2.2.2.2.2.2.2.2.2.2.2.2.2.2.2.2.2.2.2.2.2.1)
  clear dT FV FU FW
  have HF:Hid (∀ W,Below u6.heap.size u6 W→(((((((Holds W w.heap.size 69 #[.int .u64 (x0:Int),.int .u64 (x1:Int),.int .u64 (x2:Int),.int .u64 (x3:Int),.int .u64 (y0:Int),.int .u64 (y1:Int),.int .u64 (y2:Int),.int .u64 (y3:Int),.int .u64 (z0:Int),.int .u64 (z1:Int),.int .u64 (z2:Int),.int .u64 (z3:Int)])∧(Holds W (w.heap.size+1+1) 69 #[.int .u64 0,.int .u64 0,.int .u64 0,.int .u64 0,.int .u64 0,.int .u64 0,.int .u64 0,.int .u64 0,.int .u64 0,.int .u64 0,.int .u64 0,.int .u64 0])∧(Below w.heap.size w W)∧(CMet W)∧(Holds W (w.heap.size+1) 26 #[.slice Ax lx.length cx,.slice Ay ly.length cy,.bool false])∧(Rd .u32 W W.heap.size Ax cx lx)∧(Rd .u32 W W.heap.size Ay cy ly))∧(NumOr W g5 (some (en zz)))∧(w.heap.size+1+1<g5))∧(NumOr W g6 (some (en ah)))∧(w.heap.size+1+1<g6))∧(NumOr W g7 (some (en ar)))∧(w.heap.size+1+1<g7))∧(NumOr W g8 (some (en bh)))∧(w.heap.size+1+1<g8))∧(NumOr W g9 (some (en ch)))∧(NumOr W ac (some (en vv)))∧(w.heap.size+1+1<g9)∧(w.heap.size+1+1<ac))∧(NumOr W au (some (en X)))∧(w.heap.size+1+1<au)):=lH fun W h=>⟨⟨⟨⟨⟨⟨⟨pj.out.under h (Holds.lt pj),nE.out.under h (Holds.lt nE),qE.out.trans (h.mono qE.out.size),iR.out.under h,qy.out.under h (Holds.lt qy),(rt.out.under h).more h.size,(rj.out.under h).more h.size⟩,NumOr.under pW h,bW⟩,NumOr.under pH h,bX⟩,NumOr.under oy h,gt⟩,NumOr.under pS h,kn⟩,NumOr.under oS h,NumOr.under mi h,nO,kI⟩,NumOr.under nn h,lp⟩
  refine wp_region_noPanic ?_
  refine wp_region_held_drew (S:=fun W=>Below u6.heap.size u6 W) (by kernel_rfl) ((Below.refl _ u6).drew) (fun hHeld=>?_)
  obtain ⟨V,hV⟩:∃ W,W=u6.drew:=⟨_,rfl⟩
  rw [←hV]
  have ay:Hid (Below u6.heap.size u6 V):=lH (by rw [hV];exact (Below.refl _ u6).drew)
  replace hHeld:(fun W=>Below u6.heap.size u6 W) V:=ay.out
  clear hV
  refine tk 0 ⟨some 73,.load 67 (.tmp 7),67,_,_,none⟩ ?_ rfl ?_ hHeld ?_
  rotate_left 1
  ·(intro W hW;have aT:=(NumOr.under oy.out hW).cells bU.out;obtain ⟨q0,q1,q2,q3⟩:=aT;(try dsimp only at hW);go_simp;try with_reducible rfl)
  try simp only [aP]
  refine tk 1 ⟨some 74,.load 67 (.tmp 10),67,_,_,none⟩ ?_ rfl ?_ hHeld ?_
  rotate_left 1
  ·(intro W hW;have aT:=(NumOr.under mi.out hW).cells aQ.out;obtain ⟨q0,q1,q2,q3⟩:=aT;(try dsimp only at hW);go_simp;try with_reducible rfl)
  try simp only [aP]
  refine tk 2 ⟨some 75,.load 67 (.tmp 11),67,_,_,none⟩ ?_ rfl ?_ hHeld ?_
  rotate_left 1
  ·(intro W hW;have aT:=(NumOr.under nn.out hW).cells HX.out;obtain ⟨q0,q1,q2,q3⟩:=aT;(try dsimp only at hW);go_simp;try with_reducible rfl)
  try simp only [aP]
  refine tz 5 ⟨some 78,.fieldAddr 69 (.tmp 2) 1,0,_,_,none⟩ rfl hHeld ?_
  try simp only [aP]
  refine tk 6 ⟨some 79,.load 67 (.tmp 78),67,_,_,none⟩ ?_ rfl ?_ hHeld ?_
  rotate_left 1
  ·(intro W hW;have aM:=pj.out.under hW (Holds.lt pj.out);have k4:=aM.cell 4;have k5:=aM.cell 5;have k6:=aM.cell 6;have k7:=aM.cell 7;(try dsimp only at hW);go_simp;try with_reducible rfl)
  try simp only [aP]
  refine tk 7 ⟨some 80,.load 67 (.tmp 9),67,_,_,none⟩ ?_ rfl ?_ hHeld ?_
  rotate_left 1
  ·(intro W hW;have aT:=(NumOr.under oS.out hW).cells bv.out;obtain ⟨q0,q1,q2,q3⟩:=aT;(try dsimp only at hW);go_simp;try with_reducible rfl)
  try simp only [aP]
  refine wpAnyH_ready (rs:=[3,10]) (by kernel_rfl) (by simp) ?_
  refine AllReadyH.cons (o:=⟨some 76,.call ⟨ .value (.func 55),#[.tmp 74,.tmp 75],#[67,67]⟩,67,_,_,none⟩) rfl (fun K hK=>?_) ?_
  go_simp
  refine (subE V (iR.out.under ay) vv X aQ HX (by rw [←qU.out];exact oz.out)).mono ?_
  rintro e V3 ⟨rfl,ab⟩
  have fL:=lH (ay.out.trans (ab.mono ay.out.size))
  clear ab
  clear ay
  go_simp
  refine hK.out _ _ (fL.out) (fun hHeld=>?_)
  clear hK K
  try simp only [aP]
  refine wpAnyH_ready (rs:=[4,10]) (by kernel_rfl) (by simp) ?_
  refine AllReadyH.cons (o:=⟨some 77,.call ⟨ .value (.func 56),#[.tmp 73,.tmp 76],#[67,67]⟩,67,_,_,none⟩) rfl (fun K hK=>?_) ?_
  go_simp
  refine (mulE V3 (iR.out.under fL) ar vx bU oz (by rw [←pC.out];exact ms.out)).mono ?_
  rintro e qg ⟨rfl,ab⟩
  have bc:=lH (fL.out.trans (ab.mono fL.out.size))
  clear ab
  clear fL
  go_simp
  refine hK.out _ _ (bc.out) (fun hHeld=>?_)
  clear hK K
  try simp only [aP]
  refine wpAnyH_ready (rs:=[8,10]) (by kernel_rfl) (by simp) ?_
  refine AllReadyH.cons (o:=⟨some 81,.call ⟨ .value (.func 56),#[.tmp 79,.tmp 80],#[67,67]⟩,67,_,_,none⟩) rfl (fun K hK=>?_) ?_
  go_simp
  refine (mulE qg (iR.out.under bc) j.y ch Hy bv (by rw [←o_.out];exact mb.out)).mono ?_
  rintro e n_ ⟨rfl,ab⟩
  have aO:=lH (bc.out.trans (ab.mono bc.out.size))
  clear ab
  clear bc
  go_simp
  refine hK.out _ _ (aO.out) (fun hHeld=>?_)
  clear hK K
  try simp only [aP]
  refine wpAnyH_ready (rs:=[9,10]) (by kernel_rfl) (by simp) ?_
  refine AllReadyH.cons (o:=⟨some 82,.call ⟨ .value (.func 55),#[.tmp 77,.tmp 81],#[67,67]⟩,67,_,_,none⟩) rfl (fun K hK=>?_) ?_
  go_simp
  refine (subE n_ (iR.out.under aO) rv yh ms mb (by rw [←EY.out];exact HY.out)).mono ?_
  rintro e mx ⟨rfl,ab⟩
  have bf:=lH (aO.out.trans (ab.mono aO.out.size))
  clear ab
  clear aO
  go_simp
  refine hK.out _ _ (bf.out) (fun hHeld=>?_)
  clear hK K
  try simp only [aP]
  refine rdy 10 ⟨some 12,.alloc 67,0,_,_,none⟩ rfl (fun K hK=>?_)
  obtain ⟨iG,hN⟩:∃ W,W=mx.alloc (.cells #[.int .u64 0,.int .u64 0,.int .u64 0,.int .u64 0] 67):=⟨_,rfl⟩
  go_simp
  rw [←hN]
  obtain ⟨ax,hg⟩:∃ g,g=mx.heap.size:=⟨_,rfl⟩
  rw [←hg]
  have bI:Hid (NumOr iG ax none):=lH (by rw [hN,hg];exact NumOr.fresh _)
  have dv:=lH (by rw [hN];exact bf.out.alloc bf.out.size _:Below u6.heap.size u6 iG)
  have aY:Hid (u6.heap.size≤ax):=lH (by rw [hg];exact bf.out.size)
  clear hN hg
  have aD:=lH (show w.heap.size+1+1<ax from (by have h1:=Holds.lt nE.out;have h2:=aY.out;omega))
  clear bf
  refine hK.out _ _ (dv.out) (fun hHeld=>?_)
  clear hK K
  try simp only [aP]
  refine rdy 11 ⟨none,.store 67 (.tmp 12) (.tmp 82),0,_,_,none⟩ rfl (fun K hK=>?_)
  obtain ⟨ai,ao,am,ak,⟨z0,o0⟩,⟨z1,o1⟩,⟨z2,o2⟩,⟨z3,o3⟩⟩:=NumOr.facts bI.out
  obtain ⟨jx,hN⟩:∃ W,W=((((iG.setCell ⟨ax,0,none⟩ (.int .u64 (Y0:Int))).setCell ⟨ax,1,none⟩ (.int .u64 (Y1:Int))).setCell ⟨ax,2,none⟩ (.int .u64 (Y2:Int))).setCell ⟨ax,3,none⟩ (.int .u64 (Y3:Int))):=⟨_,rfl⟩
  go_simp
  rw [←hN]
  have iu:Hid (NumOr jx ax (some (en Y))):=lH (by rw [hN];exact NumOr.set bI HY)
  have eB:=lH (by rw [hN];exact below4 dv aY _ _ _ _:Below u6.heap.size u6 jx)
  clear hN z0 o0 z1 o1 z2 o2 z3 o3 ai ao am ak
  clear dv bI
  refine hK.out _ _ (eB.out) (fun hHeld=>?_)
  clear hK K
  try simp only [aP]
  refine dn ?_
  rw [iF.out]
  exact ⟨rfl,ax,rfl,rfl,HF _ eB,iu,aD⟩
  refine AllReadyH.cons (o:=⟨some 12,.alloc 67,0,_,_,none⟩) rfl (fun K hK=>?_) AllReadyH.nil
  obtain ⟨kX,hN⟩:∃ W,W=n_.alloc (.cells #[.int .u64 0,.int .u64 0,.int .u64 0,.int .u64 0] 67):=⟨_,rfl⟩
  go_simp
  rw [←hN]
  obtain ⟨ax,hg⟩:∃ g,g=n_.heap.size:=⟨_,rfl⟩
  rw [←hg]
  have f8:Hid (NumOr kX ax none):=lH (by rw [hN,hg];exact NumOr.fresh _)
  have bl:=lH (by rw [hN];exact aO.out.alloc aO.out.size _:Below u6.heap.size u6 kX)
  have aY:Hid (u6.heap.size≤ax):=lH (by rw [hg];exact aO.out.size)
  clear hN hg
  have aD:=lH (show w.heap.size+1+1<ax from (by have h1:=Holds.lt nE.out;have h2:=aY.out;omega))
  clear aO
  refine hK.out _ _ (bl.out) (fun hHeld=>?_)
  clear hK K
  try simp only [aP]
  refine rdy 9 ⟨some 82,.call ⟨ .value (.func 55),#[.tmp 77,.tmp 81],#[67,67]⟩,67,_,_,none⟩ rfl (fun K hK=>?_)
  go_simp
  refine (subE kX (iR.out.under bl) rv yh ms mb (by rw [←EY.out];exact HY.out)).mono ?_
  rintro e kg ⟨rfl,ab⟩
  have cS:=lH (bl.out.trans (ab.mono bl.out.size))
  have bw:Hid (NumOr kg ax none):=lH (NumOr.under f8 ab)
  clear ab
  clear bl f8
  go_simp
  refine hK.out _ _ (cS.out) (fun hHeld=>?_)
  clear hK K
  try simp only [aP]
  refine rdy 11 ⟨none,.store 67 (.tmp 12) (.tmp 82),0,_,_,none⟩ rfl (fun K hK=>?_)
  obtain ⟨ai,ao,am,ak,⟨z0,o0⟩,⟨z1,o1⟩,⟨z2,o2⟩,⟨z3,o3⟩⟩:=NumOr.facts bw.out
  obtain ⟨jA,hN⟩:∃ W,W=((((kg.setCell ⟨ax,0,none⟩ (.int .u64 (Y0:Int))).setCell ⟨ax,1,none⟩ (.int .u64 (Y1:Int))).setCell ⟨ax,2,none⟩ (.int .u64 (Y2:Int))).setCell ⟨ax,3,none⟩ (.int .u64 (Y3:Int))):=⟨_,rfl⟩
  go_simp
  rw [←hN]
  have iw:Hid (NumOr jA ax (some (en Y))):=lH (by rw [hN];exact NumOr.set bw HY)
  have ez:=lH (by rw [hN];exact below4 cS aY _ _ _ _:Below u6.heap.size u6 jA)
  clear hN z0 o0 z1 o1 z2 o2 z3 o3 ai ao am ak
  clear cS bw
  refine hK.out _ _ (ez.out) (fun hHeld=>?_)
  clear hK K
  try simp only [aP]
  refine dn ?_
  rw [iF.out]
  exact ⟨rfl,ax,rfl,rfl,HF _ ez,iw,aD⟩
  refine AllReadyH.cons (o:=⟨some 12,.alloc 67,0,_,_,none⟩) rfl (fun K hK=>?_) AllReadyH.nil
  obtain ⟨nN,hN⟩:∃ W,W=qg.alloc (.cells #[.int .u64 0,.int .u64 0,.int .u64 0,.int .u64 0] 67):=⟨_,rfl⟩
  go_simp
  rw [←hN]
  obtain ⟨ax,hg⟩:∃ g,g=qg.heap.size:=⟨_,rfl⟩
  rw [←hg]
  have ji:Hid (NumOr nN ax none):=lH (by rw [hN,hg];exact NumOr.fresh _)
  have cV:=lH (by rw [hN];exact bc.out.alloc bc.out.size _:Below u6.heap.size u6 nN)
  have aY:Hid (u6.heap.size≤ax):=lH (by rw [hg];exact bc.out.size)
  clear hN hg
  have aD:=lH (show w.heap.size+1+1<ax from (by have h1:=Holds.lt nE.out;have h2:=aY.out;omega))
  clear bc
  refine hK.out _ _ (cV.out) (fun hHeld=>?_)
  clear hK K
  try simp only [aP]
  refine rdy 8 ⟨some 81,.call ⟨ .value (.func 56),#[.tmp 79,.tmp 80],#[67,67]⟩,67,_,_,none⟩ rfl (fun K hK=>?_)
  go_simp
  refine (mulE nN (iR.out.under cV) j.y ch Hy bv (by rw [←o_.out];exact mb.out)).mono ?_
  rintro e mp ⟨rfl,ab⟩
  have a9:=lH (cV.out.trans (ab.mono cV.out.size))
  have ic:Hid (NumOr mp ax none):=lH (NumOr.under ji ab)
  clear ab
  clear cV ji
  go_simp
  refine hK.out _ _ (a9.out) (fun hHeld=>?_)
  clear hK K
  try simp only [aP]
  refine rdy 9 ⟨some 82,.call ⟨ .value (.func 55),#[.tmp 77,.tmp 81],#[67,67]⟩,67,_,_,none⟩ rfl (fun K hK=>?_)
  go_simp
  refine (subE mp (iR.out.under a9) rv yh ms mb (by rw [←EY.out];exact HY.out)).mono ?_
  rintro e kF ⟨rfl,ab⟩
  have cC:=lH (a9.out.trans (ab.mono a9.out.size))
  have bH:Hid (NumOr kF ax none):=lH (NumOr.under ic ab)
  clear ab
  clear a9 ic
  go_simp
  refine hK.out _ _ (cC.out) (fun hHeld=>?_)
  clear hK K
  try simp only [aP]
  refine rdy 11 ⟨none,.store 67 (.tmp 12) (.tmp 82),0,_,_,none⟩ rfl (fun K hK=>?_)
  obtain ⟨ai,ao,am,ak,⟨z0,o0⟩,⟨z1,o1⟩,⟨z2,o2⟩,⟨z3,o3⟩⟩:=NumOr.facts bH.out
  obtain ⟨jm,hN⟩:∃ W,W=((((kF.setCell ⟨ax,0,none⟩ (.int .u64 (Y0:Int))).setCell ⟨ax,1,none⟩ (.int .u64 (Y1:Int))).setCell ⟨ax,2,none⟩ (.int .u64 (Y2:Int))).setCell ⟨ax,3,none⟩ (.int .u64 (Y3:Int))):=⟨_,rfl⟩
  go_simp
  rw [←hN]
  have iH:Hid (NumOr jm ax (some (en Y))):=lH (by rw [hN];exact NumOr.set bH HY)
  have ef:=lH (by rw [hN];exact below4 cC aY _ _ _ _:Below u6.heap.size u6 jm)
  clear hN z0 o0 z1 o1 z2 o2 z3 o3 ai ao am ak
  clear cC bH
  refine hK.out _ _ (ef.out) (fun hHeld=>?_)
  clear hK K
  try simp only [aP]
  refine dn ?_
  rw [iF.out]
  exact ⟨rfl,ax,rfl,rfl,HF _ ef,iH,aD⟩
  refine AllReadyH.cons (o:=⟨some 12,.alloc 67,0,_,_,none⟩) rfl (fun K hK=>?_) AllReadyH.nil
  obtain ⟨pX,hN⟩:∃ W,W=V3.alloc (.cells #[.int .u64 0,.int .u64 0,.int .u64 0,.int .u64 0] 67):=⟨_,rfl⟩
  go_simp
  rw [←hN]
  obtain ⟨ax,hg⟩:∃ g,g=V3.heap.size:=⟨_,rfl⟩
  rw [←hg]
  have kG:Hid (NumOr pX ax none):=lH (by rw [hN,hg];exact NumOr.fresh _)
  have f_:=lH (by rw [hN];exact fL.out.alloc fL.out.size _:Below u6.heap.size u6 pX)
  have aY:Hid (u6.heap.size≤ax):=lH (by rw [hg];exact fL.out.size)
  clear hN hg
  have aD:=lH (show w.heap.size+1+1<ax from (by have h1:=Holds.lt nE.out;have h2:=aY.out;omega))
  clear fL
  refine hK.out _ _ (f_.out) (fun hHeld=>?_)
  clear hK K
  try simp only [aP]
  refine rdy 4 ⟨some 77,.call ⟨ .value (.func 56),#[.tmp 73,.tmp 76],#[67,67]⟩,67,_,_,none⟩ rfl (fun K hK=>?_)
  go_simp
  refine (mulE pX (iR.out.under f_) ar vx bU oz (by rw [←pC.out];exact ms.out)).mono ?_
  rintro e ou ⟨rfl,ab⟩
  have cU:=lH (f_.out.trans (ab.mono f_.out.size))
  have jv:Hid (NumOr ou ax none):=lH (NumOr.under kG ab)
  clear ab
  clear f_ kG
  go_simp
  refine hK.out _ _ (cU.out) (fun hHeld=>?_)
  clear hK K
  try simp only [aP]
  refine rdy 8 ⟨some 81,.call ⟨ .value (.func 56),#[.tmp 79,.tmp 80],#[67,67]⟩,67,_,_,none⟩ rfl (fun K hK=>?_)
  go_simp
  refine (mulE ou (iR.out.under cU) j.y ch Hy bv (by rw [←o_.out];exact mb.out)).mono ?_
  rintro e nf ⟨rfl,ab⟩
  have bm:=lH (cU.out.trans (ab.mono cU.out.size))
  have gz:Hid (NumOr nf ax none):=lH (NumOr.under jv ab)
  clear ab
  clear cU jv
  go_simp
  refine hK.out _ _ (bm.out) (fun hHeld=>?_)
  clear hK K
  try simp only [aP]
  refine rdy 9 ⟨some 82,.call ⟨ .value (.func 55),#[.tmp 77,.tmp 81],#[67,67]⟩,67,_,_,none⟩ rfl (fun K hK=>?_)
  go_simp
  refine (subE nf (iR.out.under bm) rv yh ms mb (by rw [←EY.out];exact HY.out)).mono ?_
  rintro e kV ⟨rfl,ab⟩
  have dG:=lH (bm.out.trans (ab.mono bm.out.size))
  have bF:Hid (NumOr kV ax none):=lH (NumOr.under gz ab)
  clear ab
  clear bm gz
  go_simp
  refine hK.out _ _ (dG.out) (fun hHeld=>?_)
  clear hK K
  try simp only [aP]
  refine rdy 11 ⟨none,.store 67 (.tmp 12) (.tmp 82),0,_,_,none⟩ rfl (fun K hK=>?_)
  obtain ⟨ai,ao,am,ak,⟨z0,o0⟩,⟨z1,o1⟩,⟨z2,o2⟩,⟨z3,o3⟩⟩:=NumOr.facts bF.out
  obtain ⟨jy,hN⟩:∃ W,W=((((kV.setCell ⟨ax,0,none⟩ (.int .u64 (Y0:Int))).setCell ⟨ax,1,none⟩ (.int .u64 (Y1:Int))).setCell ⟨ax,2,none⟩ (.int .u64 (Y2:Int))).setCell ⟨ax,3,none⟩ (.int .u64 (Y3:Int))):=⟨_,rfl⟩
  go_simp
  rw [←hN]
  have iM:Hid (NumOr jy ax (some (en Y))):=lH (by rw [hN];exact NumOr.set bF HY)
  have eE:=lH (by rw [hN];exact below4 dG aY _ _ _ _:Below u6.heap.size u6 jy)
  clear hN z0 o0 z1 o1 z2 o2 z3 o3 ai ao am ak
  clear dG bF
  refine hK.out _ _ (eE.out) (fun hHeld=>?_)
  clear hK K
  try simp only [aP]
  refine dn ?_
  rw [iF.out]
  exact ⟨rfl,ax,rfl,rfl,HF _ eE,iM,aD⟩
  refine AllReadyH.cons (o:=⟨some 12,.alloc 67,0,_,_,none⟩) rfl (fun K hK=>?_) AllReadyH.nil
  obtain ⟨Va,hN⟩:∃ W,W=V.alloc (.cells #[.int .u64 0,.int .u64 0,.int .u64 0,.int .u64 0] 67):=⟨_,rfl⟩
  go_simp
  rw [←hN]
  obtain ⟨ax,hg⟩:∃ g,g=V.heap.size:=⟨_,rfl⟩
  rw [←hg]
  have mH:Hid (NumOr Va ax none):=lH (by rw [hN,hg];exact NumOr.fresh _)
  have ks:=lH (by rw [hN];exact ay.out.alloc ay.out.size _:Below u6.heap.size u6 Va)
  have aY:Hid (u6.heap.size≤ax):=lH (by rw [hg];exact ay.out.size)
  clear hN hg
  have aD:=lH (show w.heap.size+1+1<ax from (by have h1:=Holds.lt nE.out;have h2:=aY.out;omega))
  clear ay
  refine hK.out _ _ (ks.out) (fun hHeld=>?_)
  clear hK K
  try simp only [aP]
  refine rdy 3 ⟨some 76,.call ⟨ .value (.func 55),#[.tmp 74,.tmp 75],#[67,67]⟩,67,_,_,none⟩ rfl (fun K hK=>?_)
  go_simp
  refine (subE Va (iR.out.under ks) vv X aQ HX (by rw [←qU.out];exact oz.out)).mono ?_
  rintro e qV ⟨rfl,ab⟩
  have gU:=lH (ks.out.trans (ab.mono ks.out.size))
  have ki:Hid (NumOr qV ax none):=lH (NumOr.under mH ab)
  clear ab
  clear ks mH
  go_simp
  refine hK.out _ _ (gU.out) (fun hHeld=>?_)
  clear hK K
  try simp only [aP]
  refine rdy 4 ⟨some 77,.call ⟨ .value (.func 56),#[.tmp 73,.tmp 76],#[67,67]⟩,67,_,_,none⟩ rfl (fun K hK=>?_)
  go_simp
  refine (mulE qV (iR.out.under gU) ar vx bU oz (by rw [←pC.out];exact ms.out)).mono ?_
  rintro e oP ⟨rfl,ab⟩
  have dt:=lH (gU.out.trans (ab.mono gU.out.size))
  have jj:Hid (NumOr oP ax none):=lH (NumOr.under ki ab)
  clear ab
  clear gU ki
  go_simp
  refine hK.out _ _ (dt.out) (fun hHeld=>?_)
  clear hK K
  try simp only [aP]
  refine rdy 8 ⟨some 81,.call ⟨ .value (.func 56),#[.tmp 79,.tmp 80],#[67,67]⟩,67,_,_,none⟩ rfl (fun K hK=>?_)
  go_simp
  refine (mulE oP (iR.out.under dt) j.y ch Hy bv (by rw [←o_.out];exact mb.out)).mono ?_
  rintro e me ⟨rfl,ab⟩
  have aX:=lH (dt.out.trans (ab.mono dt.out.size))
  have gV:Hid (NumOr me ax none):=lH (NumOr.under jj ab)
  clear ab
  clear dt jj
  go_simp
  refine hK.out _ _ (aX.out) (fun hHeld=>?_)
  clear hK K
  try simp only [aP]
  refine rdy 9 ⟨some 82,.call ⟨ .value (.func 55),#[.tmp 77,.tmp 81],#[67,67]⟩,67,_,_,none⟩ rfl (fun K hK=>?_)
  go_simp
  refine (subE me (iR.out.under aX) rv yh ms mb (by rw [←EY.out];exact HY.out)).mono ?_
  rintro e kS ⟨rfl,ab⟩
  have dB:=lH (aX.out.trans (ab.mono aX.out.size))
  have bL:Hid (NumOr kS ax none):=lH (NumOr.under gV ab)
  clear ab
  clear aX gV
  go_simp
  refine hK.out _ _ (dB.out) (fun hHeld=>?_)
  clear hK K
  try simp only [aP]
  refine rdy 11 ⟨none,.store 67 (.tmp 12) (.tmp 82),0,_,_,none⟩ rfl (fun K hK=>?_)
  obtain ⟨ai,ao,am,ak,⟨z0,o0⟩,⟨z1,o1⟩,⟨z2,o2⟩,⟨z3,o3⟩⟩:=NumOr.facts bL.out
  obtain ⟨jh,hN⟩:∃ W,W=((((kS.setCell ⟨ax,0,none⟩ (.int .u64 (Y0:Int))).setCell ⟨ax,1,none⟩ (.int .u64 (Y1:Int))).setCell ⟨ax,2,none⟩ (.int .u64 (Y2:Int))).setCell ⟨ax,3,none⟩ (.int .u64 (Y3:Int))):=⟨_,rfl⟩
  go_simp
  rw [←hN]
  have iv:Hid (NumOr jh ax (some (en Y))):=lH (by rw [hN];exact NumOr.set bL HY)
  have eA:=lH (by rw [hN];exact below4 dB aY _ _ _ _:Below u6.heap.size u6 jh)
  clear hN z0 o0 z1 o1 z2 o2 z3 o3 ai ao am ak
  clear dB bL
  refine hK.out _ _ (eA.out) (fun hHeld=>?_)
  clear hK K
  try simp only [aP]
  refine dn ?_
  rw [iF.out]
  exact ⟨rfl,ax,rfl,rfl,HF _ eA,iv,aD⟩
 rintro e a u7 hq
 rw [iF.out] at hq
 obtain ⟨rfl,ax,eI,jz,jc⟩:=hq
 have lU:=lH jc
 clear jc iF dT
 obtain ⟨tm,df⟩:=a
 dsimp only at eI jz
 subst jz
 obtain ⟨U,hU⟩:∃ U:Nat→Value,∀ i,tm.getD i undef=U i:=⟨_,fun _=>rfl⟩
 simp only [tG,hU] at eI
 clear hU
 subst eI
 go_step
 go_step
 (repeat (first | (apply wp_seq_k;intro _ _) | apply wp_block))
 have qB:=lH (lU.out.1.1.1.1.1.1.1.1)
 have rM:=lH (lU.out.1.1.1.1.1.1.1.2.1)
 have qv:=lH (lU.out.1.1.1.1.1.1.1.2.2.1)
 have ow:=lH (lU.out.1.1.1.1.1.2.1)
 have bX:=lH (lU.out.1.1.1.1.1.2.2)
 have nr:=lH (lU.out.1.2.1)
 have lp:=lH (lU.out.1.2.2)
 have mM:=lH (lU.out.2.1)
 have oA:=lH (lU.out.2.2)
 have rx:=lH (FV.out.1)
 have Hz:=lH (FV.out.2.2.2.2.2.2.2.2.2.1)
 have bC:=lH (FU.out.2.2.2.2.2.2.2.2.2.2.2.1)
 have EZ:=lH (FW.out.2.2.2.2.2.2.2.2.2.2.2.1)
 have HX:=lH (FW.out.2.2.2.2.2.2.2.2.2.2.2.2.2.2.2.2.2.2.1)
 have HY:=lH (FW.out.2.2.2.2.2.2.2.2.2.2.2.2.2.2.2.2.2.2.2.2.2.2.1)
 have HZ:=lH (FW.out.2.2.2.2.2.2.2.2.2.2.2.2.2.2.2.2.2.2.2.2.2.2.2)
 clear lU FV FU FW
 refine wp_region_noPanic ?_
 refine wp_region_held_drew (S:=fun W=>NumOr W au (some (en X))∧NumOr W ax (some (en Y))∧NumOr W g6 (some (en ah))∧Holds W w.heap.size 69 #[.int .u64 (x0:Int),.int .u64 (x1:Int),.int .u64 (x2:Int),.int .u64 (x3:Int),.int .u64 (y0:Int),.int .u64 (y1:Int),.int .u64 (y2:Int),.int .u64 (y3:Int),.int .u64 (z0:Int),.int .u64 (z1:Int),.int .u64 (z2:Int),.int .u64 (z3:Int)]∧Below w.heap.size w W) (by kernel_rfl) (⟨NumOr.drew nr.out,NumOr.drew mM.out,NumOr.drew ow.out,qB.out,qv.out.drew⟩) (fun hHeld=>?_)
 obtain ⟨V,hV⟩:∃ W,W=u7.drew:=⟨_,rfl⟩
 rw [←hV]
 have ay:Hid ((fun W=>NumOr W au (some (en X))∧NumOr W ax (some (en Y))∧NumOr W g6 (some (en ah))∧Holds W w.heap.size 69 #[.int .u64 (x0:Int),.int .u64 (x1:Int),.int .u64 (x2:Int),.int .u64 (x3:Int),.int .u64 (y0:Int),.int .u64 (y1:Int),.int .u64 (y2:Int),.int .u64 (y3:Int),.int .u64 (z0:Int),.int .u64 (z1:Int),.int .u64 (z2:Int),.int .u64 (z3:Int)]∧Below w.heap.size w W) V):=lH (by rw [hV];exact ⟨NumOr.drew nr,NumOr.drew mM,NumOr.drew ow,qB,qv.out.drew⟩)
 have qQ:Hid (Holds V (w.heap.size+1+1) 69 #[.int .u64 0,.int .u64 0,.int .u64 0,.int .u64 0,.int .u64 0,.int .u64 0,.int .u64 0,.int .u64 0,.int .u64 0,.int .u64 0,.int .u64 0,.int .u64 0]):=lH (by rw [hV];exact rM.out)
 replace hHeld:(fun W=>NumOr W au (some (en X))∧NumOr W ax (some (en Y))∧NumOr W g6 (some (en ah))∧Holds W w.heap.size 69 #[.int .u64 (x0:Int),.int .u64 (x1:Int),.int .u64 (x2:Int),.int .u64 (x3:Int),.int .u64 (y0:Int),.int .u64 (y1:Int),.int .u64 (y2:Int),.int .u64 (y3:Int),.int .u64 (z0:Int),.int .u64 (z1:Int),.int .u64 (z2:Int),.int .u64 (z3:Int)]∧Below w.heap.size w W) V:=ay.out
 clear hV
 refine tk 0 ⟨some 83,.load 67 (.tmp 11),67,_,_,none⟩ ?_ rfl ?_ hHeld ?_
 rotate_left 1
 ·(intro W hW;have aT:=hW.1.cells HX.out;obtain ⟨q0,q1,q2,q3⟩:=aT;(try dsimp only at hW);go_simp;try with_reducible rfl)
 try simp only [aP]
 refine tk 1 ⟨some 84,.load 67 (.tmp 12),67,_,_,none⟩ ?_ rfl ?_ hHeld ?_
 rotate_left 1
 ·(intro W hW;have aT:=hW.2.1.cells HY.out;obtain ⟨q0,q1,q2,q3⟩:=aT;(try dsimp only at hW);go_simp;try with_reducible rfl)
 try simp only [aP]
 refine tz 2 ⟨some 85,.fieldAddr 69 (.tmp 2) 2,0,_,_,none⟩ rfl hHeld ?_
 try simp only [aP]
 refine tk 3 ⟨some 86,.load 67 (.tmp 85),67,_,_,none⟩ ?_ rfl ?_ hHeld ?_
 rotate_left 1
 ·(intro W hW;have aM:=hW.2.2.2.1;have k8:=aM.cell 8;have k9:=aM.cell 9;have n6:=aM.cell 10;have nW:=aM.cell 11;(try dsimp only at hW);go_simp;try with_reducible rfl)
 try simp only [aP]
 refine tk 4 ⟨some 87,.load 67 (.tmp 6),67,_,_,none⟩ ?_ rfl ?_ hHeld ?_
 rotate_left 1
 ·(intro W hW;have aT:=hW.2.2.1.cells bC.out;obtain ⟨q0,q1,q2,q3⟩:=aT;(try dsimp only at hW);go_simp;try with_reducible rfl)
 try simp only [aP]
 refine rdy 5 ⟨some 88,.call ⟨ .value (.func 56),#[.tmp 86,.tmp 87],#[67,67]⟩,67,_,_,none⟩ rfl (fun K hK=>?_)
 go_simp
 refine (mulE V (rx.out.under ay.out.2.2.2.2) j.z ah Hz bC (by rw [←EZ.out];exact HZ.out)).mono ?_
 rintro e V1 ⟨rfl,ab⟩
 have jS:Hid ((fun W=>NumOr W au (some (en X))∧NumOr W ax (some (en Y))∧NumOr W g6 (some (en ah))∧Holds W w.heap.size 69 #[.int .u64 (x0:Int),.int .u64 (x1:Int),.int .u64 (x2:Int),.int .u64 (x3:Int),.int .u64 (y0:Int),.int .u64 (y1:Int),.int .u64 (y2:Int),.int .u64 (y3:Int),.int .u64 (z0:Int),.int .u64 (z1:Int),.int .u64 (z2:Int),.int .u64 (z3:Int)]∧Below w.heap.size w W) V1):=lH ⟨NumOr.under ay.out.1 ab,NumOr.under ay.out.2.1 ab,NumOr.under ay.out.2.2.1 ab,ay.out.2.2.2.1.under ab (Holds.lt ay.out.2.2.2.1),ay.out.2.2.2.2.trans (ab.mono ay.out.2.2.2.2.size)⟩
 have aG:=lH (qQ.out.under ab (Holds.lt qQ))
 clear ab
 go_simp
 refine hK.out _ _ (jS.out) (fun hHeld=>?_)
 clear hK K
 try simp only [aP]
 refine tz 6 ⟨some 89,.build 69 #[(0,.tmp 83),(1,.tmp 84),(2,.tmp 88)],69,_,_,none⟩ rfl hHeld ?_
 try simp only [aP]
 refine rdy 7 ⟨none,.store 69 (.tmp 4) (.tmp 89),0,_,_,none⟩ rfl (fun K hK=>?_)
 have rF:=aG.out.cell 0
 have sV:=aG.out.open_ 0
 have ri:=aG.out.cell 1
 have rS:=aG.out.open_ 1
 have sN:=aG.out.cell 2
 have se:=aG.out.open_ 2
 have rU:=aG.out.cell 3
 have sC:=aG.out.open_ 3
 have qX:=aG.out.cell 4
 have sU:=aG.out.open_ 4
 have sE:=aG.out.cell 5
 have sY:=aG.out.open_ 5
 have q9:=aG.out.cell 6
 have sq:=aG.out.open_ 6
 have rV:=aG.out.cell 7
 have sR:=aG.out.open_ 7
 have sm:=aG.out.cell 8
 have sw:=aG.out.open_ 8
 have rY:=aG.out.cell 9
 have rK:=aG.out.open_ 9
 have pN:=aG.out.cell 10
 have pV:=aG.out.open_ 10
 have pJ:=aG.out.cell 11
 have qh:=aG.out.open_ 11
 obtain ⟨VL,hN⟩:∃ W,W=((((((((((((V1.setCell ⟨w.heap.size+1+1,0,none⟩ (.int .u64 (X0:Int))).setCell ⟨w.heap.size+1+1,1,none⟩ (.int .u64 (X1:Int))).setCell ⟨w.heap.size+1+1,2,none⟩ (.int .u64 (X2:Int))).setCell ⟨w.heap.size+1+1,3,none⟩ (.int .u64 (X3:Int))).setCell ⟨w.heap.size+1+1,4,none⟩ (.int .u64 (Y0:Int))).setCell ⟨w.heap.size+1+1,5,none⟩ (.int .u64 (Y1:Int))).setCell ⟨w.heap.size+1+1,6,none⟩ (.int .u64 (Y2:Int))).setCell ⟨w.heap.size+1+1,7,none⟩ (.int .u64 (Y3:Int))).setCell ⟨w.heap.size+1+1,8,none⟩ (.int .u64 (Z0:Int))).setCell ⟨w.heap.size+1+1,9,none⟩ (.int .u64 (Z1:Int))).setCell ⟨w.heap.size+1+1,10,none⟩ (.int .u64 (Z2:Int))).setCell ⟨w.heap.size+1+1,11,none⟩ (.int .u64 (Z3:Int))):=⟨_,rfl⟩
 go_simp
 rw [←hN]
 have ro:Hid (Holds VL (w.heap.size+1+1) 69 #[.int .u64 (X0:Int),.int .u64 (X1:Int),.int .u64 (X2:Int),.int .u64 (X3:Int),.int .u64 (Y0:Int),.int .u64 (Y1:Int),.int .u64 (Y2:Int),.int .u64 (Y3:Int),.int .u64 (Z0:Int),.int .u64 (Z1:Int),.int .u64 (Z2:Int),.int .u64 (Z3:Int)]):=lH (by rw [hN];exact set12 aG _ _ _ _ _ _ _ _ _ _ _ _)
 have qN:Hid (Below w.heap.size w VL):=lH (by rw [hN];exact below12 jS.out.2.2.2.2 (by omega) _ _ _ _ _ _ _ _ _ _ _ _)
 have rX:Hid ((fun W=>NumOr W au (some (en X))∧NumOr W ax (some (en Y))∧NumOr W g6 (some (en ah))∧Holds W w.heap.size 69 #[.int .u64 (x0:Int),.int .u64 (x1:Int),.int .u64 (x2:Int),.int .u64 (x3:Int),.int .u64 (y0:Int),.int .u64 (y1:Int),.int .u64 (y2:Int),.int .u64 (y3:Int),.int .u64 (z0:Int),.int .u64 (z1:Int),.int .u64 (z2:Int),.int .u64 (z3:Int)]∧Below w.heap.size w W) VL):=lH ⟨by rw [hN];exact holds_aside12 jS.out.1 (k:=w.heap.size+1+1) (by have:=lp.out;omega) _ _ _ _ _ _ _ _ _ _ _ _,by rw [hN];exact holds_aside12 jS.out.2.1 (k:=w.heap.size+1+1) (by have:=oA.out;omega) _ _ _ _ _ _ _ _ _ _ _ _,by rw [hN];exact holds_aside12 jS.out.2.2.1 (k:=w.heap.size+1+1) (by have:=bX.out;omega) _ _ _ _ _ _ _ _ _ _ _ _,by rw [hN];exact holds_aside12 jS.out.2.2.2.1 (k:=w.heap.size+1+1) (by omega) _ _ _ _ _ _ _ _ _ _ _ _,qN⟩
 clear hN rF sV ri rS sN se rU sC qX sU sE sY q9 sq rV sR sm sw rY rK pN pV pJ qh
 refine hK.out _ _ (rX.out) (fun hHeld=>?_)
 clear hK K
 try simp only [aP]
 refine dn ?_
 go_wp2_with fail
 exact ret_wd (g:=w.heap.size+1+1) rfl rfl ro rfl ⟨rfl,qN⟩
end Go.Proofs.YtflfdglpljodbaaDoor
