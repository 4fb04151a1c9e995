/-
  The document's numbers of the field, as the field's. The document: a point by three numbers, twice. The document: the sum of a point by three numbers and one by two. The document: a point by three numbers, as a point. The document: a point, many times.
-/
import Derived.Test.YtflfdglpljodbaaDoorGCvA
import Derived.Test.YtflfdglpljodbaaDoorGCvD
import Derived.Test.YtflfdglpljodbaaDoorGRef12
import Derived.Deep.RegionLaw
import Derived.Deep.RegionHeld3
import Derived.Deep.DrawnRows
import Derived.Test.YtflfdglpljodbaaDoorGCvC
import Derived.Test.YtflfdglpljodbaaDoorGModM
set_option maxRecDepth 100000
set_option maxHeartbeats 20000000
set_option linter.unusedVariables false
set_option linter.unusedSimpArgs false
namespace Go.Proofs.YtflfdglpljodbaaDoor
open Go.RowKit
structure NR (W:World) (A:Option Addr) (c:Nat) (l:List Nat) (f:Luc.F):Prop where
 rd:Rd .u32 W W.heap.size A c l
 num:NumIs l f.val
theorem NR.under {W W':World} {A:Option Addr} {c:Nat} {l:List Nat} {f:Luc.F} (h:NR W A c l f) (hb:Below W.heap.size W W'):NR W' A c l f:=⟨(h.rd.under hb).more hb.size,h.num⟩
theorem NR.drew {W:World} {A:Option Addr} {c:Nat} {l:List Nat} {f:Luc.F} (h:NR W A c l f):NR W.drew A c l f:=h.under (Below.refl _ W).drew
theorem NR.dg {W:World} {A:Option Addr} {c:Nat} {l:List Nat} {f:Luc.F} (h:NR W A c l f):Dg l:=h.num.1
theorem NR.nrm {W:World} {A:Option Addr} {c:Nat} {l:List Nat} {f:Luc.F} (h:NR W A c l f):nrm l:=h.num.2.1
theorem NR.val {W:World} {A:Option Addr} {c:Nat} {l:List Nat} {f:Luc.F} (h:NR W A c l f):val l=f.val:=h.num.2.2
theorem NR.le {W:World} {A:Option Addr} {c:Nat} {l:List Nat} {f:Luc.F} (h:NR W A c l f):l.length≤8:=num_len8 h.num f.isLt
theorem NR.s {W:World} {A:Option Addr} {c:Nat} {l:List Nat} {f:Luc.F} (h:NR W A c l f):l.length≤1000:=Nat.le_trans h.le (by omega)
theorem rd_none {k:IntKind} {W W':World} {B B':Nat} {A:Option Addr} {c:Nat} (h:Rd k W B A c []):Rd k W' B' A c []:=⟨h.1,h.2.1,fun h0=>absurd h0 (by simp)⟩
theorem NR.apart {W:World} {A:Option Addr} {c g:Nat} {l:List Nat} {f:Luc.F} {t:TypeId} {cs:Array Value} (h:NR W A c l f) (hg:Holds W g t cs) (hs:∀ (j:Nat) (x:Int),cs[j]?≠some (.int .u32 x)):l=[]∨blockOf A≠some g:=by
 rcases l with _ | ⟨d,l⟩
 ·exact .inl rfl
 ·refine .inr fun e=>?_
  obtain ⟨b,off,hA,hb,hc⟩:=h.rd.2.2 (by simp)
  have h0:=hc 0 (by simp)
  rw [hA] at e
  have eb:b=g:=by simpa [blockOf] using e
  subst eb
  rw [Nat.add_zero,hg.cell off] at h0
  exact hs _ _ h0
theorem NR.store3 {W:World} {A:Option Addr} {c g:Nat} {l:List Nat} {f:Luc.F} {t:TypeId} {cs:Array Value} (h:NR W A c l f) (hg:Holds W g t cs) (hs:∀ (j:Nat) (x:Int),cs[j]?≠some (.int .u32 x)) (p q r:Value) :
  NR (((W.setCell ⟨g,0,none⟩ p).setCell ⟨g,1,none⟩ q).setCell ⟨g,2,none⟩ r) A c l f:=by
 rcases h.apart hg hs with e | e
 ·subst e
  exact ⟨rd_none h.rd,h.num⟩
 ·exact ⟨rd_aside3 h.rd e p q r,h.num⟩
theorem no_nums3 {A1 A2 A3:Option Addr} {n1 c1 n2 c2 n3 c3:Nat}:∀ (j:Nat) (x:Int),(#[Value.slice A1 n1 c1,.slice A2 n2 c2,.slice A3 n3 c3])[j]?≠some (.int .u32 x):=by
 intro j x
 rcases j with _ | _ | _ | j <;> simp
theorem no_numsP {A1 A2:Option Addr} {n1 c1 n2 c2:Nat} {b:Bool}:∀ (j:Nat) (x:Int),(#[Value.slice A1 n1 c1,.slice A2 n2 c2,.bool b])[j]?≠some (.int .u32 x):=by
 intro j x
 rcases j with _ | _ | _ | j <;> simp
def GotF (w:World) (f:Luc.F) (e:Ending) (w':World):Prop :=
 ∃ A c l,e = .returned (.slice A l.length c)∧NR w' A c l f∧Below w.heap.size w w'
theorem got_f {w:World} {v:Nat} {f:Luc.F} {e:Ending} {w':World} (h:Got w v e w') (hv:v=f.val):GotF w f e w':=by
 obtain ⟨A,c,r,he,hn,hr,hb⟩:=h
 subst hv
 exact ⟨A,c,r,he,⟨hr,hn⟩,hb⟩
theorem mulRF (w:World) {A A':Option Addr} {c c':Nat} {l l':List Nat} {f g:Luc.F} (h:NR w A c l f) (h':NR w A' c' l' g) :
  Calls Tryd.prog 46 #[.slice A l.length c,.slice A' l'.length c'] w (GotF w (f*g)) :=
 (mulR_any w A A' c c' l l' h.rd h'.rd h.dg h'.dg h.s h'.s h.nrm h'.nrm).mono fun e w' hq=>got_f hq (by rw [h.val,h'.val,Fin.val_mul];rfl)
theorem addRF (w:World) {A A':Option Addr} {c c':Nat} {l l':List Nat} {f g:Luc.F} (h:NR w A c l f) (h':NR w A' c' l' g) :
  Calls Tryd.prog 47 #[.slice A l.length c,.slice A' l'.length c'] w (GotF w (f+g)) :=
 (addR_any w A A' c c' l l' h.rd h'.rd h.dg h'.dg h.s h'.s h.nrm h'.nrm).mono fun e w' hq=>got_f hq (by rw [h.val,h'.val,Fin.val_add];rfl)
theorem sub_val {a b:Nat} {f g:Luc.F} (ha:a=f.val) (hb:b=g.val):(a % cP+(cP - b % cP)) % cP=(f - g).val:=by
 have hf:f.val<cP:=f.isLt
 have hg:g.val<cP:=g.isLt
 subst ha hb
 rw [Nat.mod_eq_of_lt hf,Nat.mod_eq_of_lt hg,Fin.sub_def]
 show _=(cP - g.val+f.val) % cP
 rw [Nat.add_comm]
theorem subRF (w:World) {A A':Option Addr} {c c':Nat} {l l':List Nat} {f g:Luc.F} (h:NR w A c l f) (h':NR w A' c' l' g) :
  Calls Tryd.prog 48 #[.slice A l.length c,.slice A' l'.length c'] w (GotF w (f - g)) :=
 (subR_any w A A' c c' l l' h.rd h'.rd h.dg h'.dg h.s h'.s h.nrm h'.nrm).mono fun e w' hq=>got_f hq (sub_val h.val h'.val)
theorem threeRF (w:World) {A:Option Addr} {c:Nat} {l:List Nat} {f:Luc.F} (h:NR w A c l f) :
  Calls Tryd.prog 49 #[.slice A l.length c] w (GotF w (f+(f+f))) :=
 (threeR_any w A c l h.rd h.dg h.s h.nrm).mono fun e w' hq=>got_f hq (by rw [h.val,Fin.val_add,Fin.val_add];rfl)
theorem num_noughtF:NumIs [] (0:Luc.F).val:=num_nil
theorem NR.nought (w:World):NR w none 0 [] 0:=⟨⟨by simp,by omega,fun h=>absurd h (by simp)⟩,num_noughtF⟩
theorem NR.zero_iff {W:World} {A:Option Addr} {c:Nat} {l:List Nat} {f:Luc.F} (h:NR W A c l f):l.length=0↔f=0:=by
 constructor
 ·intro e
  have:l=[]:=List.length_eq_zero_iff.1 e
  subst this
  exact Fin.ext (by rw [←h.val];rfl)
 ·intro e
  subst e
  have:=num_one h.num num_noughtF
  rw [this];rfl
theorem ret_jac {R:Ending→World→Prop} {tmps:Array Value} {w:World} {g:Nat} {t:TypeId} {cs:Array Value} {fn:Func} {p:Tmp}
  (hr:fn.results=#[.cell p 58]) (hp:tmps.getD p undef = .pointer (some ⟨g,0,none⟩)) (hg:Holds w g t cs) (hcs:cs.size=3) (hR:R (.returned (.agg cs)) w) :
  bodyPost Tryd.prog fn R .ret { tmps:=tmps,defers:=[] } w:=by
 have hi:(Tryd.prog.info? 58).map (·.size)=some cs.size:=by rw [hcs];kernel_rfl
 refine bodyPost_ret (v:=.agg cs) ?_ rfl hR
 have hp':tmps[p]?.getD undef = .pointer (some ⟨g,0,none⟩):=by simpa using hp
 simp [results,hr,hp',asAddr,run_loadVar_row w g t _ cs (0,0) _ hg Tryd.underlying58 rfl hi,Result.andThen]
def JacP (w:World) (j:Luc.Jc) (e:Ending) (w':World):Prop :=
 ∃ A1 c1 l1 A2 c2 l2 A3 c3 l3,e = .returned (.agg #[.slice A1 l1.length c1,.slice A2 l2.length c2,.slice A3 l3.length c3])∧NR w' A1 c1 l1 j.x∧NR w' A2 c2 l2 j.y∧NR w' A3 c3 l3 j.z∧Below w.heap.size w w'
theorem sub_two (a b:Luc.F):a - b - b=a - (b+b):=by grind
theorem twiceR_any (w:World) (j:Luc.Jc) {Ax Ay Az:Option Addr} {cx cy cz:Nat} {lx ly lz:List Nat} (hx:NR w Ax cx lx j.x) (hy:NR w Ay cy ly j.y) (hz:NR w Az cz lz j.z) :
  Calls Tryd.prog 38 #[.agg #[.slice Ax lx.length cx,.slice Ay ly.length cy,.slice Az lz.length cz]] w (JacP w (Luc.dbl j)):=by
 obtain ⟨w1,je⟩:∃ W,W=w.alloc (.cells #[.slice Ax lx.length cx,.slice Ay ly.length cy,.slice Az lz.length cz] 58):=⟨_,rfl⟩
 have jF:w1.heap.size=w.heap.size+1:=by rw [je];simp
 have jr:Below w.heap.size w w1:=by rw [je];exact (Below.refl _ _).alloc (Nat.le_refl _) _
 obtain ⟨W0,iZ⟩:∃ W,W=w1.alloc (.cells #[.slice none 0 0,.slice none 0 0,.slice none 0 0] 58):=⟨_,rfl⟩
 have jo:Below w.heap.size w W0:=by rw [iZ];exact jr.alloc jr.size _
 have e9:Hid (Holds W0 w.heap.size 58 #[.slice Ax lx.length cx,.slice Ay ly.length cy,.slice Az lz.length cz]):=lH (by rw [iZ,je];exact (Holds.fresh w _ _).alloc _)
 have iK:Hid (Holds W0 (w.heap.size+1) 58 #[.slice none 0 0,.slice none 0 0,.slice none 0 0]):=lH (by rw [iZ,←jF];exact Holds.fresh w1 _ _)
 have iI:=lH jo
 have i9:=lH (hx.under jo)
 have iY:=lH (hy.under jo)
 have iU:=lH (hz.under jo)
 have HW:=lH (je ▸ iZ:W0=(w.alloc (.cells #[.slice Ax lx.length cx,.slice Ay ly.length cy,.slice Az lz.length cz] 58)).alloc (.cells #[.slice none 0 0,.slice none 0 0,.slice none 0 0] 58))
 clear hx hy hz je jF jr iZ jo
 go_enter Tryd.func38,Tryd.ntmps38
 go_wp2_with fail
 rw [←HW.out]
 clear HW
 go_wp2_with fail
 refine wp_region_noPanic ?_
 refine wp_region_held_drew (S:=fun W=>Holds W w.heap.size 58 #[.slice Ax lx.length cx,.slice Ay ly.length cy,.slice Az lz.length cz]∧True) (by kernel_rfl) (⟨e9.out,trivial⟩) (fun hHeld=>?_)
 obtain ⟨W1,hV⟩:∃ W,W=W0.drew:=⟨_,rfl⟩
 rw [←hV]
 have au:Below W0.heap.size W0 W1:=by rw [hV];exact (Below.refl _ W0).drew
 have eR:=lH (e9.out.under au (Holds.lt e9))
 have iJ:=lH (iK.out.under au (Holds.lt iK))
 have iG:=lH (iI.out.trans (au.mono iI.out.size))
 have iW:=lH (i9.out.under au)
 have iP:=lH (iY.out.under au)
 have eY:=lH (iU.out.under au)
 clear e9 iK iI i9 iY iU
 have jV:Hid ((fun W=>Holds W w.heap.size 58 #[.slice Ax lx.length cx,.slice Ay ly.length cy,.slice Az lz.length cz]∧True) W1):=lH ⟨eR,trivial⟩
 replace hHeld:(fun W=>Holds W w.heap.size 58 #[.slice Ax lx.length cx,.slice Ay ly.length cy,.slice Az lz.length cz]∧True) W1:=jV.out
 clear hV au
 refine tz 0 ⟨some 12,.fieldAddr 58 (.tmp 1) 2,0,_,_,none⟩ rfl hHeld ?_
 try simp only [aP]
 refine tk 1 ⟨some 13,.load 24 (.tmp 12),24,_,_,none⟩ ?_ rfl ?_ hHeld ?_
 rotate_left 1
 ·(intro W hW;have jm:=hW.1.cell 2;(try dsimp only at hW);go_simp;try with_reducible rfl)
 try simp only [aP]
 refine tz 2 ⟨some 14,.fieldAddr 58 (.tmp 1) 2,0,_,_,none⟩ rfl hHeld ?_
 try simp only [aP]
 refine tk 3 ⟨some 15,.load 24 (.tmp 14),24,_,_,none⟩ ?_ rfl ?_ hHeld ?_
 rotate_left 1
 ·(intro W hW;have jm:=hW.1.cell 2;(try dsimp only at hW);go_simp;try with_reducible rfl)
 try simp only [aP]
 refine tz 5 ⟨some 17,.fieldAddr 58 (.tmp 1) 1,0,_,_,none⟩ rfl hHeld ?_
 try simp only [aP]
 refine tk 6 ⟨some 18,.load 24 (.tmp 17),24,_,_,none⟩ ?_ rfl ?_ hHeld ?_
 rotate_left 1
 ·(intro W hW;have jm:=hW.1.cell 1;(try dsimp only at hW);go_simp;try with_reducible rfl)
 try simp only [aP]
 refine tz 7 ⟨some 19,.fieldAddr 58 (.tmp 1) 1,0,_,_,none⟩ rfl hHeld ?_
 try simp only [aP]
 refine tk 8 ⟨some 20,.load 24 (.tmp 19),24,_,_,none⟩ ?_ rfl ?_ hHeld ?_
 rotate_left 1
 ·(intro W hW;have jm:=hW.1.cell 1;(try dsimp only at hW);go_simp;try with_reducible rfl)
 try simp only [aP]
 refine rdy 4 ⟨some 16,.call ⟨ .value (.func 46),#[.tmp 13,.tmp 15],#[24,24]⟩,24,_,_,none⟩ rfl (fun K hK=>?_)
 go_simp
 refine (mulRF W1 eY eY).mono ?_
 rintro e W2 ⟨Ade,cde,lde,rfl,hn,hb⟩
 have eU:=lH (eR.out.under hb (Holds.lt eR))
 have iB:=lH (iJ.out.under hb (Holds.lt iJ))
 have hM:=lH (iG.out.trans (hb.mono iG.out.size))
 have jc:=lH (iW.out.under hb)
 have eT:=lH (iP.out.under hb)
 have jg:=lH (eY.out.under hb)
 clear eR iJ iG iW iP eY
 obtain ⟨de,cH⟩:∃ v_,v_=j.z*j.z:=⟨_,rfl⟩
 rw [←cH] at hn
 have jt:=lH cH
 have fp:=lH hn
 clear hn hb cH
 have jZ:Hid ((fun W=>Holds W w.heap.size 58 #[.slice Ax lx.length cx,.slice Ay ly.length cy,.slice Az lz.length cz]∧True) W2):=lH ⟨eU,trivial⟩
 go_simp
 refine hK.out _ _ (jZ.out) (fun hHeld=>?_)
 clear hK K
 try simp only [aP]
 refine rdy 9 ⟨some 21,.call ⟨ .value (.func 46),#[.tmp 18,.tmp 20],#[24,24]⟩,24,_,_,none⟩ rfl (fun K hK=>?_)
 go_simp
 refine (mulRF W2 eT eT).mono ?_
 rintro e W3 ⟨Aga,cga,lga,rfl,hn,hb⟩
 have dO:=lH (eU.out.under hb (Holds.lt eU))
 have hC:=lH (iB.out.under hb (Holds.lt iB))
 have ie:=lH (hM.out.trans (hb.mono hM.out.size))
 have gW:=lH (jc.out.under hb)
 have i8:=lH (eT.out.under hb)
 have i7:=lH (jg.out.under hb)
 have gT:=lH (fp.out.under hb)
 clear eU iB hM jc eT jg fp
 obtain ⟨ga,dD⟩:∃ v_,v_=j.y*j.y:=⟨_,rfl⟩
 rw [←dD] at hn
 have ju:=lH dD
 have dl:=lH hn
 clear hn hb dD
 have jQ:Hid ((fun W=>Holds W w.heap.size 58 #[.slice Ax lx.length cx,.slice Ay ly.length cy,.slice Az lz.length cz]∧True) W3):=lH ⟨dO,trivial⟩
 go_simp
 refine hK.out _ _ (jQ.out) (fun hHeld=>?_)
 clear hK K
 try simp only [aP]
 refine tz 10 ⟨some 3,.assign (.tmp 16),24,_,_,none⟩ rfl hHeld ?_
 try simp only [aP]
 refine tz 11 ⟨some 4,.assign (.tmp 21),24,_,_,none⟩ rfl hHeld ?_
 try simp only [aP]
 refine dn ?_
 have jw:=dO.out.cell 0
 go_wp2_with fail
 refine (mulRF W3 gW dl).mono ?_
 rintro e W4 ⟨Abe,cbe,lbe,rfl,hn,hb⟩
 have eX:=lH (dO.out.under hb (Holds.lt dO))
 have iy:=lH (hC.out.under hb (Holds.lt hC))
 have hI:=lH (ie.out.trans (hb.mono ie.out.size))
 have iV:=lH (gW.out.under hb)
 have i4:=lH (i8.out.under hb)
 have jl:=lH (i7.out.under hb)
 have fR:=lH (gT.out.under hb)
 have fQ:=lH (dl.out.under hb)
 clear dO hC ie gW i8 i7 gT dl
 obtain ⟨be,eF⟩:∃ v_,v_=j.x*ga:=⟨_,rfl⟩
 rw [←eF] at hn
 have jA:=lH eF
 have gj:=lH hn
 clear hn hb eF
 clear jw
 go_wp2_with fail
 refine wp_region_noPanic ?_
 refine wp_region_held_drew (S:=fun W=>Holds W w.heap.size 58 #[.slice Ax lx.length cx,.slice Ay ly.length cy,.slice Az lz.length cz]∧True) (by kernel_rfl) (⟨eX.out,trivial⟩) (fun hHeld=>?_)
 obtain ⟨W5,hV⟩:∃ W,W=W4.drew:=⟨_,rfl⟩
 rw [←hV]
 have au:Below W4.heap.size W4 W5:=by rw [hV];exact (Below.refl _ W4).drew
 have eZ:=lH (eX.out.under au (Holds.lt eX))
 have gZ:=lH (iy.out.under au (Holds.lt iy))
 have h_:=lH (hI.out.trans (au.mono hI.out.size))
 have iu:=lH (iV.out.under au)
 have iS:=lH (i4.out.under au)
 have jh:=lH (jl.out.under au)
 have eh:=lH (fR.out.under au)
 have fV:=lH (fQ.out.under au)
 have fv:=lH (gj.out.under au)
 clear eX iy hI iV i4 jl fR fQ gj
 have jS:Hid ((fun W=>Holds W w.heap.size 58 #[.slice Ax lx.length cx,.slice Ay ly.length cy,.slice Az lz.length cz]∧True) W5):=lH ⟨eZ,trivial⟩
 replace hHeld:(fun W=>Holds W w.heap.size 58 #[.slice Ax lx.length cx,.slice Ay ly.length cy,.slice Az lz.length cz]∧True) W5:=jS.out
 clear hV au
 refine tz 0 ⟨some 26,.fieldAddr 58 (.tmp 1) 0,0,_,_,none⟩ rfl hHeld ?_
 try simp only [aP]
 refine tk 1 ⟨some 27,.load 24 (.tmp 26),24,_,_,none⟩ ?_ rfl ?_ hHeld ?_
 rotate_left 1
 ·(intro W hW;have jm:=hW.1.cell 0;(try dsimp only at hW);go_simp;try with_reducible rfl)
 try simp only [aP]
 refine tz 2 ⟨some 28,.move (.tmp 3),24,_,_,none⟩ rfl hHeld ?_
 try simp only [aP]
 refine tz 4 ⟨some 30,.fieldAddr 58 (.tmp 1) 0,0,_,_,none⟩ rfl hHeld ?_
 try simp only [aP]
 refine tk 5 ⟨some 31,.load 24 (.tmp 30),24,_,_,none⟩ ?_ rfl ?_ hHeld ?_
 rotate_left 1
 ·(intro W hW;have jm:=hW.1.cell 0;(try dsimp only at hW);go_simp;try with_reducible rfl)
 try simp only [aP]
 refine tz 6 ⟨some 32,.move (.tmp 3),24,_,_,none⟩ rfl hHeld ?_
 try simp only [aP]
 refine rdy 3 ⟨some 29,.call ⟨ .value (.func 48),#[.tmp 27,.tmp 28],#[24,24]⟩,24,_,_,none⟩ rfl (fun K hK=>?_)
 go_simp
 refine (subRF W5 iu eh).mono ?_
 rintro e W6 ⟨As1,cs1,ls1,rfl,hn,hb⟩
 have e8:=lH (eZ.out.under hb (Holds.lt eZ))
 have iL:=lH (gZ.out.under hb (Holds.lt gZ))
 have ir:=lH (h_.out.trans (hb.mono h_.out.size))
 have iw:=lH (iu.out.under hb)
 have iR:=lH (iS.out.under hb)
 have jj:=lH (jh.out.under hb)
 have bO:=lH (eh.out.under hb)
 have gR:=lH (fV.out.under hb)
 have fS:=lH (fv.out.under hb)
 clear eZ gZ h_ iu iS jh eh fV fv
 obtain ⟨s1,dM⟩:∃ v_,v_=j.x - de:=⟨_,rfl⟩
 rw [←dM] at hn
 have jD:=lH dM
 have gl:=lH hn
 clear hn hb dM
 have j8:Hid ((fun W=>Holds W w.heap.size 58 #[.slice Ax lx.length cx,.slice Ay ly.length cy,.slice Az lz.length cz]∧True) W6):=lH ⟨e8,trivial⟩
 go_simp
 refine hK.out _ _ (j8.out) (fun hHeld=>?_)
 clear hK K
 try simp only [aP]
 refine rdy 7 ⟨some 33,.call ⟨ .value (.func 47),#[.tmp 31,.tmp 32],#[24,24]⟩,24,_,_,none⟩ rfl (fun K hK=>?_)
 go_simp
 refine (addRF W6 iw bO).mono ?_
 rintro e W7 ⟨As2,cs2,ls2,rfl,hn,hb⟩
 have eS:=lH (e8.out.under hb (Holds.lt e8))
 have ik:=lH (iL.out.under hb (Holds.lt iL))
 have iE:=lH (ir.out.trans (hb.mono ir.out.size))
 have jp:=lH (iw.out.under hb)
 have ja:=lH (iR.out.under hb)
 have jf:=lH (jj.out.under hb)
 have fF:=lH (bO.out.under hb)
 have gE:=lH (gR.out.under hb)
 have fB:=lH (fS.out.under hb)
 have bc:=lH (gl.out.under hb)
 clear e8 iL ir iw iR jj bO gR fS gl
 obtain ⟨s2,cF⟩:∃ v_,v_=j.x+de:=⟨_,rfl⟩
 rw [←cF] at hn
 have jB:=lH cF
 have er:=lH hn
 clear hn hb cF
 have j7:Hid ((fun W=>Holds W w.heap.size 58 #[.slice Ax lx.length cx,.slice Ay ly.length cy,.slice Az lz.length cz]∧True) W7):=lH ⟨eS,trivial⟩
 go_simp
 refine hK.out _ _ (j7.out) (fun hHeld=>?_)
 clear hK K
 try simp only [aP]
 refine rdy 8 ⟨some 34,.call ⟨ .value (.func 46),#[.tmp 29,.tmp 33],#[24,24]⟩,24,_,_,none⟩ rfl (fun K hK=>?_)
 go_simp
 refine (mulRF W7 bc er).mono ?_
 rintro e W8 ⟨As3,cs3,ls3,rfl,hn,hb⟩
 have eV:=lH (eS.out.under hb (Holds.lt eS))
 have iz:=lH (ik.out.under hb (Holds.lt ik))
 have iH:=lH (iE.out.trans (hb.mono iE.out.size))
 have jb:=lH (jp.out.under hb)
 have iQ:=lH (ja.out.under hb)
 have i5:=lH (jf.out.under hb)
 have fJ:=lH (fF.out.under hb)
 have gA:=lH (gE.out.under hb)
 have fu:=lH (fB.out.under hb)
 have gU:=lH (bc.out.under hb)
 have gr:=lH (er.out.under hb)
 clear eS ik iE jp ja jf fF gE fB bc er
 obtain ⟨s3,cA⟩:∃ v_,v_=s1*s2:=⟨_,rfl⟩
 rw [←cA] at hn
 have jE:=lH cA
 have d9:=lH hn
 clear hn hb cA
 have jY:Hid ((fun W=>Holds W w.heap.size 58 #[.slice Ax lx.length cx,.slice Ay ly.length cy,.slice Az lz.length cz]∧True) W8):=lH ⟨eV,trivial⟩
 go_simp
 refine hK.out _ _ (jY.out) (fun hHeld=>?_)
 clear hK K
 try simp only [aP]
 refine rdy 9 ⟨some 35,.call ⟨ .value (.func 49),#[.tmp 34],#[24]⟩,24,_,_,none⟩ rfl (fun K hK=>?_)
 go_simp
 refine (threeRF W8 d9).mono ?_
 rintro e W9 ⟨Aal,cal,lal,rfl,hn,hb⟩
 have eW:=lH (eV.out.under hb (Holds.lt eV))
 have ix:=lH (iz.out.under hb (Holds.lt iz))
 have ib:=lH (iH.out.trans (hb.mono iH.out.size))
 have i_:=lH (jb.out.under hb)
 have jn:=lH (iQ.out.under hb)
 have jk:=lH (i5.out.under hb)
 have f_:=lH (fJ.out.under hb)
 have gm:=lH (gA.out.under hb)
 have aO:=lH (fu.out.under hb)
 have ji:=lH (gU.out.under hb)
 have iO:=lH (gr.out.under hb)
 have jq:=lH (d9.out.under hb)
 clear eV iz iH jb iQ i5 fJ gA fu gU gr d9
 obtain ⟨al,bv⟩:∃ v_,v_=s3+(s3+s3):=⟨_,rfl⟩
 rw [←bv] at hn
 have jz:=lH bv
 have gO:=lH hn
 clear hn hb bv
 have j5:Hid ((fun W=>Holds W w.heap.size 58 #[.slice Ax lx.length cx,.slice Ay ly.length cy,.slice Az lz.length cz]∧True) W9):=lH ⟨eW,trivial⟩
 go_simp
 refine hK.out _ _ (j5.out) (fun hHeld=>?_)
 clear hK K
 try simp only [aP]
 refine tz 10 ⟨some 6,.assign (.tmp 35),24,_,_,none⟩ rfl hHeld ?_
 try simp only [aP]
 refine dn ?_
 clear ji iO jq
 go_wp2_with fail
 refine (addRF W9 aO aO).mono ?_
 rintro e j4 ⟨Af1,cf1,lf1,rfl,hn,hb⟩
 have bG:=lH (eW.out.under hb (Holds.lt eW))
 have ec:=lH (ix.out.under hb (Holds.lt ix))
 have a8:=lH (ib.out.trans (hb.mono ib.out.size))
 have fk:=lH (i_.out.under hb)
 have gF:=lH (jn.out.under hb)
 have fl:=lH (jk.out.under hb)
 have ds:=lH (f_.out.under hb)
 have ez:=lH (gm.out.under hb)
 have ak:=lH (aO.out.under hb)
 have aT:=lH (gO.out.under hb)
 clear eW ix ib i_ jn jk f_ gm aO gO
 obtain ⟨f1,dv⟩:∃ v_,v_=be+be:=⟨_,rfl⟩
 rw [←dv] at hn
 have jG:=lH dv
 have bS:=lH hn
 clear hn hb dv
 go_wp2_with fail
 refine (addRF j4 ak ak).mono ?_
 rintro e jJ ⟨Af2,cf2,lf2,rfl,hn,hb⟩
 have eN:=lH (bG.out.under hb (Holds.lt bG))
 have aY:=lH (ec.out.under hb (Holds.lt ec))
 have eB:=lH (a8.out.trans (hb.mono a8.out.size))
 have gK:=lH (fk.out.under hb)
 have fI:=lH (gF.out.under hb)
 have fa:=lH (fl.out.under hb)
 have dG:=lH (ds.out.under hb)
 have cW:=lH (ez.out.under hb)
 have ei:=lH (ak.out.under hb)
 have bW:=lH (aT.out.under hb)
 have aF:=lH (bS.out.under hb)
 clear bG ec a8 fk gF fl ds ez ak aT bS
 obtain ⟨f2,bu⟩:∃ v_,v_=be+be:=⟨_,rfl⟩
 rw [←bu] at hn
 have jx:=lH bu
 have aD:=lH hn
 clear hn hb bu
 go_wp2_with fail
 refine (addRF jJ aF aD).mono ?_
 rintro e kd ⟨Afo,cfo,lfo,rfl,hn,hb⟩
 have aU:=lH (eN.out.under hb (Holds.lt eN))
 have dQ:=lH (aY.out.under hb (Holds.lt aY))
 have eM:=lH (eB.out.trans (hb.mono eB.out.size))
 have fD:=lH (gK.out.under hb)
 have fX:=lH (fI.out.under hb)
 have fP:=lH (fa.out.under hb)
 have d7:=lH (dG.out.under hb)
 have a6:=lH (cW.out.under hb)
 have il:=lH (ei.out.under hb)
 have ae:=lH (bW.out.under hb)
 have im:=lH (aF.out.under hb)
 have iD:=lH (aD.out.under hb)
 clear eN aY eB gK fI fa dG cW ei bW aF aD
 obtain ⟨fo,dK⟩:∃ v_,v_=f1+f2:=⟨_,rfl⟩
 rw [←dK] at hn
 have jy:=lH dK
 have dt:=lH hn
 clear hn hb dK
 clear im iD il
 go_wp2_with fail
 refine (mulRF kd ae ae).mono ?_
 rintro e jR ⟨Ap1,cp1,lp1,rfl,hn,hb⟩
 have ev:=lH (aU.out.under hb (Holds.lt aU))
 have cD:=lH (dQ.out.under hb (Holds.lt dQ))
 have dT:=lH (eM.out.trans (hb.mono eM.out.size))
 have gG:=lH (fD.out.under hb)
 have f6:=lH (fX.out.under hb)
 have gc:=lH (fP.out.under hb)
 have bV:=lH (d7.out.under hb)
 have dW:=lH (a6.out.under hb)
 have bf:=lH (ae.out.under hb)
 have aE:=lH (dt.out.under hb)
 clear aU dQ eM fD fX fP d7 a6 ae dt
 obtain ⟨p1,eI⟩:∃ v_,v_=al*al:=⟨_,rfl⟩
 rw [←eI] at hn
 have jC:=lH eI
 have aA:=lH hn
 clear hn hb eI
 go_wp2_with fail
 refine (subRF jR aA aE).mono ?_
 rintro e j9 ⟨Ap2,cp2,lp2,rfl,hn,hb⟩
 have ew:=lH (ev.out.under hb (Holds.lt ev))
 have bD:=lH (cD.out.under hb (Holds.lt cD))
 have dR:=lH (dT.out.trans (hb.mono dT.out.size))
 have fC:=lH (gG.out.under hb)
 have gu:=lH (f6.out.under hb)
 have fU:=lH (gc.out.under hb)
 have em:=lH (bV.out.under hb)
 have bz:=lH (dW.out.under hb)
 have eg:=lH (bf.out.under hb)
 have az:=lH (aE.out.under hb)
 have dU:=lH (aA.out.under hb)
 clear ev cD dT gG f6 gc bV dW bf aE aA
 obtain ⟨p2,dV⟩:∃ v_,v_=p1 - fo:=⟨_,rfl⟩
 rw [←dV] at hn
 have jH:=lH dV
 have aH:=lH hn
 clear hn hb dV
 go_wp2_with fail
 refine (subRF j9 aH az).mono ?_
 rintro e j6 ⟨AX,cX,lX,rfl,hn,hb⟩
 have av:=lH (ew.out.under hb (Holds.lt ew))
 have cS:=lH (bD.out.under hb (Holds.lt bD))
 have eE:=lH (dR.out.trans (hb.mono dR.out.size))
 have gN:=lH (fC.out.under hb)
 have bk:=lH (gu.out.under hb)
 have dB:=lH (fU.out.under hb)
 have cE:=lH (em.out.under hb)
 have bn:=lH (bz.out.under hb)
 have eP:=lH (eg.out.under hb)
 have cN:=lH (az.out.under hb)
 have iN:=lH (dU.out.under hb)
 have ic:=lH (aH.out.under hb)
 clear ew bD dR fC gu fU em bz eg az dU aH
 obtain ⟨X,io⟩:∃ v_,v_=p2 - fo:=⟨_,rfl⟩
 rw [←io] at hn
 have EX:=lH io
 have gg:=lH hn
 clear hn hb io
 clear iN ic
 have js:=av.out.cell 1
 have jv:=av.out.cell 2
 go_wp2_with fail
 refine (addRF j6 bk dB).mono ?_
 rintro e jL ⟨Asz,csz,lsz,rfl,hn,hb⟩
 have bI:=lH (av.out.under hb (Holds.lt av))
 have dY:=lH (cS.out.under hb (Holds.lt cS))
 have dS:=lH (eE.out.trans (hb.mono eE.out.size))
 have fw:=lH (gN.out.under hb)
 have fL:=lH (bk.out.under hb)
 have f9:=lH (dB.out.under hb)
 have dc:=lH (cE.out.under hb)
 have ac:=lH (bn.out.under hb)
 have bt:=lH (eP.out.under hb)
 have bB:=lH (cN.out.under hb)
 have gw:=lH (gg.out.under hb)
 clear av cS eE gN bk dB cE bn eP cN gg
 obtain ⟨sz,du⟩:∃ v_,v_=j.y+j.z:=⟨_,rfl⟩
 rw [←du] at hn
 have jM:=lH du
 have bH:=lH hn
 clear hn hb du
 clear js jv
 go_wp2_with fail
 refine (mulRF jL ac ac).mono ?_
 rintro e kc ⟨Ag1,cg1,lg1,rfl,hn,hb⟩
 have bs:=lH (bI.out.under hb (Holds.lt bI))
 have bL:=lH (dY.out.under hb (Holds.lt dY))
 have dX:=lH (dS.out.trans (hb.mono dS.out.size))
 have fq:=lH (fw.out.under hb)
 have fZ:=lH (fL.out.under hb)
 have gi:=lH (f9.out.under hb)
 have aQ:=lH (dc.out.under hb)
 have bA:=lH (ac.out.under hb)
 have a_:=lH (bt.out.under hb)
 have bQ:=lH (bB.out.under hb)
 have gt:=lH (gw.out.under hb)
 have aW:=lH (bH.out.under hb)
 clear bI dY dS fw fL f9 dc ac bt bB gw bH
 obtain ⟨g1,br⟩:∃ v_,v_=ga*ga:=⟨_,rfl⟩
 rw [←br] at hn
 have ke:=lH br
 have am:=lH hn
 clear hn hb br
 go_wp2_with fail
 refine (addRF kc am am).mono ?_
 rintro e jP ⟨Ag2,cg2,lg2,rfl,hn,hb⟩
 have cO:=lH (bs.out.under hb (Holds.lt bs))
 have bC:=lH (bL.out.under hb (Holds.lt bL))
 have ej:=lH (dX.out.trans (hb.mono dX.out.size))
 have fs:=lH (fq.out.under hb)
 have fb:=lH (fZ.out.under hb)
 have gz:=lH (gi.out.under hb)
 have eA:=lH (aQ.out.under hb)
 have eO:=lH (bA.out.under hb)
 have di:=lH (a_.out.under hb)
 have bY:=lH (bQ.out.under hb)
 have gB:=lH (gt.out.under hb)
 have cL:=lH (aW.out.under hb)
 have dN:=lH (am.out.under hb)
 clear bs bL dX fq fZ gi aQ bA a_ bQ gt aW am
 obtain ⟨g2,cC⟩:∃ v_,v_=g1+g1:=⟨_,rfl⟩
 rw [←cC] at hn
 have j_:=lH cC
 have ai:=lH hn
 clear hn hb cC
 go_wp2_with fail
 refine (addRF jP ai ai).mono ?_
 rintro e kb ⟨Ag4,cg4,lg4,rfl,hn,hb⟩
 have d6:=lH (cO.out.under hb (Holds.lt cO))
 have cU:=lH (bC.out.under hb (Holds.lt bC))
 have cV:=lH (ej.out.trans (hb.mono ej.out.size))
 have fM:=lH (fs.out.under hb)
 have fj:=lH (fb.out.under hb)
 have fN:=lH (gz.out.under hb)
 have cM:=lH (eA.out.under hb)
 have bE:=lH (eO.out.under hb)
 have bl:=lH (di.out.under hb)
 have aK:=lH (bY.out.under hb)
 have bN:=lH (gB.out.under hb)
 have dI:=lH (cL.out.under hb)
 have iF:=lH (dN.out.under hb)
 have iM:=lH (ai.out.under hb)
 clear cO bC ej fs fb gz eA eO di bY gB cL dN ai
 obtain ⟨g4,bK⟩:∃ v_,v_=g2+g2:=⟨_,rfl⟩
 rw [←bK] at hn
 have jK:=lH bK
 have dF:=lH hn
 clear hn hb bK
 clear iF iM
 go_wp2_with fail
 refine (subRF kb aK bN).mono ?_
 rintro e ka ⟨Aq1,cq1,lq1,rfl,hn,hb⟩
 have cl:=lH (d6.out.under hb (Holds.lt d6))
 have dP:=lH (cU.out.under hb (Holds.lt cU))
 have bd:=lH (cV.out.trans (hb.mono cV.out.size))
 have fT:=lH (fM.out.under hb)
 have fY:=lH (fj.out.under hb)
 have fO:=lH (fN.out.under hb)
 have bx:=lH (cM.out.under hb)
 have eK:=lH (bE.out.under hb)
 have aw:=lH (bl.out.under hb)
 have cB:=lH (aK.out.under hb)
 have fW:=lH (bN.out.under hb)
 have a9:=lH (dI.out.under hb)
 have bm:=lH (dF.out.under hb)
 clear d6 cU cV fM fj fN cM bE bl aK bN dI dF
 obtain ⟨q1,bw⟩:∃ v_,v_=fo - X:=⟨_,rfl⟩
 rw [←bw] at hn
 have kh:=lH bw
 have aB:=lH hn
 clear hn hb bw
 go_wp2_with fail
 refine (mulRF ka aw aB).mono ?_
 rintro e jO ⟨Aq2,cq2,lq2,rfl,hn,hb⟩
 have dC:=lH (cl.out.under hb (Holds.lt cl))
 have d_:=lH (dP.out.under hb (Holds.lt dP))
 have dJ:=lH (bd.out.trans (hb.mono bd.out.size))
 have e_:=lH (fT.out.under hb)
 have fE:=lH (fY.out.under hb)
 have fG:=lH (fO.out.under hb)
 have eQ:=lH (bx.out.under hb)
 have dA:=lH (eK.out.under hb)
 have eD:=lH (aw.out.under hb)
 have cT:=lH (cB.out.under hb)
 have gD:=lH (fW.out.under hb)
 have bF:=lH (a9.out.under hb)
 have aL:=lH (bm.out.under hb)
 have d8:=lH (aB.out.under hb)
 clear cl dP bd fT fY fO bx eK aw cB fW a9 bm aB
 obtain ⟨q2,eL⟩:∃ v_,v_=al*q1:=⟨_,rfl⟩
 rw [←eL] at hn
 have jW:=lH eL
 have aJ:=lH hn
 clear hn hb eL
 go_wp2_with fail
 refine (subRF jO aJ aL).mono ?_
 rintro e kg ⟨Aq3,cq3,lq3,rfl,hn,hb⟩
 have ed:=lH (dC.out.under hb (Holds.lt dC))
 have cG:=lH (d_.out.under hb (Holds.lt d_))
 have eG:=lH (dJ.out.trans (hb.mono dJ.out.size))
 have gv:=lH (e_.out.under hb)
 have gL:=lH (fE.out.under hb)
 have fK:=lH (fG.out.under hb)
 have dw:=lH (eQ.out.under hb)
 have eo:=lH (dA.out.under hb)
 have bM:=lH (eD.out.under hb)
 have c_:=lH (cT.out.under hb)
 have fi:=lH (gD.out.under hb)
 have bP:=lH (bF.out.under hb)
 have aG:=lH (aL.out.under hb)
 have dE:=lH (d8.out.under hb)
 have ee:=lH (aJ.out.under hb)
 clear dC d_ dJ e_ fE fG eQ dA eD cT gD bF aL d8 aJ
 obtain ⟨q3,b_⟩:∃ v_,v_=q2 - g4:=⟨_,rfl⟩
 rw [←b_] at hn
 have jI:=lH b_
 have aC:=lH hn
 clear hn hb b_
 go_wp2_with fail
 refine (subRF kg aC aG).mono ?_
 rintro e jX ⟨AY,cY,lY,rfl,hn,hb⟩
 have bT:=lH (ed.out.under hb (Holds.lt ed))
 have dL:=lH (cG.out.under hb (Holds.lt cG))
 have aX:=lH (eG.out.trans (hb.mono eG.out.size))
 have gH:=lH (gv.out.under hb)
 have gJ:=lH (gL.out.under hb)
 have fm:=lH (fK.out.under hb)
 have ba:=lH (dw.out.under hb)
 have cJ:=lH (eo.out.under hb)
 have iA:=lH (bM.out.under hb)
 have ia:=lH (c_.out.under hb)
 have f8:=lH (fi.out.under hb)
 have ao:=lH (bP.out.under hb)
 have dH:=lH (aG.out.under hb)
 have iC:=lH (dE.out.under hb)
 have g_:=lH (ee.out.under hb)
 have id:=lH (aC.out.under hb)
 clear ed cG eG gv gL fK dw eo bM c_ fi bP aG dE ee aC
 obtain ⟨Y,iv⟩:∃ v_,v_=q3 - g4:=⟨_,rfl⟩
 rw [←iv] at hn
 have EY:=lH iv
 have gI:=lH hn
 clear hn hb iv
 clear iC g_ id iA ia
 go_wp2_with fail
 refine (mulRF jX ao ao).mono ?_
 rintro e kf ⟨Ar1,cr1,lr1,rfl,hn,hb⟩
 have bZ:=lH (bT.out.under hb (Holds.lt bT))
 have eJ:=lH (dL.out.under hb (Holds.lt dL))
 have bU:=lH (aX.out.trans (hb.mono aX.out.size))
 have fg:=lH (gH.out.under hb)
 have ft:=lH (gJ.out.under hb)
 have gQ:=lH (fm.out.under hb)
 have ep:=lH (ba.out.under hb)
 have ay:=lH (cJ.out.under hb)
 have gM:=lH (f8.out.under hb)
 have eH:=lH (ao.out.under hb)
 have cK:=lH (dH.out.under hb)
 have fH:=lH (gI.out.under hb)
 clear bT dL aX gH gJ fm ba cJ f8 ao dH gI
 obtain ⟨r1,ef⟩:∃ v_,v_=sz*sz:=⟨_,rfl⟩
 rw [←ef] at hn
 have jT:=lH ef
 have aN:=lH hn
 clear hn hb ef
 go_wp2_with fail
 refine (subRF kf aN ay).mono ?_
 rintro e jU ⟨Ar2,cr2,lr2,rfl,hn,hb⟩
 have bR:=lH (bZ.out.under hb (Holds.lt bZ))
 have bJ:=lH (eJ.out.under hb (Holds.lt eJ))
 have dr:=lH (bU.out.trans (hb.mono bU.out.size))
 have fA:=lH (fg.out.under hb)
 have gC:=lH (ft.out.under hb)
 have fc:=lH (gQ.out.under hb)
 have ax:=lH (ep.out.under hb)
 have aR:=lH (ay.out.under hb)
 have fh:=lH (gM.out.under hb)
 have eC:=lH (eH.out.under hb)
 have bX:=lH (cK.out.under hb)
 have gS:=lH (fH.out.under hb)
 have aV:=lH (aN.out.under hb)
 clear bZ eJ bU fg ft gQ ep ay gM eH cK fH aN
 obtain ⟨r2,dZ⟩:∃ v_,v_=r1 - ga:=⟨_,rfl⟩
 rw [←dZ] at hn
 have jN:=lH dZ
 have aM:=lH hn
 clear hn hb dZ
 go_wp2_with fail
 refine (subRF jU aM ax).mono ?_
 rintro e W26 ⟨AZ,cZ,lZ,rfl,hn,hb⟩
 have BX_26:=lH (bR.out.under hb (Holds.lt bR))
 have ab:=lH (bJ.out.under hb (Holds.lt bJ))
 have jd:=lH (dr.out.trans (hb.mono dr.out.size))
 have Nx_26:=lH (fA.out.under hb)
 have Ny_26:=lH (gC.out.under hb)
 have Nz_26:=lH (fc.out.under hb)
 have Nde_26:=lH (ax.out.under hb)
 have Nga_26:=lH (aR.out.under hb)
 have iT:=lH (fh.out.under hb)
 have Nsz_26:=lH (eC.out.under hb)
 have Ng4_26:=lH (bX.out.under hb)
 have i6:=lH (gS.out.under hb)
 have Nr1_26:=lH (aV.out.under hb)
 have Nr2_26:=lH (aM.out.under hb)
 clear bR bJ dr fA gC fc ax aR fh eC bX gS aV aM
 obtain ⟨Z,gV⟩:∃ v_,v_=r2 - de:=⟨_,rfl⟩
 rw [←gV] at hn
 have EZ:=lH gV
 have iX:=lH hn
 clear hn hb gV
 have z0:=ab.out.cell 0
 have z1:=ab.out.cell 1
 have z2:=ab.out.cell 2
 have o0:=ab.out.open_ 0
 have o1:=ab.out.open_ 1
 have o2:=ab.out.open_ 2
 go_wp2_with fail
 have hX:=iT.out.store3 ab no_nums3 (.slice AX lX.length cX) (.slice AY lY.length cY) (.slice AZ lZ.length cZ)
 have hY:=i6.out.store3 ab no_nums3 (.slice AX lX.length cX) (.slice AY lY.length cY) (.slice AZ lZ.length cZ)
 have hZ:=iX.out.store3 ab no_nums3 (.slice AX lX.length cX) (.slice AY lY.length cY) (.slice AZ lZ.length cZ)
 refine ret_jac (g:=w.heap.size+1) rfl rfl (set3 ab _ _ _) rfl ⟨AX,cX,lX,AY,cY,lY,AZ,cZ,lZ,rfl,?_,?_,?_,below3 jd (by omega) _ _ _⟩
 ·have e:(Luc.dbl j).x=X:=by rw [EX.out,jH.out,jC.out,jy.out,jG.out,jx.out,jz.out,jE.out,jB.out,jD.out,jA.out,ju.out,jt.out];exact (sub_two _ _).symm
  rw [e];exact hX
 ·have e:(Luc.dbl j).y=Y:=by rw [EY.out,jI.out,jW.out,kh.out,EX.out,jH.out,jC.out,jy.out,jG.out,jx.out,jz.out,jE.out,jB.out,jD.out,jA.out,jK.out,j_.out,ke.out,ju.out,jt.out,sub_two,sub_two];rfl
  rw [e];exact hY
 ·have e:(Luc.dbl j).z=Z:=by rw [EZ.out,jN.out,jT.out,jM.out,ju.out,jt.out];rfl
  rw [e];exact hZ
theorem mul_sw (a b:Luc.F):a*b=b*a:=by grind
theorem moreR_any (w:World) (j:Luc.Jc) (u v:Luc.F) {Ax Ay Az Au Av:Option Addr} {cx cy cz cu cv:Nat} {lx ly lz lu lv:List Nat} (hx:NR w Ax cx lx j.x) (hy:NR w Ay cy ly j.y) (hz:NR w Az cz lz j.z) (hu:NR w Au cu lu u) (hv:NR w Av cv lv v) :
  Calls Tryd.prog 39 #[.agg #[.slice Ax lx.length cx,.slice Ay ly.length cy,.slice Az lz.length cz],.agg #[.slice Au lu.length cu,.slice Av lv.length cv,.bool false]] w (JacP w (Luc.pls j u v)):=by
 obtain ⟨w1,je⟩:∃ W,W=w.alloc (.cells #[.slice Ax lx.length cx,.slice Ay ly.length cy,.slice Az lz.length cz] 58):=⟨_,rfl⟩
 have jN:w1.heap.size=w.heap.size+1:=by rw [je];simp
 have jA:Below w.heap.size w w1:=by rw [je];exact (Below.refl _ _).alloc (Nat.le_refl _) _
 obtain ⟨w2,iC⟩:∃ W,W=w1.alloc (.cells #[.slice Au lu.length cu,.slice Av lv.length cv,.bool false] 26):=⟨_,rfl⟩
 have jW:w2.heap.size=w.heap.size+1+1:=by rw [iC];simp [jN]
 have jO:Below w.heap.size w w2:=by rw [iC];exact jA.alloc jA.size _
 obtain ⟨W0,iD⟩:∃ W,W=w2.alloc (.cells #[.slice none 0 0,.slice none 0 0,.slice none 0 0] 58):=⟨_,rfl⟩
 have iu:Below w.heap.size w W0:=by rw [iD];exact jO.alloc jO.size _
 have eL:Hid (Holds W0 w.heap.size 58 #[.slice Ax lx.length cx,.slice Ay ly.length cy,.slice Az lz.length cz]):=lH (by rw [iD,iC,je];exact ((Holds.fresh w _ _).alloc _).alloc _)
 have gM:Hid (Holds W0 (w.heap.size+1) 26 #[.slice Au lu.length cu,.slice Av lv.length cv,.bool false]):=lH (by rw [iD,iC,←jN];exact (Holds.fresh w1 _ _).alloc _)
 have ix:Hid (Holds W0 (w.heap.size+1+1) 58 #[.slice none 0 0,.slice none 0 0,.slice none 0 0]):=lH (by rw [iD,←jW];exact Holds.fresh w2 _ _)
 have im:=lH iu
 have iZ:=lH (hx.under iu)
 have iS:=lH (hy.under iu)
 have aX:=lH (hz.under iu)
 have i5:=lH (hu.under iu)
 have jm:=lH (hv.under iu)
 have HW:=lH (je ▸ iC ▸ iD:W0=((w.alloc (.cells #[.slice Ax lx.length cx,.slice Ay ly.length cy,.slice Az lz.length cz] 58)).alloc (.cells #[.slice Au lu.length cu,.slice Av lv.length cv,.bool false] 26)).alloc (.cells #[.slice none 0 0,.slice none 0 0,.slice none 0 0] 58))
 have jV:=lH hu
 have jT:=lH hv
 clear hx hy hz hu hv je jN jA iC jW jO iD iu
 go_enter Tryd.func39,Tryd.ntmps39
 by_cases hzn:j.z=0
 ·have e0:lz.length=0:=aX.out.zero_iff.2 hzn
  have jB:((lz.length:Int) == 0)=true:=by rw [beq_iff_eq];omega
  have jH:decide ((lz.length:Int)=0)=true:=decide_eq_true (by omega)
  have au:Hid (Luc.pls j u v=⟨u,v,1⟩):=lH (by unfold Luc.pls;rw [if_pos hzn])
  clear e0 hzn
  have e2:((w.alloc (.cells #[.slice Ax lx.length cx,.slice Ay ly.length cy,.slice Az lz.length cz] 58)).alloc (.cells #[.slice Au lu.length cu,.slice Av lv.length cv,.bool false] 26)).heap.size=w.heap.size+1+1:=by simp
  have e3:(((w.alloc (.cells #[.slice Ax lx.length cx,.slice Ay ly.length cy,.slice Az lz.length cz] 58)).alloc (.cells #[.slice Au lu.length cu,.slice Av lv.length cv,.bool false] 26)).alloc (.cells #[.slice Au lu.length cu,.slice Av lv.length cv,.slice (some ⟨w.heap.size+1+1+1,0,none⟩) 1 1] 58)).heap.size=w.heap.size+1+1+1:=by simp
  have hR:=(Holds.fresh ((w.alloc (.cells #[.slice Ax lx.length cx,.slice Ay ly.length cy,.slice Az lz.length cz] 58)).alloc (.cells #[.slice Au lu.length cu,.slice Av lv.length cv,.bool false] 26)) 58 #[.slice Au lu.length cu,.slice Av lv.length cv,.slice (some ⟨w.heap.size+1+1+1,0,none⟩) 1 1]).alloc (.cells #[.int .u32 1] 22)
  rw [e2] at hR
  have h1:Row .u32 22 ((((w.alloc (.cells #[.slice Ax lx.length cx,.slice Ay ly.length cy,.slice Az lz.length cz] 58)).alloc (.cells #[.slice Au lu.length cu,.slice Av lv.length cv,.bool false] 26)).alloc (.cells #[.slice Au lu.length cu,.slice Av lv.length cv,.slice (some ⟨w.heap.size+1+1+1,0,none⟩) 1 1] 58)).alloc (.cells #[.int .u32 1] 22)) (w.heap.size+1+1+1) [1]:=by
   have h:=Holds.fresh (((w.alloc (.cells #[.slice Ax lx.length cx,.slice Ay ly.length cy,.slice Az lz.length cz] 58)).alloc (.cells #[.slice Au lu.length cu,.slice Av lv.length cv,.bool false] 26)).alloc (.cells #[.slice Au lu.length cu,.slice Av lv.length cv,.slice (some ⟨w.heap.size+1+1+1,0,none⟩) 1 1] 58)) 22 #[.int .u32 1]
   rw [e3] at h
   exact h
  have hB:Below w.heap.size w ((((w.alloc (.cells #[.slice Ax lx.length cx,.slice Ay ly.length cy,.slice Az lz.length cz] 58)).alloc (.cells #[.slice Au lu.length cu,.slice Av lv.length cv,.bool false] 26)).alloc (.cells #[.slice Au lu.length cu,.slice Av lv.length cv,.slice (some ⟨w.heap.size+1+1+1,0,none⟩) 1 1] 58)).alloc (.cells #[.int .u32 1] 22)):=((((Below.refl _ _).alloc (Nat.le_refl _) _).alloc (by simp) _).alloc (by simp;omega) _).alloc (by simp;omega) _
  have HR:=lH hR
  have H1:=lH h1
  have HB:=lH hB
  clear e2 e3 hR h1 hB
  go_wp2_with fail
  refine ret_jac (g:=w.heap.size+1+1) rfl rfl HR rfl ⟨Au,cu,lu,Av,cv,lv,some ⟨w.heap.size+1+1+1,0,none⟩,1,[1],rfl,?_,?_,?_,HB⟩
  ·rw [au.out];exact jV.out.under HB.out
  ·rw [au.out];exact jT.out.under HB.out
  ·rw [au.out];exact ⟨(rd_whole H1 (by simp) (by simp)).more (Holds.lt H1),num_unit⟩
 have e0:¬ lz.length=0:=fun e=>hzn (aX.out.zero_iff.1 e)
 have jB:((lz.length:Int) == 0)=false:=by rw [beq_eq_false_iff_ne];omega
 have jH:decide ((lz.length:Int)=0)=false:=decide_eq_false (by omega)
 have jF:=lH hzn
 clear e0 hzn jV jT
 go_wp2_with fail
 rw [←HW.out]
 clear HW
 have jL:=eL.out.cell 2
 go_wp2_with fail
 refine (mulRF W0 aX aX).mono ?_
 rintro e W1 ⟨Azz,czz,lzz,rfl,hn,hb⟩
 have er:=lH (eL.out.under hb (Holds.lt eL))
 have ew:=lH (gM.out.under hb (Holds.lt gM))
 have io:=lH (ix.out.under hb (Holds.lt ix))
 have ie:=lH (im.out.trans (hb.mono im.out.size))
 have iQ:=lH (iZ.out.under hb)
 have iI:=lH (iS.out.under hb)
 have jf:=lH (aX.out.under hb)
 have jp:=lH (i5.out.under hb)
 have ju:=lH (jm.out.under hb)
 clear eL gM ix im iZ iS aX i5 jm
 obtain ⟨zz,bN⟩:∃ v_,v_=j.z*j.z:=⟨_,rfl⟩
 rw [←bN] at hn
 have iH:=lH bN
 have f9:=lH hn
 clear hn hb bN
 clear jL
 go_wp2_with fail
 refine wp_region_noPanic ?_
 refine wp_region_held_drew (S:=fun W=>Holds W w.heap.size 58 #[.slice Ax lx.length cx,.slice Ay ly.length cy,.slice Az lz.length cz]∧Holds W (w.heap.size+1) 26 #[.slice Au lu.length cu,.slice Av lv.length cv,.bool false]∧True) (by kernel_rfl) (⟨er.out,ew.out,trivial⟩) (fun hHeld=>?_)
 obtain ⟨W2,hV⟩:∃ W,W=W1.drew:=⟨_,rfl⟩
 rw [←hV]
 have ac:Below W1.heap.size W1 W2:=by rw [hV];exact (Below.refl _ W1).drew
 have eC:=lH (er.out.under ac (Holds.lt er))
 have eF:=lH (ew.out.under ac (Holds.lt ew))
 have ib:=lH (io.out.under ac (Holds.lt io))
 have gI:=lH (ie.out.trans (ac.mono ie.out.size))
 have jb:=lH (iQ.out.under ac)
 have iT:=lH (iI.out.under ac)
 have ji:=lH (jf.out.under ac)
 have gZ:=lH (jp.out.under ac)
 have iP:=lH (ju.out.under ac)
 have bt:=lH (f9.out.under ac)
 clear er ew io ie iQ iI jf jp ju f9
 have kf:Hid ((fun W=>Holds W w.heap.size 58 #[.slice Ax lx.length cx,.slice Ay ly.length cy,.slice Az lz.length cz]∧Holds W (w.heap.size+1) 26 #[.slice Au lu.length cu,.slice Av lv.length cv,.bool false]∧True) W2):=lH ⟨eC,eF,trivial⟩
 replace hHeld:(fun W=>Holds W w.heap.size 58 #[.slice Ax lx.length cx,.slice Ay ly.length cy,.slice Az lz.length cz]∧Holds W (w.heap.size+1) 26 #[.slice Au lu.length cu,.slice Av lv.length cv,.bool false]∧True) W2:=kf.out
 clear hV ac
 refine tz 0 ⟨some 27,.fieldAddr 26 (.tmp 3) 0,0,_,_,none⟩ rfl hHeld ?_
 try simp only [aP]
 refine tk 1 ⟨some 28,.load 24 (.tmp 27),24,_,_,none⟩ ?_ rfl ?_ hHeld ?_
 rotate_left 1
 ·(intro W hW;have iF:=hW.2.1.cell 0;(try dsimp only at hW);go_simp;try with_reducible rfl)
 try simp only [aP]
 refine tz 2 ⟨some 29,.move (.tmp 5),24,_,_,none⟩ rfl hHeld ?_
 try simp only [aP]
 refine tz 4 ⟨some 31,.fieldAddr 58 (.tmp 2) 0,0,_,_,none⟩ rfl hHeld ?_
 try simp only [aP]
 refine tk 5 ⟨some 32,.load 24 (.tmp 31),24,_,_,none⟩ ?_ rfl ?_ hHeld ?_
 rotate_left 1
 ·(intro W hW;have iF:=hW.1.cell 0;(try dsimp only at hW);go_simp;try with_reducible rfl)
 try simp only [aP]
 refine tz 7 ⟨some 34,.fieldAddr 26 (.tmp 3) 1,0,_,_,none⟩ rfl hHeld ?_
 try simp only [aP]
 refine tk 8 ⟨some 35,.load 24 (.tmp 34),24,_,_,none⟩ ?_ rfl ?_ hHeld ?_
 rotate_left 1
 ·(intro W hW;have iF:=hW.2.1.cell 1;(try dsimp only at hW);go_simp;try with_reducible rfl)
 try simp only [aP]
 refine tz 9 ⟨some 36,.move (.tmp 5),24,_,_,none⟩ rfl hHeld ?_
 try simp only [aP]
 refine tz 10 ⟨some 37,.fieldAddr 58 (.tmp 2) 2,0,_,_,none⟩ rfl hHeld ?_
 try simp only [aP]
 refine tk 11 ⟨some 38,.load 24 (.tmp 37),24,_,_,none⟩ ?_ rfl ?_ hHeld ?_
 rotate_left 1
 ·(intro W hW;have iF:=hW.1.cell 2;(try dsimp only at hW);go_simp;try with_reducible rfl)
 try simp only [aP]
 refine tz 14 ⟨some 41,.fieldAddr 58 (.tmp 2) 1,0,_,_,none⟩ rfl hHeld ?_
 try simp only [aP]
 refine tk 15 ⟨some 42,.load 24 (.tmp 41),24,_,_,none⟩ ?_ rfl ?_ hHeld ?_
 rotate_left 1
 ·(intro W hW;have iF:=hW.1.cell 1;(try dsimp only at hW);go_simp;try with_reducible rfl)
 try simp only [aP]
 refine rdy 3 ⟨some 30,.call ⟨ .value (.func 46),#[.tmp 28,.tmp 29],#[24,24]⟩,24,_,_,none⟩ rfl (fun K hK=>?_)
 go_simp
 refine (mulRF W2 gZ bt).mono ?_
 rintro e W3 ⟨Am1,cm1,lm1,rfl,hn,hb⟩
 have eI:=lH (eC.out.under hb (Holds.lt eC))
 have eH:=lH (eF.out.under hb (Holds.lt eF))
 have gF:=lH (ib.out.under hb (Holds.lt ib))
 have gN:=lH (gI.out.trans (hb.mono gI.out.size))
 have gD:=lH (jb.out.under hb)
 have iY:=lH (iT.out.under hb)
 have iX:=lH (ji.out.under hb)
 have jo:=lH (gZ.out.under hb)
 have jd:=lH (iP.out.under hb)
 have fD:=lH (bt.out.under hb)
 clear eC eF ib gI jb iT ji gZ iP bt
 obtain ⟨m1,bT⟩:∃ v_,v_=u*zz:=⟨_,rfl⟩
 rw [←bT] at hn
 have jD:=lH bT
 have bH:=lH hn
 clear hn hb bT
 have ka:Hid ((fun W=>Holds W w.heap.size 58 #[.slice Ax lx.length cx,.slice Ay ly.length cy,.slice Az lz.length cz]∧Holds W (w.heap.size+1) 26 #[.slice Au lu.length cu,.slice Av lv.length cv,.bool false]∧True) W3):=lH ⟨eI,eH,trivial⟩
 go_simp
 refine hK.out _ _ (ka.out) (fun hHeld=>?_)
 clear hK K
 try simp only [aP]
 refine rdy 6 ⟨some 33,.call ⟨ .value (.func 48),#[.tmp 30,.tmp 32],#[24,24]⟩,24,_,_,none⟩ rfl (fun K hK=>?_)
 go_simp
 refine (subRF W3 bH gD).mono ?_
 rintro e W4 ⟨Aah,cah,iE,rfl,hn,hb⟩
 have eG:=lH (eI.out.under hb (Holds.lt eI))
 have ez:=lH (eH.out.under hb (Holds.lt eH))
 have hI:=lH (gF.out.under hb (Holds.lt gF))
 have gG:=lH (gN.out.trans (hb.mono gN.out.size))
 have iO:=lH (gD.out.under hb)
 have iU:=lH (iY.out.under hb)
 have iv:=lH (iX.out.under hb)
 have jr:=lH (jo.out.under hb)
 have i6:=lH (jd.out.under hb)
 have bZ:=lH (fD.out.under hb)
 have fC:=lH (bH.out.under hb)
 clear eI eH gF gN gD iY iX jo jd fD bH
 obtain ⟨ah,c_⟩:∃ v_,v_=m1 - j.x:=⟨_,rfl⟩
 rw [←c_] at hn
 have jE:=lH c_
 have gg:=lH hn
 clear hn hb c_
 have ko:Hid ((fun W=>Holds W w.heap.size 58 #[.slice Ax lx.length cx,.slice Ay ly.length cy,.slice Az lz.length cz]∧Holds W (w.heap.size+1) 26 #[.slice Au lu.length cu,.slice Av lv.length cv,.bool false]∧True) W4):=lH ⟨eG,ez,trivial⟩
 go_simp
 refine hK.out _ _ (ko.out) (fun hHeld=>?_)
 clear hK K
 try simp only [aP]
 refine rdy 12 ⟨some 39,.call ⟨ .value (.func 46),#[.tmp 36,.tmp 38],#[24,24]⟩,24,_,_,none⟩ rfl (fun K hK=>?_)
 go_simp
 refine (mulRF W4 bZ iv).mono ?_
 rintro e W5 ⟨Azzz,czzz,lzzz,rfl,hn,hb⟩
 have eJ:=lH (eG.out.under hb (Holds.lt eG))
 have ev:=lH (ez.out.under hb (Holds.lt ez))
 have gE:=lH (hI.out.under hb (Holds.lt hI))
 have gK:=lH (gG.out.trans (hb.mono gG.out.size))
 have i7:=lH (iO.out.under hb)
 have iN:=lH (iU.out.under hb)
 have jj:=lH (iv.out.under hb)
 have jq:=lH (jr.out.under hb)
 have il:=lH (i6.out.under hb)
 have eP:=lH (bZ.out.under hb)
 have eN:=lH (fC.out.under hb)
 have eW:=lH (gg.out.under hb)
 clear eG ez hI gG iO iU iv jr i6 bZ fC gg
 obtain ⟨ki,av⟩:∃ v_,v_=zz*j.z:=⟨_,rfl⟩
 rw [←av] at hn
 have gV:=lH av
 have ao:=lH hn
 clear hn hb av
 have kc:Hid ((fun W=>Holds W w.heap.size 58 #[.slice Ax lx.length cx,.slice Ay ly.length cy,.slice Az lz.length cz]∧Holds W (w.heap.size+1) 26 #[.slice Au lu.length cu,.slice Av lv.length cv,.bool false]∧True) W5):=lH ⟨eJ,ev,trivial⟩
 go_simp
 refine hK.out _ _ (kc.out) (fun hHeld=>?_)
 clear hK K
 try simp only [aP]
 refine rdy 13 ⟨some 40,.call ⟨ .value (.func 46),#[.tmp 35,.tmp 39],#[24,24]⟩,24,_,_,none⟩ rfl (fun K hK=>?_)
 go_simp
 refine (mulRF W5 il ao).mono ?_
 rintro e W6 ⟨Am2,cm2,lm2,rfl,hn,hb⟩
 have eK:=lH (eJ.out.under hb (Holds.lt eJ))
 have eE:=lH (ev.out.under hb (Holds.lt ev))
 have iy:=lH (gE.out.under hb (Holds.lt gE))
 have gT:=lH (gK.out.trans (hb.mono gK.out.size))
 have i9:=lH (i7.out.under hb)
 have gJ:=lH (iN.out.under hb)
 have jk:=lH (jj.out.under hb)
 have jg:=lH (jq.out.under hb)
 have jw:=lH (il.out.under hb)
 have gv:=lH (eP.out.under hb)
 have eX:=lH (eN.out.under hb)
 have fw:=lH (eW.out.under hb)
 have bB:=lH (ao.out.under hb)
 clear eJ ev gE gK i7 iN jj jq il eP eN eW ao
 obtain ⟨m2,d6⟩:∃ v_,v_=v*ki:=⟨_,rfl⟩
 rw [←d6] at hn
 have jJ:=lH d6
 have cF:=lH hn
 clear hn hb d6
 have kn:Hid ((fun W=>Holds W w.heap.size 58 #[.slice Ax lx.length cx,.slice Ay ly.length cy,.slice Az lz.length cz]∧Holds W (w.heap.size+1) 26 #[.slice Au lu.length cu,.slice Av lv.length cv,.bool false]∧True) W6):=lH ⟨eK,eE,trivial⟩
 go_simp
 refine hK.out _ _ (kn.out) (fun hHeld=>?_)
 clear hK K
 try simp only [aP]
 refine rdy 16 ⟨some 43,.call ⟨ .value (.func 48),#[.tmp 40,.tmp 42],#[24,24]⟩,24,_,_,none⟩ rfl (fun K hK=>?_)
 go_simp
 refine (subRF W6 cF gJ).mono ?_
 rintro e W7 ⟨Aar,car,iB,rfl,hn,hb⟩
 have az:=lH (eK.out.under hb (Holds.lt eK))
 have eA:=lH (eE.out.under hb (Holds.lt eE))
 have ae:=lH (iy.out.under hb (Holds.lt iy))
 have aY:=lH (gT.out.trans (hb.mono gT.out.size))
 have iA:=lH (i9.out.under hb)
 have hM:=lH (gJ.out.under hb)
 have id:=lH (jk.out.under hb)
 have iR:=lH (jg.out.under hb)
 have js:=lH (jw.out.under hb)
 have fQ:=lH (gv.out.under hb)
 have fG:=lH (eX.out.under hb)
 have ai:=lH (fw.out.under hb)
 have bU:=lH (bB.out.under hb)
 have fZ:=lH (cF.out.under hb)
 clear eK eE iy gT i9 gJ jk jg jw gv eX fw bB cF
 obtain ⟨ar,dw⟩:∃ v_,v_=m2 - j.y:=⟨_,rfl⟩
 rw [←dw] at hn
 have jG:=lH dw
 have aV:=lH hn
 clear hn hb dw
 have km:Hid ((fun W=>Holds W w.heap.size 58 #[.slice Ax lx.length cx,.slice Ay ly.length cy,.slice Az lz.length cz]∧Holds W (w.heap.size+1) 26 #[.slice Au lu.length cu,.slice Av lv.length cv,.bool false]∧True) W7):=lH ⟨az,eA,trivial⟩
 go_simp
 refine hK.out _ _ (km.out) (fun hHeld=>?_)
 clear hK K
 try simp only [aP]
 refine tz 17 ⟨some 6,.assign (.tmp 33),24,_,_,none⟩ rfl hHeld ?_
 try simp only [aP]
 refine tz 18 ⟨some 7,.assign (.tmp 43),24,_,_,none⟩ rfl hHeld ?_
 try simp only [aP]
 refine dn ?_
 by_cases hcz:ah=0
 ·have e0:iE.length=0:=ai.out.zero_iff.2 hcz
  have jt:((iE.length:Int) == 0)=true:=by rw [beq_iff_eq];omega
  have ja:decide ((iE.length:Int)=0)=true:=decide_eq_true (by omega)
  clear e0
  by_cases hr0:ar=0
  ·have e0:iB.length=0:=aV.out.zero_iff.2 hr0
   have iM:((iB.length:Int) == 0)=true:=by rw [beq_iff_eq];omega
   have jh:decide ((iB.length:Int)=0)=true:=decide_eq_true (by omega)
   have au:Hid (Luc.pls j u v=Luc.dbl j):=lH (by
    unfold Luc.pls
    rw [if_neg jF.out]
    simp only
    rw [if_pos (by rw [←iH.out,←jD.out,←jE.out];exact hcz),if_pos (by rw [←iH.out,←gV.out,←jJ.out,←jG.out];exact hr0)])
   have c0:=az.out.cell 0
   have c1:=az.out.cell 1
   have c2:=az.out.cell 2
   have jU:=lH (twiceR_any W7 j iA hM id)
   clear e0 hr0 hcz
   go_wp2_with fail
   refine jU.out.mono ?_
   rintro e W9 ⟨A1,c1,l1,A2,c2,l2,A3,c3,l3,rfl,q1,q2,q3,hb⟩
   have RB:=lH (ae.out.under hb (Holds.lt ae))
   have HB:=lH (aY.out.trans (hb.mono aY.out.size))
   clear hb jU
   have z0:=RB.out.cell 0
   have z1:=RB.out.cell 1
   have z2:=RB.out.cell 2
   have o0:=RB.out.open_ 0
   have o1:=RB.out.open_ 1
   have o2:=RB.out.open_ 2
   have Q1:=lH q1
   have Q2:=lH q2
   have Q3:=lH q3
   clear q1 q2 q3
   go_wp2_with fail
   have hX:=Q1.out.store3 RB no_nums3 (.slice A1 l1.length c1) (.slice A2 l2.length c2) (.slice A3 l3.length c3)
   have hY:=Q2.out.store3 RB no_nums3 (.slice A1 l1.length c1) (.slice A2 l2.length c2) (.slice A3 l3.length c3)
   have hZ:=Q3.out.store3 RB no_nums3 (.slice A1 l1.length c1) (.slice A2 l2.length c2) (.slice A3 l3.length c3)
   refine ret_jac (g:=w.heap.size+1+1) rfl rfl (set3 RB _ _ _) rfl ⟨A1,c1,l1,A2,c2,l2,A3,c3,l3,rfl,?_,?_,?_,below3 HB (by omega) _ _ _⟩
   ·rw [au.out];exact hX
   ·rw [au.out];exact hY
   ·rw [au.out];exact hZ
  ·have e0:¬ iB.length=0:=fun e=>hr0 (aV.out.zero_iff.1 e)
   have iM:((iB.length:Int) == 0)=false:=by rw [beq_eq_false_iff_ne];omega
   have jh:decide ((iB.length:Int)=0)=false:=decide_eq_false (by omega)
   have au:Hid (Luc.pls j u v=⟨0,0,0⟩):=lH (by
    unfold Luc.pls
    rw [if_neg jF.out]
    simp only
    rw [if_pos (by rw [←iH.out,←jD.out,←jE.out];exact hcz),if_neg (by rw [←iH.out,←gV.out,←jJ.out,←jG.out];exact hr0)])
   clear e0 hr0 hcz
   have z0:=ae.out.cell 0
   have z1:=ae.out.cell 1
   have z2:=ae.out.cell 2
   have o0:=ae.out.open_ 0
   have o1:=ae.out.open_ 1
   have o2:=ae.out.open_ 2
   go_wp2_with fail
   refine ret_jac (g:=w.heap.size+1+1) rfl rfl (set3 ae _ _ _) rfl ⟨none,0,[],none,0,[],none,0,[],rfl,?_,?_,?_,below3 aY (by omega) _ _ _⟩
   ·rw [au.out];exact NR.nought _
   ·rw [au.out];exact NR.nought _
   ·rw [au.out];exact NR.nought _
 have e0:¬ iE.length=0:=fun e=>hcz (ai.out.zero_iff.1 e)
 have jt:((iE.length:Int) == 0)=false:=by rw [beq_eq_false_iff_ne];omega
 have ja:decide ((iE.length:Int)=0)=false:=decide_eq_false (by omega)
 have ku:=lH hcz
 clear e0 hcz
 go_wp2_with fail
 refine (mulRF W7 ai ai).mono ?_
 rintro e W8 ⟨Abh,cbh,lbh,rfl,hn,hb⟩
 have eD:=lH (az.out.under hb (Holds.lt az))
 have iz:=lH (eA.out.under hb (Holds.lt eA))
 have ia:=lH (ae.out.under hb (Holds.lt ae))
 have ik:=lH (aY.out.trans (hb.mono aY.out.size))
 have h_:=lH (iA.out.under hb)
 have iK:=lH (hM.out.under hb)
 have iV:=lH (id.out.under hb)
 have jl:=lH (iR.out.under hb)
 have iL:=lH (js.out.under hb)
 have fl:=lH (fQ.out.under hb)
 have fv:=lH (fG.out.under hb)
 have fk:=lH (ai.out.under hb)
 have bw:=lH (bU.out.under hb)
 have gu:=lH (fZ.out.under hb)
 have fU:=lH (aV.out.under hb)
 clear az eA ae aY iA hM id iR js fQ fG ai bU fZ aV
 obtain ⟨bh,bP⟩:∃ v_,v_=ah*ah:=⟨_,rfl⟩
 rw [←bP] at hn
 have j8:=lH bP
 have bn:=lH hn
 clear hn hb bP
 have jP:=eD.out.cell 0
 go_wp2_with fail
 refine (mulRF W8 h_ bn).mono ?_
 rintro e W9 ⟨Avv,cvv,lvv,rfl,hn,hb⟩
 have gU:=lH (eD.out.under hb (Holds.lt eD))
 have g_:=lH (iz.out.under hb (Holds.lt iz))
 have hC:=lH (ia.out.under hb (Holds.lt ia))
 have gL:=lH (ik.out.trans (hb.mono ik.out.size))
 have i_:=lH (h_.out.under hb)
 have jv:=lH (iK.out.under hb)
 have jn:=lH (iV.out.under hb)
 have iW:=lH (jl.out.under hb)
 have iG:=lH (iL.out.under hb)
 have gr:=lH (fl.out.under hb)
 have fK:=lH (fv.out.under hb)
 have dG:=lH (fk.out.under hb)
 have cK:=lH (bw.out.under hb)
 have fL:=lH (gu.out.under hb)
 have gt:=lH (fU.out.under hb)
 have cD:=lH (bn.out.under hb)
 clear eD iz ia ik h_ iK iV jl iL fl fv fk bw gu fU bn
 obtain ⟨vv,bx⟩:∃ v_,v_=j.x*bh:=⟨_,rfl⟩
 rw [←bx] at hn
 have kj:=lH bx
 have fF:=lH hn
 clear hn hb bx
 clear jP
 go_wp2_with fail
 refine (mulRF W9 dG cD).mono ?_
 rintro e kh ⟨Ach,cch,lch,rfl,hn,hb⟩
 have bF:=lH (gU.out.under hb (Holds.lt gU))
 have bK:=lH (g_.out.under hb (Holds.lt g_))
 have dP:=lH (hC.out.under hb (Holds.lt hC))
 have bk:=lH (gL.out.trans (hb.mono gL.out.size))
 have eU:=lH (i_.out.under hb)
 have gc:=lH (jv.out.under hb)
 have eV:=lH (jn.out.under hb)
 have fV:=lH (iW.out.under hb)
 have fX:=lH (iG.out.under hb)
 have bJ:=lH (gr.out.under hb)
 have bW:=lH (fK.out.under hb)
 have d7:=lH (dG.out.under hb)
 have aM:=lH (cK.out.under hb)
 have dH:=lH (fL.out.under hb)
 have ak:=lH (gt.out.under hb)
 have di:=lH (cD.out.under hb)
 have dI:=lH (fF.out.under hb)
 clear gU g_ hC gL i_ jv jn iW iG gr fK dG cK fL gt cD fF
 obtain ⟨ch,bL⟩:∃ v_,v_=ah*bh:=⟨_,rfl⟩
 rw [←bL] at hn
 have kk:=lH bL
 have dS:=lH hn
 clear hn hb bL
 go_wp2_with fail
 refine (mulRF kh ak ak).mono ?_
 rintro e j6 ⟨Arr,crr,lrr,rfl,hn,hb⟩
 have eo:=lH (bF.out.under hb (Holds.lt bF))
 have d_:=lH (bK.out.under hb (Holds.lt bK))
 have bd:=lH (dP.out.under hb (Holds.lt dP))
 have dZ:=lH (bk.out.trans (hb.mono bk.out.size))
 have gA:=lH (eU.out.under hb)
 have fm:=lH (gc.out.under hb)
 have eO:=lH (eV.out.under hb)
 have gj:=lH (fV.out.under hb)
 have fa:=lH (fX.out.under hb)
 have dl:=lH (bJ.out.under hb)
 have d8:=lH (bW.out.under hb)
 have dr:=lH (d7.out.under hb)
 have aR:=lH (aM.out.under hb)
 have bl:=lH (dH.out.under hb)
 have br:=lH (ak.out.under hb)
 have d9:=lH (di.out.under hb)
 have dv:=lH (dI.out.under hb)
 have aJ:=lH (dS.out.under hb)
 clear bF bK dP bk eU gc eV fV fX bJ bW d7 aM dH ak di dI dS
 obtain ⟨rr,a_⟩:∃ v_,v_=ar*ar:=⟨_,rfl⟩
 rw [←a_] at hn
 have kq:=lH a_
 have ax:=lH hn
 clear hn hb a_
 go_wp2_with fail
 refine (subRF j6 ax aJ).mono ?_
 rintro e ks ⟨As1,cs1,ls1,rfl,hn,hb⟩
 have a9:=lH (eo.out.under hb (Holds.lt eo))
 have bf:=lH (d_.out.under hb (Holds.lt d_))
 have dD:=lH (bd.out.under hb (Holds.lt bd))
 have em:=lH (dZ.out.trans (hb.mono dZ.out.size))
 have fh:=lH (gA.out.under hb)
 have fE:=lH (fm.out.under hb)
 have fA:=lH (eO.out.under hb)
 have gl:=lH (gj.out.under hb)
 have fi:=lH (fa.out.under hb)
 have dV:=lH (dl.out.under hb)
 have cV:=lH (d8.out.under hb)
 have ei:=lH (dr.out.under hb)
 have aQ:=lH (aR.out.under hb)
 have bu:=lH (bl.out.under hb)
 have cA:=lH (br.out.under hb)
 have dR:=lH (d9.out.under hb)
 have aG:=lH (dv.out.under hb)
 have bc:=lH (aJ.out.under hb)
 have cO:=lH (ax.out.under hb)
 clear eo d_ bd dZ gA fm eO gj fa dl d8 dr aR bl br d9 dv aJ ax
 obtain ⟨s1,dB⟩:∃ v_,v_=rr - ch:=⟨_,rfl⟩
 rw [←dB] at hn
 have ke:=lH dB
 have ay:=lH hn
 clear hn hb dB
 go_wp2_with fail
 refine (subRF ks ay aG).mono ?_
 rintro e kb ⟨As2,cs2,ls2,rfl,hn,hb⟩
 have dU:=lH (a9.out.under hb (Holds.lt a9))
 have dW:=lH (bf.out.under hb (Holds.lt bf))
 have bR:=lH (dD.out.under hb (Holds.lt dD))
 have dJ:=lH (em.out.trans (hb.mono em.out.size))
 have gi:=lH (fh.out.under hb)
 have fI:=lH (fE.out.under hb)
 have fM:=lH (fA.out.under hb)
 have fq:=lH (gl.out.under hb)
 have f8:=lH (fi.out.under hb)
 have bz:=lH (dV.out.under hb)
 have cN:=lH (cV.out.under hb)
 have bG:=lH (ei.out.under hb)
 have aN:=lH (aQ.out.under hb)
 have bO:=lH (bu.out.under hb)
 have bY:=lH (cA.out.under hb)
 have cM:=lH (dR.out.under hb)
 have am:=lH (aG.out.under hb)
 have cJ:=lH (bc.out.under hb)
 have cl:=lH (cO.out.under hb)
 have du:=lH (ay.out.under hb)
 clear a9 bf dD em fh fE fA gl fi dV cV ei aQ bu cA dR aG bc cO ay
 obtain ⟨s2,bV⟩:∃ v_,v_=s1 - vv:=⟨_,rfl⟩
 rw [←bV] at hn
 have j_:=lH bV
 have aB:=lH hn
 clear hn hb bV
 go_wp2_with fail
 refine (subRF kb aB am).mono ?_
 rintro e jy ⟨AX,cX,lX,rfl,hn,hb⟩
 have aW:=lH (dU.out.under hb (Holds.lt dU))
 have ds:=lH (dW.out.under hb (Holds.lt dW))
 have bE:=lH (bR.out.under hb (Holds.lt bR))
 have dE:=lH (dJ.out.trans (hb.mono dJ.out.size))
 have fc:=lH (gi.out.under hb)
 have fT:=lH (fI.out.under hb)
 have fB:=lH (fM.out.under hb)
 have fu:=lH (fq.out.under hb)
 have gm:=lH (f8.out.under hb)
 have gH:=lH (bz.out.under hb)
 have gS:=lH (cN.out.under hb)
 have bX:=lH (bG.out.under hb)
 have eB:=lH (aN.out.under hb)
 have iw:=lH (bO.out.under hb)
 have bA:=lH (bY.out.under hb)
 have gR:=lH (cM.out.under hb)
 have dc:=lH (am.out.under hb)
 have dY:=lH (cJ.out.under hb)
 have gO:=lH (cl.out.under hb)
 have ir:=lH (du.out.under hb)
 have ic:=lH (aB.out.under hb)
 clear dU dW bR dJ gi fI fM fq f8 bz cN bG aN bO bY cM am cJ cl du aB
 obtain ⟨X,gQ⟩:∃ v_,v_=s2 - vv:=⟨_,rfl⟩
 rw [←gQ] at hn
 have EX:=lH gQ
 have fS:=lH hn
 clear hn hb gQ
 clear gO ir ic gH eB gS iw gR
 go_wp2_with fail
 refine wp_region_noPanic ?_
 refine wp_region_held_drew (S:=fun W=>Holds W w.heap.size 58 #[.slice Ax lx.length cx,.slice Ay ly.length cy,.slice Az lz.length cz]∧True) (by kernel_rfl) (⟨aW.out,trivial⟩) (fun hHeld=>?_)
 obtain ⟨jx,hV⟩:∃ W,W=jy.drew:=⟨_,rfl⟩
 rw [←hV]
 have ac:Below jy.heap.size jy jx:=by rw [hV];exact (Below.refl _ jy).drew
 have aU:=lH (aW.out.under ac (Holds.lt aW))
 have dO:=lH (ds.out.under ac (Holds.lt ds))
 have cB:=lH (bE.out.under ac (Holds.lt bE))
 have ec:=lH (dE.out.trans (ac.mono dE.out.size))
 have gB:=lH (fc.out.under ac)
 have eS:=lH (fT.out.under ac)
 have fN:=lH (fB.out.under ac)
 have f_:=lH (fu.out.under ac)
 have gw:=lH (gm.out.under ac)
 have dM:=lH (bX.out.under ac)
 have dt:=lH (bA.out.under ac)
 have aw:=lH (dc.out.under ac)
 have ej:=lH (dY.out.under ac)
 have cS:=lH (fS.out.under ac)
 clear aW ds bE dE fc fT fB fu gm bX bA dc dY fS
 have jC:Hid ((fun W=>Holds W w.heap.size 58 #[.slice Ax lx.length cx,.slice Ay ly.length cy,.slice Az lz.length cz]∧True) jx):=lH ⟨aU,trivial⟩
 replace hHeld:(fun W=>Holds W w.heap.size 58 #[.slice Ax lx.length cx,.slice Ay ly.length cy,.slice Az lz.length cz]∧True) jx:=jC.out
 clear hV ac
 refine tz 0 ⟨some 77,.move (.tmp 11),24,_,_,none⟩ rfl hHeld ?_
 try simp only [aP]
 refine tz 1 ⟨some 78,.move (.tmp 7),24,_,_,none⟩ rfl hHeld ?_
 try simp only [aP]
 refine tz 2 ⟨some 79,.move (.tmp 9),24,_,_,none⟩ rfl hHeld ?_
 try simp only [aP]
 refine tz 3 ⟨some 80,.move (.tmp 11),24,_,_,none⟩ rfl hHeld ?_
 try simp only [aP]
 refine tz 6 ⟨some 83,.fieldAddr 58 (.tmp 2) 1,0,_,_,none⟩ rfl hHeld ?_
 try simp only [aP]
 refine tk 7 ⟨some 84,.load 24 (.tmp 83),24,_,_,none⟩ ?_ rfl ?_ hHeld ?_
 rotate_left 1
 ·(intro W hW;have iF:=hW.1.cell 1;(try dsimp only at hW);go_simp;try with_reducible rfl)
 try simp only [aP]
 refine tz 8 ⟨some 85,.move (.tmp 10),24,_,_,none⟩ rfl hHeld ?_
 try simp only [aP]
 refine tz 11 ⟨some 88,.fieldAddr 58 (.tmp 2) 2,0,_,_,none⟩ rfl hHeld ?_
 try simp only [aP]
 refine tk 12 ⟨some 89,.load 24 (.tmp 88),24,_,_,none⟩ ?_ rfl ?_ hHeld ?_
 rotate_left 1
 ·(intro W hW;have iF:=hW.1.cell 2;(try dsimp only at hW);go_simp;try with_reducible rfl)
 try simp only [aP]
 refine tz 13 ⟨some 90,.move (.tmp 6),24,_,_,none⟩ rfl hHeld ?_
 try simp only [aP]
 refine rdy 4 ⟨some 81,.call ⟨ .value (.func 48),#[.tmp 79,.tmp 80],#[24,24]⟩,24,_,_,none⟩ rfl (fun K hK=>?_)
 go_simp
 refine (subRF jx aw cS).mono ?_
 rintro e jR ⟨Avx,cvx,lvx,rfl,hn,hb⟩
 have aL:=lH (aU.out.under hb (Holds.lt aU))
 have cW:=lH (dO.out.under hb (Holds.lt dO))
 have dL:=lH (cB.out.under hb (Holds.lt cB))
 have dF:=lH (ec.out.trans (hb.mono ec.out.size))
 have fb:=lH (gB.out.under hb)
 have fs:=lH (eS.out.under hb)
 have fJ:=lH (fN.out.under hb)
 have fP:=lH (f_.out.under hb)
 have eY:=lH (gw.out.under hb)
 have cT:=lH (dM.out.under hb)
 have aC:=lH (dt.out.under hb)
 have eg:=lH (aw.out.under hb)
 have dC:=lH (ej.out.under hb)
 have fW:=lH (cS.out.under hb)
 clear aU dO cB ec gB eS fN f_ gw dM dt aw ej cS
 obtain ⟨vx,bD⟩:∃ v_,v_=vv - X:=⟨_,rfl⟩
 rw [←bD] at hn
 have kr:=lH bD
 have aH:=lH hn
 clear hn hb bD
 have jQ:Hid ((fun W=>Holds W w.heap.size 58 #[.slice Ax lx.length cx,.slice Ay ly.length cy,.slice Az lz.length cz]∧True) jR):=lH ⟨aL,trivial⟩
 go_simp
 refine hK.out _ _ (jQ.out) (fun hHeld=>?_)
 clear hK K
 try simp only [aP]
 refine rdy 5 ⟨some 82,.call ⟨ .value (.func 46),#[.tmp 78,.tmp 81],#[24,24]⟩,24,_,_,none⟩ rfl (fun K hK=>?_)
 go_simp
 refine (mulRF jR aC aH).mono ?_
 rintro e jZ ⟨Arv,crv,lrv,rfl,hn,hb⟩
 have aK:=lH (aL.out.under hb (Holds.lt aL))
 have cG:=lH (cW.out.under hb (Holds.lt cW))
 have bI:=lH (dL.out.under hb (Holds.lt dL))
 have dK:=lH (dF.out.trans (hb.mono dF.out.size))
 have eZ:=lH (fb.out.under hb)
 have cH:=lH (fs.out.under hb)
 have fO:=lH (fJ.out.under hb)
 have e_:=lH (fP.out.under hb)
 have e9:=lH (eY.out.under hb)
 have dA:=lH (cT.out.under hb)
 have dN:=lH (aC.out.under hb)
 have bs:=lH (eg.out.under hb)
 have aA:=lH (dC.out.under hb)
 have fR:=lH (fW.out.under hb)
 have cL:=lH (aH.out.under hb)
 clear aL cW dL dF fb fs fJ fP eY cT aC eg dC fW aH
 obtain ⟨rv,ef⟩:∃ v_,v_=ar*vx:=⟨_,rfl⟩
 rw [←ef] at hn
 have j5:=lH ef
 have bm:=lH hn
 clear hn hb ef
 have jM:Hid ((fun W=>Holds W w.heap.size 58 #[.slice Ax lx.length cx,.slice Ay ly.length cy,.slice Az lz.length cz]∧True) jZ):=lH ⟨aK,trivial⟩
 go_simp
 refine hK.out _ _ (jM.out) (fun hHeld=>?_)
 clear hK K
 try simp only [aP]
 refine rdy 9 ⟨some 86,.call ⟨ .value (.func 46),#[.tmp 84,.tmp 85],#[24,24]⟩,24,_,_,none⟩ rfl (fun K hK=>?_)
 go_simp
 refine (mulRF jZ cH aA).mono ?_
 rintro e jS ⟨Ayh,cyh,lyh,rfl,hn,hb⟩
 have aO:=lH (aK.out.under hb (Holds.lt aK))
 have b_:=lH (cG.out.under hb (Holds.lt cG))
 have bC:=lH (bI.out.under hb (Holds.lt bI))
 have dT:=lH (dK.out.trans (hb.mono dK.out.size))
 have e8:=lH (eZ.out.under hb)
 have eQ:=lH (cH.out.under hb)
 have fY:=lH (fO.out.under hb)
 have eM:=lH (e_.out.under hb)
 have fH:=lH (e9.out.under hb)
 have eh:=lH (dA.out.under hb)
 have dX:=lH (dN.out.under hb)
 have ep:=lH (bs.out.under hb)
 have bQ:=lH (aA.out.under hb)
 have f6:=lH (fR.out.under hb)
 have cU:=lH (cL.out.under hb)
 have aD:=lH (bm.out.under hb)
 clear aK cG bI dK eZ cH fO e_ e9 dA dN bs aA fR cL bm
 obtain ⟨yh,ed⟩:∃ v_,v_=j.y*ch:=⟨_,rfl⟩
 rw [←ed] at hn
 have j7:=lH ed
 have aF:=lH hn
 clear hn hb ed
 have jK:Hid ((fun W=>Holds W w.heap.size 58 #[.slice Ax lx.length cx,.slice Ay ly.length cy,.slice Az lz.length cz]∧True) jS):=lH ⟨aO,trivial⟩
 go_simp
 refine hK.out _ _ (jK.out) (fun hHeld=>?_)
 clear hK K
 try simp only [aP]
 refine rdy 10 ⟨some 87,.call ⟨ .value (.func 48),#[.tmp 82,.tmp 86],#[24,24]⟩,24,_,_,none⟩ rfl (fun K hK=>?_)
 go_simp
 refine (subRF jS aD aF).mono ?_
 rintro e jY ⟨AY,cY,lY,rfl,hn,hb⟩
 have aT:=lH (aO.out.under hb (Holds.lt aO))
 have bM:=lH (b_.out.under hb (Holds.lt b_))
 have cC:=lH (bC.out.under hb (Holds.lt bC))
 have cE:=lH (dT.out.trans (hb.mono dT.out.size))
 have ft:=lH (e8.out.under hb)
 have eT:=lH (eQ.out.under hb)
 have bS:=lH (fY.out.under hb)
 have eR:=lH (eM.out.under hb)
 have gz:=lH (fH.out.under hb)
 have aE:=lH (eh.out.under hb)
 have ee:=lH (dX.out.under hb)
 have a8:=lH (ep.out.under hb)
 have ba:=lH (bQ.out.under hb)
 have fg:=lH (f6.out.under hb)
 have dQ:=lH (cU.out.under hb)
 have bv:=lH (aD.out.under hb)
 have a6:=lH (aF.out.under hb)
 clear aO b_ bC dT e8 eQ fY eM fH eh dX ep bQ f6 cU aD aF
 obtain ⟨Y,gW⟩:∃ v_,v_=rv - yh:=⟨_,rfl⟩
 rw [←gW] at hn
 have EY:=lH gW
 have fj:=lH hn
 clear hn hb gW
 have jz:Hid ((fun W=>Holds W w.heap.size 58 #[.slice Ax lx.length cx,.slice Ay ly.length cy,.slice Az lz.length cz]∧True) jY):=lH ⟨aT,trivial⟩
 go_simp
 refine hK.out _ _ (jz.out) (fun hHeld=>?_)
 clear hK K
 try simp only [aP]
 refine rdy 14 ⟨some 91,.call ⟨ .value (.func 46),#[.tmp 89,.tmp 90],#[24,24]⟩,24,_,_,none⟩ rfl (fun K hK=>?_)
 go_simp
 refine (mulRF jY bS aE).mono ?_
 rintro e jX ⟨AZ,cZ,lZ,rfl,hn,hb⟩
 have fp:=lH (aT.out.under hb (Holds.lt aT))
 have PB_20:=lH (bM.out.under hb (Holds.lt bM))
 have ab:=lH (cC.out.under hb (Holds.lt cC))
 have iJ:=lH (cE.out.trans (hb.mono cE.out.size))
 have Nx_20:=lH (ft.out.under hb)
 have Ny_20:=lH (eT.out.under hb)
 have Nz_20:=lH (bS.out.under hb)
 have Nu_20:=lH (eR.out.under hb)
 have Nv_20:=lH (gz.out.under hb)
 have Nah_20:=lH (aE.out.under hb)
 have Nar_20:=lH (ee.out.under hb)
 have Nvv_20:=lH (a8.out.under hb)
 have Nch_20:=lH (ba.out.under hb)
 have i8:=lH (fg.out.under hb)
 have Nvx_20:=lH (dQ.out.under hb)
 have Nrv_20:=lH (bv.out.under hb)
 have Nyh_20:=lH (a6.out.under hb)
 have jc:=lH (fj.out.under hb)
 clear aT bM cC cE ft eT bS eR gz aE ee a8 ba fg dQ bv a6 fj
 obtain ⟨Z,gC⟩:∃ v_,v_=j.z*ah:=⟨_,rfl⟩
 rw [←gC] at hn
 have EZ:=lH gC
 have i4:=lH hn
 clear hn hb gC
 have jI:Hid ((fun W=>Holds W w.heap.size 58 #[.slice Ax lx.length cx,.slice Ay ly.length cy,.slice Az lz.length cz]∧True) jX):=lH ⟨fp,trivial⟩
 go_simp
 refine hK.out _ _ (jI.out) (fun hHeld=>?_)
 clear hK K
 try simp only [aP]
 refine tz 15 ⟨some 92,.build 58 #[(0,.tmp 77),(1,.tmp 87),(2,.tmp 91)],58,_,_,none⟩ rfl hHeld ?_
 try simp only [aP]
 refine rdy 16 ⟨none,.store 58 (.tmp 4) (.tmp 92),0,_,_,none⟩ rfl (fun K hK=>?_)
 have z0:=ab.out.cell 0
 have o0:=ab.out.open_ 0
 have z1:=ab.out.cell 1
 have o1:=ab.out.open_ 1
 have z2:=ab.out.cell 2
 have o2:=ab.out.open_ 2
 obtain ⟨VL,hN⟩:∃ W,W=(((jX.setCell ⟨w.heap.size+1+1,0,none⟩ (.slice AX lX.length cX)).setCell ⟨w.heap.size+1+1,1,none⟩ (.slice AY lY.length cY)).setCell ⟨w.heap.size+1+1,2,none⟩ (.slice AZ lZ.length cZ)):=⟨_,rfl⟩
 go_simp
 rw [←hN]
 have j4:Hid (Holds VL (w.heap.size+1+1) 58 #[.slice AX lX.length cX,.slice AY lY.length cY,.slice AZ lZ.length cZ]):=lH (by rw [hN];exact set3 ab _ _ _)
 have kp:Hid (Below w.heap.size w VL):=lH (by rw [hN];exact below3 iJ (by omega) _ _ _)
 have kd:Hid ((fun W=>Holds W w.heap.size 58 #[.slice Ax lx.length cx,.slice Ay ly.length cy,.slice Az lz.length cz]∧True) VL):=lH ⟨by rw [hN];exact holds_aside3 fp (k:=w.heap.size+1+1) (by omega) _ _ _,trivial⟩
 have kt:Hid (NR VL AX cX lX X):=lH (by rw [hN];exact i8.out.store3 ab no_nums3 _ _ _)
 have j9:Hid (NR VL AY cY lY Y):=lH (by rw [hN];exact jc.out.store3 ab no_nums3 _ _ _)
 have kg:Hid (NR VL AZ cZ lZ Z):=lH (by rw [hN];exact i4.out.store3 ab no_nums3 _ _ _)
 clear hN z0 z1 z2 o0 o1 o2
 refine hK.out _ _ (kd.out) (fun hHeld=>?_)
 clear hK K
 try simp only [aP]
 refine dn ?_
 go_wp2_with fail
 have au:Luc.pls j u v=⟨X,Y,Z⟩:=by
  unfold Luc.pls
  rw [if_neg jF.out]
  simp only
  rw [←iH.out,←jD.out,←jE.out,if_neg ku.out,←gV.out,←jJ.out,←jG.out,←j8.out,←kj.out,mul_sw bh ah,←kk.out,←kq.out,←ke.out,←sub_two,←j_.out,←EX.out,←kr.out,←j5.out,←j7.out,←EY.out,←EZ.out]
 refine ret_jac (g:=w.heap.size+1+1) rfl rfl j4 rfl ⟨AX,cX,lX,AY,cY,lY,AZ,cZ,lZ,rfl,?_,?_,?_,kp⟩
 ·rw [au];exact kt.out
 ·rw [au];exact j9.out
 ·rw [au];exact kg.out
def px:Luc.Pt→Luc.F
 | none=>0
 | some p=>p.1
def py:Luc.Pt→Luc.F
 | none=>0
 | some p=>p.2
structure PtV (Q:Luc.Pt) (W:World) (A1:Option Addr) (c1:Nat) (l1:List Nat) (A2:Option Addr) (c2:Nat) (l2:List Nat) (inf:Bool):Prop where
 inf:inf=Q.isNone
 x:NR W A1 c1 l1 (px Q)
 y:NR W A2 c2 l2 (py Q)
theorem PtV.under {Q:Luc.Pt} {W W':World} {A1:Option Addr} {c1:Nat} {l1:List Nat} {A2:Option Addr} {c2:Nat} {l2:List Nat} {inf:Bool} (h:PtV Q W A1 c1 l1 A2 c2 l2 inf) (hb:Below W.heap.size W W'):PtV Q W' A1 c1 l1 A2 c2 l2 inf:=⟨h.inf,h.x.under hb,h.y.under hb⟩
def PtR (Q:Luc.Pt) (w:World) (e:Ending) (w':World):Prop :=
 ∃ A1 c1 l1 A2 c2 l2 inf,e = .returned (.agg #[.slice A1 l1.length c1,.slice A2 l2.length c2,.bool inf])∧PtV Q w' A1 c1 l1 A2 c2 l2 inf∧Below w.heap.size w w'
theorem PtV.none (W:World):PtV none W none 0 [] none 0 [] true:=⟨rfl,NR.nought W,NR.nought W⟩
theorem invR0 (w:World) {A:Option Addr} {c:Nat} {l:List Nat} (h:NR w A c l 0) {g:Nat} (hP:Row .u32 22 w g lP) :
  Calls Tryd.prog 72 #[.slice A l.length c,.slice (some ⟨g,0,none⟩) 8 8] w (Nought w) :=
 (inv8_high w A (some ⟨g,0,none⟩) c 8 l lP h.rd (Eight.rd hP rfl) h.dg lP_ok.1 h.s (by rw [lP_ok.2.2.2];omega) h.nrm lP_ok.2.1 (by rw [lP_ok.2.2.1];decide)).mono fun e w' hq=>by
  rcases hq with ⟨_,hq⟩ | ⟨hg,_⟩
  ·exact hq
  ·exfalso
   rw [h.val,lP_ok.2.2.1] at hg
   revert hg
   decide
theorem invRF (w:World) {A:Option Addr} {c:Nat} {l:List Nat} {f:Luc.F} (h:NR w A c l f) (hf:f≠0) {g:Nat} (hP:Row .u32 22 w g lP) :
  Calls Tryd.prog 72 #[.slice A l.length c,.slice (some ⟨g,0,none⟩) 8 8] w fun e w'=>∃ A c l,e = .returned (.tuple #[.slice A l.length c,.bool true])∧NR w' A c l (Luc.finv f)∧Below w.heap.size w w' :=
 (inv8_high w A (some ⟨g,0,none⟩) c 8 l lP h.rd (Eight.rd hP rfl) h.dg lP_ok.1 h.s (by rw [lP_ok.2.2.2];omega) h.nrm lP_ok.2.1 (by rw [lP_ok.2.2.1];decide)).mono fun e w' hq=>by
  rw [h.val,lP_ok.2.2.1] at hq
  rcases hq with ⟨hg,hq⟩ | ⟨_,x,hx,h1,A2,c2,r,he,hn,hr,hb⟩
  ·exfalso
   refine hg (Luc.cQ_prime.cop fun hd=>hf ?_)
   exact Fin.ext (Nat.eq_zero_of_dvd_of_lt hd f.isLt)
  ·have e1:Luc.finv f=fe x hx:=Luc.finv_of (by
    apply Fin.ext
    rw [Fin.val_mul]
    exact h1)
   exact ⟨A2,c2,r,he,⟨hr,by rw [e1];exact hn⟩,hb⟩
theorem pointR_any (w:World) (j:Luc.Jc) {Ax Ay Az:Option Addr} {cx cy cz:Nat} {lx ly lz:List Nat} (hx:NR w Ax cx lx j.x) (hy:NR w Ay cy ly j.y) (hz:NR w Az cz lz j.z) :
  Calls Tryd.prog 40 #[.agg #[.slice Ax lx.length cx,.slice Ay ly.length cy,.slice Az lz.length cz]] w (PtR (Luc.Rep j) w):=by
 obtain ⟨w1,bD⟩:∃ W,W=w.alloc (.cells #[.slice Ax lx.length cx,.slice Ay ly.length cy,.slice Az lz.length cz] 58):=⟨_,rfl⟩
 have b_:w1.heap.size=w.heap.size+1:=by rw [bD];simp
 have bS:Below w.heap.size w w1:=by rw [bD];exact (Below.refl _ _).alloc (Nat.le_refl _) _
 obtain ⟨W0,bA⟩:∃ W,W=w1.alloc (.cells #[.slice none 0 0,.slice none 0 0,.bool false] 26):=⟨_,rfl⟩
 have bJ:Below w.heap.size w W0:=by rw [bA];exact bS.alloc bS.size _
 have am:Hid (Holds W0 w.heap.size 58 #[.slice Ax lx.length cx,.slice Ay ly.length cy,.slice Az lz.length cz]):=lH (by rw [bA,bD];exact (Holds.fresh w _ _).alloc _)
 have aA:Hid (Holds W0 (w.heap.size+1) 26 #[.slice none 0 0,.slice none 0 0,.bool false]):=lH (by rw [bA,←b_];exact Holds.fresh w1 _ _)
 have aC:=lH bJ
 have aU:=lH (hx.under bJ)
 have aO:=lH (hy.under bJ)
 have aM:=lH (hz.under bJ)
 have HW:=lH (bD ▸ bA:W0=(w.alloc (.cells #[.slice Ax lx.length cx,.slice Ay ly.length cy,.slice Az lz.length cz] 58)).alloc (.cells #[.slice none 0 0,.slice none 0 0,.bool false] 26))
 clear hx hy hz bD b_ bS bA bJ
 go_enter Tryd.func40,Tryd.ntmps40
 go_wp2_with fail
 rw [←HW.out]
 clear HW
 by_cases hzn:j.z=0
 ·have cB:=lH hzn
  rw [hzn] at aM
  clear hzn
  go_wp2_with fail
  refine wp_region_noPanic ?_
  refine wp_region_held_drew (S:=fun W=>Holds W w.heap.size 58 #[.slice Ax lx.length cx,.slice Ay ly.length cy,.slice Az lz.length cz]∧True) (by kernel_rfl) (⟨am.out,trivial⟩) (fun hHeld=>?_)
  obtain ⟨W1,hV⟩:∃ W,W=W0.drew:=⟨_,rfl⟩
  rw [←hV]
  have ab:Below W0.heap.size W0 W1:=by rw [hV];exact (Below.refl _ W0).drew
  have ae:=lH (am.out.under ab (Holds.lt am))
  have az:=lH (aA.out.under ab (Holds.lt aA))
  have ay:=lH (aC.out.trans (ab.mono aC.out.size))
  have aN:=lH (aU.out.under ab)
  have aF:=lH (aO.out.under ab)
  have aK:=lH (aM.out.under ab)
  clear am aA aC aU aO aM
  have bT:Hid ((fun W=>Holds W w.heap.size 58 #[.slice Ax lx.length cx,.slice Ay ly.length cy,.slice Az lz.length cz]∧True) W1):=lH ⟨ae,trivial⟩
  replace hHeld:(fun W=>Holds W w.heap.size 58 #[.slice Ax lx.length cx,.slice Ay ly.length cy,.slice Az lz.length cz]∧True) W1:=bT.out
  clear hV ab
  refine tz 0 ⟨some 7,.fieldAddr 58 (.tmp 1) 2,0,_,_,none⟩ rfl hHeld ?_
  try simp only [aP]
  refine tk 1 ⟨some 8,.load 24 (.tmp 7),24,_,_,none⟩ ?_ rfl ?_ hHeld ?_
  rotate_left 1
  ·(intro W hW;have bV:=hW.1.cell 2;(try dsimp only at hW);go_simp;try with_reducible rfl)
  try simp only [aP]
  refine rdy 2 ⟨some 9,.call ⟨ .value (.func 26),#[],#[]⟩,24,_,_,none⟩ rfl (fun K hK=>?_)
  go_simp
  refine (refP_any W1).mono ?_
  rintro e W2 ⟨gp,bR,rfl,hP,hb⟩
  have ak:=lH (ae.out.under hb (Holds.lt ae))
  have au:=lH (az.out.under hb (Holds.lt az))
  have ax:=lH (ay.out.trans (hb.mono ay.out.size))
  have aH:=lH (aN.out.under hb)
  have aG:=lH (aF.out.under hb)
  have aw:=lH (aK.out.under hb)
  clear ae az ay aN aF aK
  have HP:=lH hP
  have bU:Hid ((fun W=>Holds W w.heap.size 58 #[.slice Ax lx.length cx,.slice Ay ly.length cy,.slice Az lz.length cz]∧True) W2):=lH ⟨ak,trivial⟩
  clear hb hP bR
  go_simp
  refine hK.out _ _ (bU.out) (fun hHeld=>?_)
  clear hK K
  try simp only [aP]
  refine rdy 3 ⟨some 10,.call ⟨ .value (.func 72),#[.tmp 8,.tmp 9],#[24,24]⟩,39,_,_,none⟩ rfl (fun K hK=>?_)
  go_simp
  refine (invR0 W2 aw HP).mono ?_
  rintro e W3 ⟨rfl,hb⟩
  have aB:=lH (ak.out.under hb (Holds.lt ak))
  have ac:=lH (au.out.under hb (Holds.lt au))
  have aE:=lH (ax.out.trans (hb.mono ax.out.size))
  have a9:=lH (aH.out.under hb)
  have bf:=lH (aG.out.under hb)
  have bd:=lH (aw.out.under hb)
  clear ak au ax aH aG aw
  have bZ:Hid ((fun W=>Holds W w.heap.size 58 #[.slice Ax lx.length cx,.slice Ay ly.length cy,.slice Az lz.length cz]∧True) W3):=lH ⟨aB,trivial⟩
  clear hb HP
  go_simp
  refine hK.out _ _ (bZ.out) (fun hHeld=>?_)
  clear hK K
  try simp only [aP]
  refine tz 4 ⟨some 6,.move (.tmp 10),39,_,_,none⟩ rfl hHeld ?_
  try simp only [aP]
  refine tz 5 ⟨some 11,.extract (.tmp 6) 0,24,_,_,none⟩ rfl hHeld ?_
  try simp only [aP]
  refine tz 6 ⟨some 12,.extract (.tmp 6) 1,4,_,_,none⟩ rfl hHeld ?_
  try simp only [aP]
  refine tz 7 ⟨some 3,.assign (.tmp 11),24,_,_,none⟩ rfl hHeld ?_
  try simp only [aP]
  refine tz 8 ⟨some 4,.assign (.tmp 12),4,_,_,none⟩ rfl hHeld ?_
  try simp only [aP]
  refine dn ?_
  have z0:=ac.out.cell 0
  have z1:=ac.out.cell 1
  have z2:=ac.out.cell 2
  have o0:=ac.out.open_ 0
  have o1:=ac.out.open_ 1
  have o2:=ac.out.open_ 2
  go_wp2_with fail
  rw [Luc.Rep.no cB.out]
  exact ret_pt (g:=w.heap.size+1) rfl rfl (set3 ac _ _ _) rfl ⟨none,0,[],none,0,[],true,rfl,PtV.none _,below3 aE (by omega) _ _ _⟩
 have cl:Hid (j.z≠0):=lH hzn
 clear hzn
 go_wp2_with fail
 refine wp_region_noPanic ?_
 refine wp_region_held_drew (S:=fun W=>Holds W w.heap.size 58 #[.slice Ax lx.length cx,.slice Ay ly.length cy,.slice Az lz.length cz]∧True) (by kernel_rfl) (⟨am.out,trivial⟩) (fun hHeld=>?_)
 obtain ⟨W1,hV⟩:∃ W,W=W0.drew:=⟨_,rfl⟩
 rw [←hV]
 have ab:Below W0.heap.size W0 W1:=by rw [hV];exact (Below.refl _ W0).drew
 have ae:=lH (am.out.under ab (Holds.lt am))
 have az:=lH (aA.out.under ab (Holds.lt aA))
 have ay:=lH (aC.out.trans (ab.mono aC.out.size))
 have aN:=lH (aU.out.under ab)
 have aF:=lH (aO.out.under ab)
 have aK:=lH (aM.out.under ab)
 clear am aA aC aU aO aM
 have bT:Hid ((fun W=>Holds W w.heap.size 58 #[.slice Ax lx.length cx,.slice Ay ly.length cy,.slice Az lz.length cz]∧True) W1):=lH ⟨ae,trivial⟩
 replace hHeld:(fun W=>Holds W w.heap.size 58 #[.slice Ax lx.length cx,.slice Ay ly.length cy,.slice Az lz.length cz]∧True) W1:=bT.out
 clear hV ab
 refine tz 0 ⟨some 7,.fieldAddr 58 (.tmp 1) 2,0,_,_,none⟩ rfl hHeld ?_
 try simp only [aP]
 refine tk 1 ⟨some 8,.load 24 (.tmp 7),24,_,_,none⟩ ?_ rfl ?_ hHeld ?_
 rotate_left 1
 ·(intro W hW;have bV:=hW.1.cell 2;(try dsimp only at hW);go_simp;try with_reducible rfl)
 try simp only [aP]
 refine rdy 2 ⟨some 9,.call ⟨ .value (.func 26),#[],#[]⟩,24,_,_,none⟩ rfl (fun K hK=>?_)
 go_simp
 refine (refP_any W1).mono ?_
 rintro e W2 ⟨gp,bR,rfl,hP,hb⟩
 have ak:=lH (ae.out.under hb (Holds.lt ae))
 have au:=lH (az.out.under hb (Holds.lt az))
 have ax:=lH (ay.out.trans (hb.mono ay.out.size))
 have aH:=lH (aN.out.under hb)
 have aG:=lH (aF.out.under hb)
 have aw:=lH (aK.out.under hb)
 clear ae az ay aN aF aK
 have HP:=lH hP
 have bU:Hid ((fun W=>Holds W w.heap.size 58 #[.slice Ax lx.length cx,.slice Ay ly.length cy,.slice Az lz.length cz]∧True) W2):=lH ⟨ak,trivial⟩
 clear hb hP bR
 go_simp
 refine hK.out _ _ (bU.out) (fun hHeld=>?_)
 clear hK K
 try simp only [aP]
 refine rdy 3 ⟨some 10,.call ⟨ .value (.func 72),#[.tmp 8,.tmp 9],#[24,24]⟩,39,_,_,none⟩ rfl (fun K hK=>?_)
 go_simp
 refine (invRF W2 aw cl HP).mono ?_
 rintro e W3 ⟨Ai,ci,li,rfl,hn,hb⟩
 have aB:=lH (ak.out.under hb (Holds.lt ak))
 have ac:=lH (au.out.under hb (Holds.lt au))
 have aE:=lH (ax.out.trans (hb.mono ax.out.size))
 have a9:=lH (aH.out.under hb)
 have bf:=lH (aG.out.under hb)
 have bd:=lH (aw.out.under hb)
 clear ak au ax aH aG aw
 obtain ⟨i,bu⟩:∃ v_,v_=Luc.finv j.z:=⟨_,rfl⟩
 rw [←bu] at hn
 have Ei:=lH bu
 have aR:=lH hn
 have bZ:Hid ((fun W=>Holds W w.heap.size 58 #[.slice Ax lx.length cx,.slice Ay ly.length cy,.slice Az lz.length cz]∧True) W3):=lH ⟨aB,trivial⟩
 clear hn bu hb HP
 go_simp
 refine hK.out _ _ (bZ.out) (fun hHeld=>?_)
 clear hK K
 try simp only [aP]
 refine tz 4 ⟨some 6,.move (.tmp 10),39,_,_,none⟩ rfl hHeld ?_
 try simp only [aP]
 refine tz 5 ⟨some 11,.extract (.tmp 6) 0,24,_,_,none⟩ rfl hHeld ?_
 try simp only [aP]
 refine tz 6 ⟨some 12,.extract (.tmp 6) 1,4,_,_,none⟩ rfl hHeld ?_
 try simp only [aP]
 refine tz 7 ⟨some 3,.assign (.tmp 11),24,_,_,none⟩ rfl hHeld ?_
 try simp only [aP]
 refine tz 8 ⟨some 4,.assign (.tmp 12),4,_,_,none⟩ rfl hHeld ?_
 try simp only [aP]
 refine dn ?_
 go_wp2_with fail
 refine (mulRF W3 aR aR).mono ?_
 rintro e W4 ⟨Aii,cii,lii,rfl,hn,hb⟩
 have aW:=lH (aB.out.under hb (Holds.lt aB))
 have a6:=lH (ac.out.under hb (Holds.lt ac))
 have bl:=lH (aE.out.trans (hb.mono aE.out.size))
 have bP:=lH (a9.out.under hb)
 have bC:=lH (bf.out.under hb)
 have bB:=lH (bd.out.under hb)
 have bx:=lH (aR.out.under hb)
 clear aB ac aE a9 bf bd aR
 obtain ⟨ii,aJ⟩:∃ v_,v_=i*i:=⟨_,rfl⟩
 rw [←aJ] at hn
 have cF:=lH aJ
 have aY:=lH hn
 clear hn hb aJ
 go_wp2_with fail
 refine wp_region_noPanic ?_
 refine wp_region_held_drew (S:=fun W=>Holds W w.heap.size 58 #[.slice Ax lx.length cx,.slice Ay ly.length cy,.slice Az lz.length cz]∧True) (by kernel_rfl) (⟨aW.out,trivial⟩) (fun hHeld=>?_)
 obtain ⟨W5,hV⟩:∃ W,W=W4.drew:=⟨_,rfl⟩
 rw [←hV]
 have ab:Below W4.heap.size W4 W5:=by rw [hV];exact (Below.refl _ W4).drew
 have aQ:=lH (aW.out.under ab (Holds.lt aW))
 have a_:=lH (a6.out.under ab (Holds.lt a6))
 have bs:=lH (bl.out.trans (ab.mono bl.out.size))
 have br:=lH (bP.out.under ab)
 have bN:=lH (bC.out.under ab)
 have bG:=lH (bB.out.under ab)
 have bw:=lH (bx.out.under ab)
 have aD:=lH (aY.out.under ab)
 clear aW a6 bl bP bC bB bx aY
 have cC:Hid ((fun W=>Holds W w.heap.size 58 #[.slice Ax lx.length cx,.slice Ay ly.length cy,.slice Az lz.length cz]∧True) W5):=lH ⟨aQ,trivial⟩
 replace hHeld:(fun W=>Holds W w.heap.size 58 #[.slice Ax lx.length cx,.slice Ay ly.length cy,.slice Az lz.length cz]∧True) W5:=cC.out
 clear hV ab
 refine tz 0 ⟨some 19,.fieldAddr 58 (.tmp 1) 0,0,_,_,none⟩ rfl hHeld ?_
 try simp only [aP]
 refine tk 1 ⟨some 20,.load 24 (.tmp 19),24,_,_,none⟩ ?_ rfl ?_ hHeld ?_
 rotate_left 1
 ·(intro W hW;have bV:=hW.1.cell 0;(try dsimp only at hW);go_simp;try with_reducible rfl)
 try simp only [aP]
 refine tz 2 ⟨some 21,.move (.tmp 5),24,_,_,none⟩ rfl hHeld ?_
 try simp only [aP]
 refine tz 4 ⟨some 23,.fieldAddr 58 (.tmp 1) 1,0,_,_,none⟩ rfl hHeld ?_
 try simp only [aP]
 refine tk 5 ⟨some 24,.load 24 (.tmp 23),24,_,_,none⟩ ?_ rfl ?_ hHeld ?_
 rotate_left 1
 ·(intro W hW;have bV:=hW.1.cell 1;(try dsimp only at hW);go_simp;try with_reducible rfl)
 try simp only [aP]
 refine tz 6 ⟨some 25,.move (.tmp 5),24,_,_,none⟩ rfl hHeld ?_
 try simp only [aP]
 refine tz 7 ⟨some 26,.move (.tmp 3),24,_,_,none⟩ rfl hHeld ?_
 try simp only [aP]
 refine rdy 3 ⟨some 22,.call ⟨ .value (.func 46),#[.tmp 20,.tmp 21],#[24,24]⟩,24,_,_,none⟩ rfl (fun K hK=>?_)
 go_simp
 refine (mulRF W5 br aD).mono ?_
 rintro e W6 ⟨AX,cX,lX,rfl,hn,hb⟩
 have aT:=lH (aQ.out.under hb (Holds.lt aQ))
 have bk:=lH (a_.out.under hb (Holds.lt a_))
 have bm:=lH (bs.out.trans (hb.mono bs.out.size))
 have bK:=lH (br.out.under hb)
 have bH:=lH (bN.out.under hb)
 have bO:=lH (bG.out.under hb)
 have bv:=lH (bw.out.under hb)
 have aL:=lH (aD.out.under hb)
 clear aQ a_ bs br bN bG bw aD
 obtain ⟨X,bc⟩:∃ v_,v_=j.x*ii:=⟨_,rfl⟩
 rw [←bc] at hn
 have EX:=lH bc
 have bL:=lH hn
 clear hn hb bc
 have cH:Hid ((fun W=>Holds W w.heap.size 58 #[.slice Ax lx.length cx,.slice Ay ly.length cy,.slice Az lz.length cz]∧True) W6):=lH ⟨aT,trivial⟩
 go_simp
 refine hK.out _ _ (cH.out) (fun hHeld=>?_)
 clear hK K
 try simp only [aP]
 refine rdy 8 ⟨some 27,.call ⟨ .value (.func 46),#[.tmp 25,.tmp 26],#[24,24]⟩,24,_,_,none⟩ rfl (fun K hK=>?_)
 go_simp
 refine (mulRF W6 aL bv).mono ?_
 rintro e W7 ⟨Aiii,ciii,liii,rfl,hn,hb⟩
 have aV:=lH (aT.out.under hb (Holds.lt aT))
 have ba:=lH (bk.out.under hb (Holds.lt bk))
 have bn:=lH (bm.out.trans (hb.mono bm.out.size))
 have bM:=lH (bK.out.under hb)
 have a8:=lH (bH.out.under hb)
 have bE:=lH (bO.out.under hb)
 have bI:=lH (bv.out.under hb)
 have aX:=lH (aL.out.under hb)
 have bz:=lH (bL.out.under hb)
 clear aT bk bm bK bH bO bv aL bL
 obtain ⟨cA,ao⟩:∃ v_,v_=ii*i:=⟨_,rfl⟩
 rw [←ao] at hn
 have bW:=lH ao
 have av:=lH hn
 clear hn hb ao
 have cG:Hid ((fun W=>Holds W w.heap.size 58 #[.slice Ax lx.length cx,.slice Ay ly.length cy,.slice Az lz.length cz]∧True) W7):=lH ⟨aV,trivial⟩
 go_simp
 refine hK.out _ _ (cG.out) (fun hHeld=>?_)
 clear hK K
 try simp only [aP]
 refine rdy 9 ⟨some 28,.call ⟨ .value (.func 46),#[.tmp 24,.tmp 27],#[24,24]⟩,24,_,_,none⟩ rfl (fun K hK=>?_)
 go_simp
 refine (mulRF W7 a8 av).mono ?_
 rintro e W8 ⟨AY,cY,lY,rfl,hn,hb⟩
 have bF:=lH (aV.out.under hb (Holds.lt aV))
 have ai:=lH (ba.out.under hb (Holds.lt ba))
 have bY:=lH (bn.out.trans (hb.mono bn.out.size))
 have Nx_8:=lH (bM.out.under hb)
 have Ny_8:=lH (a8.out.under hb)
 have Nz_8:=lH (bE.out.under hb)
 have Ni_8:=lH (bI.out.under hb)
 have Nii_8:=lH (aX.out.under hb)
 have bQ:=lH (bz.out.under hb)
 have Niii_8:=lH (av.out.under hb)
 clear aV ba bn bM a8 bE bI aX bz av
 obtain ⟨Y,bt⟩:∃ v_,v_=j.y*cA:=⟨_,rfl⟩
 rw [←bt] at hn
 have EY:=lH bt
 have bX:=lH hn
 clear hn hb bt
 have cJ:Hid ((fun W=>Holds W w.heap.size 58 #[.slice Ax lx.length cx,.slice Ay ly.length cy,.slice Az lz.length cz]∧True) W8):=lH ⟨bF,trivial⟩
 go_simp
 refine hK.out _ _ (cJ.out) (fun hHeld=>?_)
 clear hK K
 try simp only [aP]
 refine tz 10 ⟨some 29,.build 26 #[(0,.tmp 22),(1,.tmp 28)],26,_,_,none⟩ rfl hHeld ?_
 try simp only [aP]
 refine rdy 11 ⟨none,.store 26 (.tmp 2) (.tmp 29),0,_,_,none⟩ rfl (fun K hK=>?_)
 have z0:=ai.out.cell 0
 have o0:=ai.out.open_ 0
 have z1:=ai.out.cell 1
 have o1:=ai.out.open_ 1
 have z2:=ai.out.cell 2
 have o2:=ai.out.open_ 2
 obtain ⟨VL,hN⟩:∃ W,W=(((W8.setCell ⟨w.heap.size+1,0,none⟩ (.slice AX lX.length cX)).setCell ⟨w.heap.size+1,1,none⟩ (.slice AY lY.length cY)).setCell ⟨w.heap.size+1,2,none⟩ (.bool false)):=⟨_,rfl⟩
 go_simp
 rw [←hN]
 have cD:Hid (Holds VL (w.heap.size+1) 26 #[.slice AX lX.length cX,.slice AY lY.length cY,.bool false]):=lH (by rw [hN];exact set3 ai _ _ _)
 have cM:Hid (Below w.heap.size w VL):=lH (by rw [hN];exact below3 bY (by omega) _ _ _)
 have cK:Hid ((fun W=>Holds W w.heap.size 58 #[.slice Ax lx.length cx,.slice Ay ly.length cy,.slice Az lz.length cz]∧True) VL):=lH ⟨by rw [hN];exact holds_aside3 bF (k:=w.heap.size+1) (by omega) _ _ _,trivial⟩
 have cL:Hid (NR VL AX cX lX X):=lH (by rw [hN];exact bQ.out.store3 ai no_numsP _ _ _)
 have cN:Hid (NR VL AY cY lY Y):=lH (by rw [hN];exact bX.out.store3 ai no_numsP _ _ _)
 clear hN z0 z1 z2 o0 o1 o2
 refine hK.out _ _ (cK.out) (fun hHeld=>?_)
 clear hK K
 try simp only [aP]
 refine dn ?_
 go_wp2_with fail
 have cE:Luc.Rep j=some (X,Y):=by
  unfold Luc.Rep
  rw [if_neg cl.out,EX.out,EY.out,bW.out,cF.out,Ei.out]
 rw [cE]
 exact ret_pt (g:=w.heap.size+1) rfl rfl cD rfl ⟨AX,cX,lX,AY,cY,lY,false,rfl,⟨rfl,cL,cN⟩,cM⟩
theorem timesR_none (w:World) {A Au Av:Option Addr} {c cu cv:Nat} {l lu lv:List Nat} (hr:Rd .u32 w w.heap.size A c l) (hd:Dg l) (hs:l.length≤1000) :
  Calls Tryd.prog 11 #[.slice A l.length c,.agg #[.slice Au lu.length cu,.slice Av lv.length cv,.bool true]] w (PtR none w):=by
 obtain ⟨w1,ak⟩:∃ W,W=w.alloc (.cells #[.slice Au lu.length cu,.slice Av lv.length cv,.bool true] 26):=⟨_,rfl⟩
 have ay:w1.heap.size=w.heap.size+1:=by rw [ak];simp
 have aw:Below w.heap.size w w1:=by rw [ak];exact (Below.refl _ _).alloc (Nat.le_refl _) _
 obtain ⟨w2,ai⟩:∃ W,W=w1.alloc (.cells #[.slice none 0 0,.slice none 0 0,.bool false] 26):=⟨_,rfl⟩
 have aA:w2.heap.size=w.heap.size+1+1:=by rw [ai];simp [ay]
 have ax:Below w.heap.size w w2:=by rw [ai];exact aw.alloc aw.size _
 obtain ⟨w3,ae⟩:∃ W,W=w2.alloc (.cells #[.slice none 0 0,.slice none 0 0,.slice none 0 0] 58):=⟨_,rfl⟩
 have au:Below w.heap.size w w3:=by rw [ae];exact ax.alloc ax.size _
 have PB:Hid (Holds w3 w.heap.size 26 #[.slice Au lu.length cu,.slice Av lv.length cv,.bool true]):=lH (by rw [ae,ai,ak];exact ((Holds.fresh w _ _).alloc _).alloc _)
 have RB:Hid (Holds w3 (w.heap.size+1) 26 #[.slice none 0 0,.slice none 0 0,.bool false]):=lH (by rw [ae,ai,←ay];exact (Holds.fresh w1 _ _).alloc _)
 have JB:Hid (Holds w3 (w.heap.size+1+1) 58 #[.slice none 0 0,.slice none 0 0,.slice none 0 0]):=lH (by rw [ae,←aA];exact Holds.fresh w2 _ _)
 have HB:=lH au
 have HW:=lH (ak ▸ ai ▸ ae:w3=((w.alloc (.cells #[.slice Au lu.length cu,.slice Av lv.length cv,.bool true] 26)).alloc (.cells #[.slice none 0 0,.slice none 0 0,.bool false] 26)).alloc (.cells #[.slice none 0 0,.slice none 0 0,.slice none 0 0] 58))
 have HR:=lH hr
 have az:=lH (bits'_any w3 w.heap.size A c l (hr.under au) hd (by omega) _ rfl)
 clear ak ay aw ai aA ax ae au
 go_enter Tryd.func11,Tryd.ntmps11
 go_wp2_with fail
 rw [←HW.out]
 clear HW
 refine az.out.mono ?_
 rintro e w4 ⟨rfl,rfl⟩
 clear az
 have hN:nb l≤32000:=by have:=nb_le hd;omega
 generalize nb l=N at *
 have am:=lH (pointR_any w3 ⟨0,0,0⟩ (NR.nought w3) (NR.nought w3) (NR.nought w3))
 have HN:Hid (N≤32000):=lH hN
 go_wp2_with fail
 go_loopw [6] (fun si wr=>si = .int .i64 ((N:Int) - 1)∧w3=wr) (fun si _=>0)
 case atStart=>exact ⟨rfl,rfl⟩
 case round =>
  obtain ⟨rfl,rfl⟩:=hrel
  have cp0:=PB.out.cell 0
  have cp1:=PB.out.cell 1
  have cp2:=PB.out.cell 2
  have cj0:=JB.out.cell 0
  have cj1:=JB.out.cell 1
  have cj2:=JB.out.cell 2
  have hN:=HN.out
  by_cases hN0:N=0
  ·subst hN0
   go_wp2_with fail
   refine am.out.mono ?_
   rintro e w8 ⟨Aa,ca,la,Ab,cb,lb,inf,rfl,hq,ac⟩
   have ab:=lH (RB.out.under ac (Holds.lt RB))
   have av:=lH (HB.out.trans (ac.mono HB.out.size))
   have HQ:=lH hq
   clear ac hq am
   have r0:=ab.out.cell 0
   have r1:=ab.out.cell 1
   have r2:=ab.out.cell 2
   have o0:=ab.out.open_ 0
   have o1:=ab.out.open_ 1
   have o2:=ab.out.open_ 2
   go_wp2_with fail
   have ao:=set3 ab (.slice Aa la.length ca) (.slice Ab lb.length cb) (.bool inf)
   refine ret_pt (g:=w.heap.size+1) rfl rfl ao rfl ⟨Aa,ca,la,Ab,cb,lb,inf,rfl,⟨HQ.out.inf,HQ.out.x.store3 ab no_numsP _ _ _,HQ.out.y.store3 ab no_numsP _ _ _⟩,below3 av (by omega) _ _ _⟩
  ·have aB:(0:Int)≤(N:Int) - 1:=by omega
   have hN2:decide ((0:Int)≤(N:Int) - 1)=true:=decide_eq_true aB
   go_wp2_with fail
   refine am.out.mono ?_
   rintro e w8 ⟨Aa,ca,la,Ab,cb,lb,inf,rfl,hq,ac⟩
   have ab:=lH (RB.out.under ac (Holds.lt RB))
   have av:=lH (HB.out.trans (ac.mono HB.out.size))
   have HQ:=lH hq
   clear ac hq am
   have r0:=ab.out.cell 0
   have r1:=ab.out.cell 1
   have r2:=ab.out.cell 2
   have o0:=ab.out.open_ 0
   have o1:=ab.out.open_ 1
   have o2:=ab.out.open_ 2
   go_wp2_with fail
   have ao:=set3 ab (.slice Aa la.length ca) (.slice Ab lb.length cb) (.bool inf)
   refine ret_pt (g:=w.heap.size+1) rfl rfl ao rfl ⟨Aa,ca,la,Ab,cb,lb,inf,rfl,⟨HQ.out.inf,HQ.out.x.store3 ab no_numsP _ _ _,HQ.out.y.store3 ab no_numsP _ _ _⟩,below3 av (by omega) _ _ _⟩
theorem timesR_some (w:World) (u v:Luc.F) (ho:Luc.On u v) {A Au Av:Option Addr} {c cu cv:Nat} {l lu lv:List Nat} (hr:Rd .u32 w w.heap.size A c l) (hd:Dg l) (hs:l.length≤1000) (hn:nrm l) (hu:NR w Au cu lu u) (hv:NR w Av cv lv v) :
  Calls Tryd.prog 11 #[.slice A l.length c,.agg #[.slice Au lu.length cu,.slice Av lv.length cv,.bool false]] w (PtR (Luc.nmul (some (u,v)) (val l)) w):=by
 obtain ⟨w1,aA⟩:∃ W,W=w.alloc (.cells #[.slice Au lu.length cu,.slice Av lv.length cv,.bool false] 26):=⟨_,rfl⟩
 have aT:w1.heap.size=w.heap.size+1:=by rw [aA];simp
 have aO:Below w.heap.size w w1:=by rw [aA];exact (Below.refl _ _).alloc (Nat.le_refl _) _
 obtain ⟨w2,am⟩:∃ W,W=w1.alloc (.cells #[.slice none 0 0,.slice none 0 0,.bool false] 26):=⟨_,rfl⟩
 have bs:w2.heap.size=w.heap.size+1+1:=by rw [am];simp [aT]
 have aX:Below w.heap.size w w2:=by rw [am];exact aO.alloc aO.size _
 obtain ⟨w3,au⟩:∃ W,W=w2.alloc (.cells #[.slice none 0 0,.slice none 0 0,.slice none 0 0] 58):=⟨_,rfl⟩
 have aN:Below w.heap.size w w3:=by rw [au];exact aX.alloc aX.size _
 have PB:Hid (Holds w3 w.heap.size 26 #[.slice Au lu.length cu,.slice Av lv.length cv,.bool false]):=lH (by rw [au,am,aA];exact ((Holds.fresh w _ _).alloc _).alloc _)
 have RB:Hid (Holds w3 (w.heap.size+1) 26 #[.slice none 0 0,.slice none 0 0,.bool false]):=lH (by rw [au,am,←aT];exact (Holds.fresh w1 _ _).alloc _)
 have JB:Hid (Holds w3 (w.heap.size+1+1) 58 #[.slice none 0 0,.slice none 0 0,.slice none 0 0]):=lH (by rw [au,←bs];exact Holds.fresh w2 _ _)
 have HB:=lH aN
 have HW:=lH (aA ▸ am ▸ au:w3=((w.alloc (.cells #[.slice Au lu.length cu,.slice Av lv.length cv,.bool false] 26)).alloc (.cells #[.slice none 0 0,.slice none 0 0,.bool false] 26)).alloc (.cells #[.slice none 0 0,.slice none 0 0,.slice none 0 0] 58))
 have HR:=lH hr
 have bu:=lH (bits'_any w3 w.heap.size A c l (hr.under aN) hd (by omega) _ rfl)
 clear aA aT aO am bs aX au aN
 have HU:=lH hu
 have bC:=lH hv
 have HD:=lH hd
 clear hu hv
 go_enter Tryd.func11,Tryd.ntmps11
 go_wp2_with fail
 rw [←HW.out]
 clear HW
 refine bu.out.mono ?_
 rintro e w4 ⟨rfl,rfl⟩
 clear bu
 have ak:=lH (show val l / 2 ^ nb l=0 by
  have h:=val_top hd
  rwa [trl_id hn] at h)
 have aB:nb l≤32*l.length:=nb_le hd
 obtain ⟨E,HE⟩:∃ E,Hid (E=val l):=⟨_,rfl⟩
 obtain ⟨N,HN⟩:∃ N,Hid (N=nb l):=⟨_,rfl⟩
 rw [←HN.out] at ak aB ⊢
 rw [←HE.out] at ak ⊢
 have hp:Luc.OnC (some (u,v)):=ho
 have HP:=lH hp
 have HO:=lH ho
 clear hd hn hp ho
 go_wp2_with fail
 go_loopw [6] (fun si wr=>∃ (i:Nat) (j:Luc.Jc) (A1 A2 A3:Option Addr) (c1 c2 c3:Nat) (l1 l2 l3:List Nat),i≤N∧si = .int .i64 ((i:Int) - 1)∧Hid (Luc.Rep j=Luc.nmul (some (u,v)) (E / 2 ^ i))∧Hid (Holds wr (w.heap.size+1+1) 58 #[.slice A1 l1.length c1,.slice A2 l2.length c2,.slice A3 l3.length c3])∧Hid (NR wr A1 c1 l1 j.x∧NR wr A2 c2 l2 j.y∧NR wr A3 c3 l3 j.z)∧Hid (Holds wr w.heap.size 26 #[.slice Au lu.length cu,.slice Av lv.length cv,.bool false])∧Hid (Holds wr (w.heap.size+1) 26 #[.slice none 0 0,.slice none 0 0,.bool false])∧Hid (Below w.heap.size w wr)) (fun si _=>(intOf si+1).toNat)
 case atStart=>exact ⟨N,⟨0,0,0⟩,none,none,none,0,0,0,[],[],[],Nat.le_refl _,rfl,lH (by rw [ak.out];exact Luc.Rep.no rfl),JB,lH ⟨NR.nought _,NR.nought _,NR.nought _⟩,PB,RB,HB⟩
 case round =>
  obtain ⟨i,j,A1,A2,A3,c1,c2,c3,l1,l2,l3,hi,rfl,HJ,av,NJ,ao,aD,ax⟩:=hrel
  have aR:=lH NJ.out.1
  have aY:=lH NJ.out.2.1
  have aU:=lH NJ.out.2.2
  clear NJ PB RB JB HB
  have aJ:=ao.out.cell 0
  have aH:=ao.out.cell 1
  have aF:=ao.out.cell 2
  have aE:=av.out.cell 0
  have aG:=av.out.cell 1
  have aK:=av.out.cell 2
  rcases i with _ | i
  ·have bA:Hid (Luc.Rep j=Luc.nmul (some (u,v)) (val l)):=lH (by rw [HJ.out,Nat.pow_zero,Nat.div_one,HE.out])
   have aW:=lH (pointR_any wr j aR aY aU)
   rw [bA.out] at aW
   go_wp2_with fail
   refine aW.out.mono ?_
   rintro e w8 ⟨Aa,ca,la,Ab,cb,lb,inf,rfl,hq,aM⟩
   have ae:=lH (aD.out.under aM (Holds.lt aD))
   have bB:=lH (ax.out.trans (aM.mono ax.out.size))
   have HQ:=lH hq
   clear aM hq aW
   have r0:=ae.out.cell 0
   have r1:=ae.out.cell 1
   have r2:=ae.out.cell 2
   have o0:=ae.out.open_ 0
   have o1:=ae.out.open_ 1
   have o2:=ae.out.open_ 2
   go_wp2_with fail
   have bx:=set3 ae (.slice Aa la.length ca) (.slice Ab lb.length cb) (.bool inf)
   refine ret_pt (g:=w.heap.size+1) rfl rfl bx rfl ⟨Aa,ca,la,Ab,cb,lb,inf,rfl,⟨HQ.out.inf,HQ.out.x.store3 ae no_numsP _ _ _,HQ.out.y.store3 ae no_numsP _ _ _⟩,below3 bB (by omega) _ _ _⟩
  ·rw [show (((i+1:Nat):Int) - 1)=(i:Int) from by omega]
   obtain ⟨aQ,ai⟩:∃ b,Hid (E / 2 ^ i % 2=b):=⟨_,rfl⟩
   have br:=lH (pow_step 0 E i 0 aQ ai)
   have bd:Luc.OnC (Luc.Rep j):=by rw [HJ.out];exact Luc.nmul_on HP _
   have a6:Hid (Luc.Rep (Luc.dbl j)=Luc.nmul (some (u,v)) (2*(E / 2 ^ (i+1)))):=lH (by rw [Luc.dbl_rep bd,HJ.out,Luc.nmul_two HP.out])
   have bl:=lH (twiceR_any wr j aR aY aU)
   clear bd
   go_wp2_with fail
   refine bl.out.mono ?_
   rintro e w5 ⟨B1,d1,m1,B2,d2,m2,B3,d3,m3,rfl,q1,q2,q3,aw⟩
   have ac:=lH (av.out.under aw (Holds.lt av))
   have bt:=lH (ao.out.under aw (Holds.lt ao))
   have bm:=lH (aD.out.under aw (Holds.lt aD))
   have a_:=lH (ax.out.trans (aw.mono ax.out.size))
   have Q1:=lH q1
   have Q2:=lH q2
   have Q3:=lH q3
   clear bl q1 q2 q3 aw aJ aE aH aG aF aK aR aY aU av ao aD ax
   have a9:=ac.out.cell 0
   have ba:=ac.out.cell 1
   have bn:=ac.out.cell 2
   have bc:=ac.out.open_ 0
   have bf:=ac.out.open_ 1
   have a8:=ac.out.open_ 2
   obtain ⟨V,hV⟩:∃ W,W=(((w5.setCell ⟨(w.heap.size+1+1),0,none⟩ (.slice B1 m1.length d1)).setCell ⟨(w.heap.size+1+1),1,none⟩ (.slice B2 m2.length d2)).setCell ⟨(w.heap.size+1+1),2,none⟩ (.slice B3 m3.length d3)):=⟨_,rfl⟩
   have HV:=lH hV
   have JV:Hid (Holds V (w.heap.size+1+1) 58 #[.slice B1 m1.length d1,.slice B2 m2.length d2,.slice B3 m3.length d3]):=lH (by rw [hV];exact set3 ac _ _ _)
   have PV:Hid (Holds V w.heap.size 26 #[.slice Au lu.length cu,.slice Av lv.length cv,.bool false]):=lH (by rw [hV];exact holds_aside3 bt (k:=(w.heap.size+1+1)) (by omega) _ _ _)
   have RV:Hid (Holds V (w.heap.size+1) 26 #[.slice none 0 0,.slice none 0 0,.bool false]):=lH (by rw [hV];exact holds_aside3 bm (k:=(w.heap.size+1+1)) (by omega) _ _ _)
   have BV:Hid (Below w.heap.size w V):=lH (by rw [hV];exact below3 a_ (by omega) _ _ _)
   have V1:Hid (NR V B1 d1 m1 (Luc.dbl j).x):=lH (by rw [hV];exact Q1.out.store3 ac no_nums3 _ _ _)
   have V2:Hid (NR V B2 d2 m2 (Luc.dbl j).y):=lH (by rw [hV];exact Q2.out.store3 ac no_nums3 _ _ _)
   have V3:Hid (NR V B3 d3 m3 (Luc.dbl j).z):=lH (by rw [hV];exact Q3.out.store3 ac no_nums3 _ _ _)
   have aL:=HR.out.under BV.out
   obtain ⟨be,oe,x,rfl,bz,hx,Hx⟩:=aL.at_ (i:=i / 32) (by omega)
   have bv:x<4294967296:=by rw [Hx.out];exact HD.out.at_ _
   have hix:i / 32<l.length:=by omega
   have hlc:=aL.1
   have hlc63:=aL.2.1
   have ab:=and_one x (i % 32) bv
   rw [Hx.out,bit_at HD.out i,←HE.out,ai.out,←Hx.out] at ab
   clear aL Q1 Q2 Q3 ac bt bm a_
   by_cases hbit:aQ=1
   ·subst hbit
    have az:(bits .and .u32 ((x:Int) / 2 ^ (i % 32)) 1 == 1)=true:=by rw [ab];rfl
    clear ab
    have aJ:=PV.out.cell 0
    have aH:=PV.out.cell 1
    have aF:=PV.out.cell 2
    have aE:=JV.out.cell 0
    have aG:=JV.out.cell 1
    have aK:=JV.out.cell 2
    rw [hV] at hx aJ aE aH aG aF aK
    clear hV
    have bk:=lH (moreR_any V (Luc.dbl j) u v V1 V2 V3 (HU.out.under (BV.out)) (bC.out.under (BV.out)))
    go_wp2_with fail
    rw [←HV.out]
    refine bk.out.mono ?_
    rintro e w6 ⟨C1,e1,n1,C2,e2,n2,C3,e3,n3,rfl,q1,q2,q3,aC⟩
    have J6:=lH (JV.out.under aC (Holds.lt JV))
    have P6:=lH (PV.out.under aC (Holds.lt PV))
    have R6:=lH (RV.out.under aC (Holds.lt RV))
    have B6:=lH (BV.out.trans (aC.mono BV.out.size))
    have ay:Luc.OnC (Luc.Rep (Luc.dbl j)):=by rw [a6.out];exact Luc.nmul_on HP _
    have aV:Hid (Luc.Rep (Luc.pls (Luc.dbl j) u v)=Luc.nmul (some (u,v)) (E / 2 ^ i)):=lH (by rw [Luc.pls_rep ay HO.out,a6.out,br.out];rfl)
    have Q1:=lH q1
    have Q2:=lH q2
    have Q3:=lH q3
    clear bk HV q1 q2 q3 aC ay hx bz aJ aE a9 bc aH aG ba bf aF aK bn a8
    have a9:=J6.out.cell 0
    have ba:=J6.out.cell 1
    have bn:=J6.out.cell 2
    have bc:=J6.out.open_ 0
    have bf:=J6.out.open_ 1
    have a8:=J6.out.open_ 2
    go_wp2_with fail
    exact ⟨⟨i,_,C1,C2,C3,e1,e2,e3,n1,n2,n3,by omega,rfl,aV,lH (set3 J6 _ _ _),lH ⟨Q1.out.store3 J6 no_nums3 _ _ _,Q2.out.store3 J6 no_nums3 _ _ _,Q3.out.store3 J6 no_nums3 _ _ _⟩,lH (holds_aside3 P6 (k:=(w.heap.size+1+1)) (by omega) _ _ _),lH (holds_aside3 R6 (k:=(w.heap.size+1+1)) (by omega) _ _ _),lH (below3 B6 (by omega) _ _ _)⟩,by simp [intOf]⟩
   ·have bw:aQ=0:=by have:=ai.out;omega
    subst bw
    have az:(bits .and .u32 ((x:Int) / 2 ^ (i % 32)) 1 == 1)=false:=by rw [ab];rfl
    clear ab
    rw [hV] at hx
    clear hV
    have aV:Hid (Luc.Rep (Luc.dbl j)=Luc.nmul (some (u,v)) (E / 2 ^ i)):=lH (by rw [a6.out,br.out];rfl)
    go_wp2_with fail
    rw [←HV.out]
    exact ⟨⟨i,_,B1,B2,B3,d1,d2,d3,m1,m2,m3,by omega,rfl,aV,JV,lH ⟨V1,V2,V3⟩,PV,RV,BV⟩,by simp [intOf]⟩
end Go.Proofs.YtflfdglpljodbaaDoor
