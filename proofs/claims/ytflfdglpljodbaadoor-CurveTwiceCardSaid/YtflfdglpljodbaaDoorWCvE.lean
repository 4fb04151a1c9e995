/-
  The document's numbers of the field, as the field's. The document: a point by three numbers, twice. The document: the sum of a point by three numbers and one by two. The document: a point by three numbers, as a point. The document: a point, many times.
-/
import Derived.Test.YtflfdglpljodbaaDoorWCvA
import Derived.Test.YtflfdglpljodbaaDoorWCvD
import Derived.Test.YtflfdglpljodbaaDoorWRef12
import Derived.Deep.RegionLaw
import Derived.Deep.RegionHeld3
import Derived.Deep.DrawnRows
import Derived.Test.YtflfdglpljodbaaDoorWCvC
import Derived.Test.YtflfdglpljodbaaDoorWModM
set_option maxRecDepth 100000
set_option maxHeartbeats 20000000
namespace Go.Proofs.YtflfdglpljodbaaDoor
open Go.RowKit
set_option linter.unusedVariables false
set_option linter.unusedSimpArgs false
structure NR (W:World) (A:Option Addr) (c:Nat) (l:List Nat) (f:Luc.F):Prop where
 rd:Rd .u32 W W.heap.size A c l
 num:NumIs l f.val
theorem NR.under {W W':World} {A:Option Addr} {c:Nat} {l:List Nat} {f:Luc.F} (h:NR W A c l f) (hb:Below W.heap.size W W'):NR W' A c l f:=⟨(h.rd.under hb).more hb.size,h.num⟩
theorem NR.drew {W:World} {A:Option Addr} {c:Nat} {l:List Nat} {f:Luc.F} (h:NR W A c l f):NR W.drew A c l f:=h.under (Below.refl _ W).drew
theorem NR.dg {W:World} {A:Option Addr} {c:Nat} {l:List Nat} {f:Luc.F} (h:NR W A c l f):Dg l:=h.num.1
theorem NR.nrm {W:World} {A:Option Addr} {c:Nat} {l:List Nat} {f:Luc.F} (h:NR W A c l f):nrm l:=h.num.2.1
theorem NR.val {W:World} {A:Option Addr} {c:Nat} {l:List Nat} {f:Luc.F} (h:NR W A c l f):val l=f.val:=h.num.2.2
theorem NR.le {W:World} {A:Option Addr} {c:Nat} {l:List Nat} {f:Luc.F} (h:NR W A c l f):l.length≤8:=num_len8 h.num f.isLt
theorem NR.s {W:World} {A:Option Addr} {c:Nat} {l:List Nat} {f:Luc.F} (h:NR W A c l f):l.length≤1000:=Nat.le_trans h.le (by omega)
theorem rd_none {k:IntKind} {W W':World} {B B':Nat} {A:Option Addr} {c:Nat} (h:Rd k W B A c []):Rd k W' B' A c []:=⟨h.1,h.2.1,fun h0=>absurd h0 (by simp)⟩
theorem NR.apart {W:World} {A:Option Addr} {c g:Nat} {l:List Nat} {f:Luc.F} {t:TypeId} {cs:Array Value} (h:NR W A c l f) (hg:Holds W g t cs) (hs:∀ (j:Nat) (x:Int),cs[j]?≠some (.int .u32 x)):l=[]∨blockOf A≠some g:=by
 rcases l with _ | ⟨d,l⟩
 ·exact .inl rfl
 ·refine .inr fun e=>?_
  obtain ⟨b,off,hA,hb,hc⟩:=h.rd.2.2 (by simp)
  have h0:=hc 0 (by simp)
  rw [hA] at e
  have eb:b=g:=by simpa [blockOf] using e
  subst eb
  rw [Nat.add_zero,hg.cell off] at h0
  exact hs _ _ h0
theorem NR.store3 {W:World} {A:Option Addr} {c g:Nat} {l:List Nat} {f:Luc.F} {t:TypeId} {cs:Array Value} (h:NR W A c l f) (hg:Holds W g t cs) (hs:∀ (j:Nat) (x:Int),cs[j]?≠some (.int .u32 x)) (p q r:Value) :
  NR (((W.setCell ⟨g,0,none⟩ p).setCell ⟨g,1,none⟩ q).setCell ⟨g,2,none⟩ r) A c l f:=by
 rcases h.apart hg hs with e | e
 ·subst e
  exact ⟨rd_none h.rd,h.num⟩
 ·exact ⟨rd_aside3 h.rd e p q r,h.num⟩
theorem no_nums3 {A1 A2 A3:Option Addr} {n1 c1 n2 c2 n3 c3:Nat}:∀ (j:Nat) (x:Int),(#[Value.slice A1 n1 c1,.slice A2 n2 c2,.slice A3 n3 c3])[j]?≠some (.int .u32 x):=by
 intro j x
 rcases j with _ | _ | _ | j <;> simp
theorem no_numsP {A1 A2:Option Addr} {n1 c1 n2 c2:Nat} {b:Bool}:∀ (j:Nat) (x:Int),(#[Value.slice A1 n1 c1,.slice A2 n2 c2,.bool b])[j]?≠some (.int .u32 x):=by
 intro j x
 rcases j with _ | _ | _ | j <;> simp
def GotF (w:World) (f:Luc.F) (e:Ending) (w':World):Prop :=
 ∃ A c l,e = .returned (.slice A l.length c)∧NR w' A c l f∧Below w.heap.size w w'
theorem got_f {w:World} {v:Nat} {f:Luc.F} {e:Ending} {w':World} (h:Got w v e w') (hv:v=f.val):GotF w f e w':=by
 obtain ⟨A,c,r,he,hn,hr,hb⟩:=h
 subst hv
 exact ⟨A,c,r,he,⟨hr,hn⟩,hb⟩
theorem mulRF (w:World) {A A':Option Addr} {c c':Nat} {l l':List Nat} {f g:Luc.F} (h:NR w A c l f) (h':NR w A' c' l' g) :
  Calls Tryd.prog 46 #[.slice A l.length c,.slice A' l'.length c'] w (GotF w (f*g)) :=
 (mulR_any w A A' c c' l l' h.rd h'.rd h.dg h'.dg h.s h'.s h.nrm h'.nrm).mono fun e w' hq=>got_f hq (by rw [h.val,h'.val,Fin.val_mul];rfl)
theorem addRF (w:World) {A A':Option Addr} {c c':Nat} {l l':List Nat} {f g:Luc.F} (h:NR w A c l f) (h':NR w A' c' l' g) :
  Calls Tryd.prog 47 #[.slice A l.length c,.slice A' l'.length c'] w (GotF w (f+g)) :=
 (addR_any w A A' c c' l l' h.rd h'.rd h.dg h'.dg h.s h'.s h.nrm h'.nrm).mono fun e w' hq=>got_f hq (by rw [h.val,h'.val,Fin.val_add];rfl)
theorem sub_val {a b:Nat} {f g:Luc.F} (ha:a=f.val) (hb:b=g.val):(a % cP+(cP - b % cP)) % cP=(f - g).val:=by
 have hf:f.val<cP:=f.isLt
 have hg:g.val<cP:=g.isLt
 subst ha hb
 rw [Nat.mod_eq_of_lt hf,Nat.mod_eq_of_lt hg,Fin.sub_def]
 show _=(cP - g.val+f.val) % cP
 rw [Nat.add_comm]
theorem subRF (w:World) {A A':Option Addr} {c c':Nat} {l l':List Nat} {f g:Luc.F} (h:NR w A c l f) (h':NR w A' c' l' g) :
  Calls Tryd.prog 48 #[.slice A l.length c,.slice A' l'.length c'] w (GotF w (f - g)) :=
 (subR_any w A A' c c' l l' h.rd h'.rd h.dg h'.dg h.s h'.s h.nrm h'.nrm).mono fun e w' hq=>got_f hq (sub_val h.val h'.val)
theorem threeRF (w:World) {A:Option Addr} {c:Nat} {l:List Nat} {f:Luc.F} (h:NR w A c l f) :
  Calls Tryd.prog 49 #[.slice A l.length c] w (GotF w (f+(f+f))) :=
 (threeR_any w A c l h.rd h.dg h.s h.nrm).mono fun e w' hq=>got_f hq (by rw [h.val,Fin.val_add,Fin.val_add];rfl)
theorem num_noughtF:NumIs [] (0:Luc.F).val:=num_nil
theorem NR.nought (w:World):NR w none 0 [] 0:=⟨⟨by simp,by omega,fun h=>absurd h (by simp)⟩,num_noughtF⟩
theorem NR.zero_iff {W:World} {A:Option Addr} {c:Nat} {l:List Nat} {f:Luc.F} (h:NR W A c l f):l.length=0↔f=0:=by
 constructor
 ·intro e
  have:l=[]:=List.length_eq_zero_iff.1 e
  subst this
  exact Fin.ext (by rw [←h.val];rfl)
 ·intro e
  subst e
  have:=num_one h.num num_noughtF
  rw [this];rfl
theorem ret_jac {R:Ending→World→Prop} {tmps:Array Value} {w:World} {g:Nat} {t:TypeId} {cs:Array Value} {fn:Func} {p:Tmp}
  (hr:fn.results=#[.cell p 58]) (hp:tmps.getD p undef = .pointer (some ⟨g,0,none⟩)) (hg:Holds w g t cs) (hcs:cs.size=3) (hR:R (.returned (.agg cs)) w) :
  bodyPost Tryd.prog fn R .ret { tmps:=tmps,defers:=[] } w:=by
 have hi:(Tryd.prog.info? 58).map (·.size)=some cs.size:=by rw [hcs];kernel_rfl
 refine bodyPost_ret (v:=.agg cs) ?_ rfl hR
 have hp':tmps[p]?.getD undef = .pointer (some ⟨g,0,none⟩):=by simpa using hp
 simp [results,hr,hp',asAddr,run_loadVar_row w g t _ cs (0,0) _ hg Tryd.underlying58 rfl hi,Result.andThen]
def JacP (w:World) (j:Luc.Jc) (e:Ending) (w':World):Prop :=
 ∃ A1 c1 l1 A2 c2 l2 A3 c3 l3,e = .returned (.agg #[.slice A1 l1.length c1,.slice A2 l2.length c2,.slice A3 l3.length c3])∧NR w' A1 c1 l1 j.x∧NR w' A2 c2 l2 j.y∧NR w' A3 c3 l3 j.z∧Below w.heap.size w w'
end Go.Proofs.YtflfdglpljodbaaDoor
namespace Go.Proofs.YtflfdglpljodbaaDoor
open Go.RowKit
set_option linter.unusedVariables false
set_option linter.unusedSimpArgs false
theorem sub_two (a b:Luc.F):a - b - b=a - (b+b):=by grind
theorem twiceR_any (w:World) (j:Luc.Jc) {Ax Ay Az:Option Addr} {cx cy cz:Nat} {lx ly lz:List Nat} (hx:NR w Ax cx lx j.x) (hy:NR w Ay cy ly j.y) (hz:NR w Az cz lz j.z) :
  Calls Tryd.prog 38 #[.agg #[.slice Ax lx.length cx,.slice Ay ly.length cy,.slice Az lz.length cz]] w (JacP w (Luc.dbl j)):=by
 obtain ⟨w1,hw1⟩:∃ W,W=w.alloc (.cells #[.slice Ax lx.length cx,.slice Ay ly.length cy,.slice Az lz.length cz] 58):=⟨_,rfl⟩
 have hz1:w1.heap.size=w.heap.size+1:=by rw [hw1];simp
 have hb1:Below w.heap.size w w1:=by rw [hw1];exact (Below.refl _ _).alloc (Nat.le_refl _) _
 obtain ⟨W0,hw2⟩:∃ W,W=w1.alloc (.cells #[.slice none 0 0,.slice none 0 0,.slice none 0 0] 58):=⟨_,rfl⟩
 have hb2:Below w.heap.size w W0:=by rw [hw2];exact hb1.alloc hb1.size _
 have BX_0:Hid (Holds W0 w.heap.size 58 #[.slice Ax lx.length cx,.slice Ay ly.length cy,.slice Az lz.length cz]):=lH (by rw [hw2,hw1];exact (Holds.fresh w _ _).alloc _)
 have RB_0:Hid (Holds W0 (w.heap.size+1) 58 #[.slice none 0 0,.slice none 0 0,.slice none 0 0]):=lH (by rw [hw2,←hz1];exact Holds.fresh w1 _ _)
 have HB_0:=lH hb2
 have Nx_0:=lH (hx.under hb2)
 have Ny_0:=lH (hy.under hb2)
 have Nz_0:=lH (hz.under hb2)
 have HW:=lH (hw1 ▸ hw2:W0=(w.alloc (.cells #[.slice Ax lx.length cx,.slice Ay ly.length cy,.slice Az lz.length cz] 58)).alloc (.cells #[.slice none 0 0,.slice none 0 0,.slice none 0 0] 58))
 clear hx hy hz hw1 hz1 hb1 hw2 hb2
 go_enter Tryd.func38,Tryd.ntmps38
 go_wp2_with fail
 rw [←HW.out]
 clear HW
 go_wp2_with fail
 refine wp_region_noPanic ?_
 refine wp_region_held_drew (S:=fun W=>Holds W w.heap.size 58 #[.slice Ax lx.length cx,.slice Ay ly.length cy,.slice Az lz.length cz]∧True) (by kernel_rfl) (⟨BX_0.out,trivial⟩) (fun hHeld=>?_)
 obtain ⟨W1,hV⟩:∃ W,W=W0.drew:=⟨_,rfl⟩
 rw [←hV]
 have hdr:Below W0.heap.size W0 W1:=by rw [hV];exact (Below.refl _ W0).drew
 have BX_1:=lH (BX_0.out.under hdr (Holds.lt BX_0.out))
 have RB_1:=lH (RB_0.out.under hdr (Holds.lt RB_0.out))
 have HB_1:=lH (HB_0.out.trans (hdr.mono HB_0.out.size))
 have Nx_1:=lH (Nx_0.out.under hdr)
 have Ny_1:=lH (Ny_0.out.under hdr)
 have Nz_1:=lH (Nz_0.out.under hdr)
 clear BX_0 RB_0 HB_0 Nx_0 Ny_0 Nz_0
 have HS1:Hid ((fun W=>Holds W w.heap.size 58 #[.slice Ax lx.length cx,.slice Ay ly.length cy,.slice Az lz.length cz]∧True) W1):=lH ⟨BX_1.out,trivial⟩
 replace hHeld:(fun W=>Holds W w.heap.size 58 #[.slice Ax lx.length cx,.slice Ay ly.length cy,.slice Az lz.length cz]∧True) W1:=HS1.out
 clear hV hdr
 refine tk 0 ⟨some 12,.fieldAddr 58 (.tmp 1) 2,0,_,_,none⟩ ?_ rfl ?_ hHeld ?_
 rotate_left 1
 ·(intro W hW;(try dsimp only at hW);go_simp;try with_reducible rfl)
 try simp only [aP]
 refine tk 1 ⟨some 13,.load 24 (.tmp 12),24,_,_,none⟩ ?_ rfl ?_ hHeld ?_
 rotate_left 1
 ·(intro W hW;have hcc:=hW.1.cell 2;(try dsimp only at hW);go_simp;try with_reducible rfl)
 try simp only [aP]
 refine tk 2 ⟨some 14,.fieldAddr 58 (.tmp 1) 2,0,_,_,none⟩ ?_ rfl ?_ hHeld ?_
 rotate_left 1
 ·(intro W hW;(try dsimp only at hW);go_simp;try with_reducible rfl)
 try simp only [aP]
 refine tk 3 ⟨some 15,.load 24 (.tmp 14),24,_,_,none⟩ ?_ rfl ?_ hHeld ?_
 rotate_left 1
 ·(intro W hW;have hcc:=hW.1.cell 2;(try dsimp only at hW);go_simp;try with_reducible rfl)
 try simp only [aP]
 refine tk 5 ⟨some 17,.fieldAddr 58 (.tmp 1) 1,0,_,_,none⟩ ?_ rfl ?_ hHeld ?_
 rotate_left 1
 ·(intro W hW;(try dsimp only at hW);go_simp;try with_reducible rfl)
 try simp only [aP]
 refine tk 6 ⟨some 18,.load 24 (.tmp 17),24,_,_,none⟩ ?_ rfl ?_ hHeld ?_
 rotate_left 1
 ·(intro W hW;have hcc:=hW.1.cell 1;(try dsimp only at hW);go_simp;try with_reducible rfl)
 try simp only [aP]
 refine tk 7 ⟨some 19,.fieldAddr 58 (.tmp 1) 1,0,_,_,none⟩ ?_ rfl ?_ hHeld ?_
 rotate_left 1
 ·(intro W hW;(try dsimp only at hW);go_simp;try with_reducible rfl)
 try simp only [aP]
 refine tk 8 ⟨some 20,.load 24 (.tmp 19),24,_,_,none⟩ ?_ rfl ?_ hHeld ?_
 rotate_left 1
 ·(intro W hW;have hcc:=hW.1.cell 1;(try dsimp only at hW);go_simp;try with_reducible rfl)
 try simp only [aP]
 refine rdy 4 ⟨some 16,.call ⟨ .value (.func 46),#[.tmp 13,.tmp 15],#[24,24]⟩,24,_,_,none⟩ rfl (fun K hK=>?_)
 go_simp
 refine (mulRF W1 Nz_1.out Nz_1.out).mono ?_
 rintro e W2 ⟨Ade,cde,lde,rfl,hn,hb⟩
 have BX_2:=lH (BX_1.out.under hb (Holds.lt BX_1.out))
 have RB_2:=lH (RB_1.out.under hb (Holds.lt RB_1.out))
 have HB_2:=lH (HB_1.out.trans (hb.mono HB_1.out.size))
 have Nx_2:=lH (Nx_1.out.under hb)
 have Ny_2:=lH (Ny_1.out.under hb)
 have Nz_2:=lH (Nz_1.out.under hb)
 clear BX_1 RB_1 HB_1 Nx_1 Ny_1 Nz_1
 obtain ⟨de,eq_de⟩:∃ v_,v_=j.z*j.z:=⟨_,rfl⟩
 rw [←eq_de] at hn
 have Ede:=lH eq_de
 have Nde_2:=lH hn
 clear hn hb eq_de
 have HS2:Hid ((fun W=>Holds W w.heap.size 58 #[.slice Ax lx.length cx,.slice Ay ly.length cy,.slice Az lz.length cz]∧True) W2):=lH ⟨BX_2.out,trivial⟩
 go_simp
 refine hK.out _ _ (HS2.out) (fun hHeld=>?_)
 clear hK K
 try simp only [aP]
 refine rdy 9 ⟨some 21,.call ⟨ .value (.func 46),#[.tmp 18,.tmp 20],#[24,24]⟩,24,_,_,none⟩ rfl (fun K hK=>?_)
 go_simp
 refine (mulRF W2 Ny_2.out Ny_2.out).mono ?_
 rintro e W3 ⟨Aga,cga,lga,rfl,hn,hb⟩
 have BX_3:=lH (BX_2.out.under hb (Holds.lt BX_2.out))
 have RB_3:=lH (RB_2.out.under hb (Holds.lt RB_2.out))
 have HB_3:=lH (HB_2.out.trans (hb.mono HB_2.out.size))
 have Nx_3:=lH (Nx_2.out.under hb)
 have Ny_3:=lH (Ny_2.out.under hb)
 have Nz_3:=lH (Nz_2.out.under hb)
 have Nde_3:=lH (Nde_2.out.under hb)
 clear BX_2 RB_2 HB_2 Nx_2 Ny_2 Nz_2 Nde_2
 obtain ⟨ga,eq_ga⟩:∃ v_,v_=j.y*j.y:=⟨_,rfl⟩
 rw [←eq_ga] at hn
 have Ega:=lH eq_ga
 have Nga_3:=lH hn
 clear hn hb eq_ga
 have HS3:Hid ((fun W=>Holds W w.heap.size 58 #[.slice Ax lx.length cx,.slice Ay ly.length cy,.slice Az lz.length cz]∧True) W3):=lH ⟨BX_3.out,trivial⟩
 go_simp
 refine hK.out _ _ (HS3.out) (fun hHeld=>?_)
 clear hK K
 try simp only [aP]
 refine tk 10 ⟨some 3,.assign (.tmp 16),24,_,_,none⟩ ?_ rfl ?_ hHeld ?_
 rotate_left 1
 ·(intro W hW;(try dsimp only at hW);go_simp;try with_reducible rfl)
 try simp only [aP]
 refine tk 11 ⟨some 4,.assign (.tmp 21),24,_,_,none⟩ ?_ rfl ?_ hHeld ?_
 rotate_left 1
 ·(intro W hW;(try dsimp only at hW);go_simp;try with_reducible rfl)
 try simp only [aP]
 refine wpAnyH_done (by kernel_rfl) ?_ _
 refine NoPanic.normal ?_
 have BXc0:=BX_3.out.cell 0
 go_wp2_with fail
 refine (mulRF W3 Nx_3.out Nga_3.out).mono ?_
 rintro e W4 ⟨Abe,cbe,lbe,rfl,hn,hb⟩
 have BX_4:=lH (BX_3.out.under hb (Holds.lt BX_3.out))
 have RB_4:=lH (RB_3.out.under hb (Holds.lt RB_3.out))
 have HB_4:=lH (HB_3.out.trans (hb.mono HB_3.out.size))
 have Nx_4:=lH (Nx_3.out.under hb)
 have Ny_4:=lH (Ny_3.out.under hb)
 have Nz_4:=lH (Nz_3.out.under hb)
 have Nde_4:=lH (Nde_3.out.under hb)
 have Nga_4:=lH (Nga_3.out.under hb)
 clear BX_3 RB_3 HB_3 Nx_3 Ny_3 Nz_3 Nde_3 Nga_3
 obtain ⟨be,eq_be⟩:∃ v_,v_=j.x*ga:=⟨_,rfl⟩
 rw [←eq_be] at hn
 have Ebe:=lH eq_be
 have Nbe_4:=lH hn
 clear hn hb eq_be
 clear BXc0
 go_wp2_with fail
 refine wp_region_noPanic ?_
 refine wp_region_held_drew (S:=fun W=>Holds W w.heap.size 58 #[.slice Ax lx.length cx,.slice Ay ly.length cy,.slice Az lz.length cz]∧True) (by kernel_rfl) (⟨BX_4.out,trivial⟩) (fun hHeld=>?_)
 obtain ⟨W5,hV⟩:∃ W,W=W4.drew:=⟨_,rfl⟩
 rw [←hV]
 have hdr:Below W4.heap.size W4 W5:=by rw [hV];exact (Below.refl _ W4).drew
 have BX_5:=lH (BX_4.out.under hdr (Holds.lt BX_4.out))
 have RB_5:=lH (RB_4.out.under hdr (Holds.lt RB_4.out))
 have HB_5:=lH (HB_4.out.trans (hdr.mono HB_4.out.size))
 have Nx_5:=lH (Nx_4.out.under hdr)
 have Ny_5:=lH (Ny_4.out.under hdr)
 have Nz_5:=lH (Nz_4.out.under hdr)
 have Nde_5:=lH (Nde_4.out.under hdr)
 have Nga_5:=lH (Nga_4.out.under hdr)
 have Nbe_5:=lH (Nbe_4.out.under hdr)
 clear BX_4 RB_4 HB_4 Nx_4 Ny_4 Nz_4 Nde_4 Nga_4 Nbe_4
 have HS5:Hid ((fun W=>Holds W w.heap.size 58 #[.slice Ax lx.length cx,.slice Ay ly.length cy,.slice Az lz.length cz]∧True) W5):=lH ⟨BX_5.out,trivial⟩
 replace hHeld:(fun W=>Holds W w.heap.size 58 #[.slice Ax lx.length cx,.slice Ay ly.length cy,.slice Az lz.length cz]∧True) W5:=HS5.out
 clear hV hdr
 refine tk 0 ⟨some 26,.fieldAddr 58 (.tmp 1) 0,0,_,_,none⟩ ?_ rfl ?_ hHeld ?_
 rotate_left 1
 ·(intro W hW;(try dsimp only at hW);go_simp;try with_reducible rfl)
 try simp only [aP]
 refine tk 1 ⟨some 27,.load 24 (.tmp 26),24,_,_,none⟩ ?_ rfl ?_ hHeld ?_
 rotate_left 1
 ·(intro W hW;have hcc:=hW.1.cell 0;(try dsimp only at hW);go_simp;try with_reducible rfl)
 try simp only [aP]
 refine tk 2 ⟨some 28,.move (.tmp 3),24,_,_,none⟩ ?_ rfl ?_ hHeld ?_
 rotate_left 1
 ·(intro W hW;(try dsimp only at hW);go_simp;try with_reducible rfl)
 try simp only [aP]
 refine tk 4 ⟨some 30,.fieldAddr 58 (.tmp 1) 0,0,_,_,none⟩ ?_ rfl ?_ hHeld ?_
 rotate_left 1
 ·(intro W hW;(try dsimp only at hW);go_simp;try with_reducible rfl)
 try simp only [aP]
 refine tk 5 ⟨some 31,.load 24 (.tmp 30),24,_,_,none⟩ ?_ rfl ?_ hHeld ?_
 rotate_left 1
 ·(intro W hW;have hcc:=hW.1.cell 0;(try dsimp only at hW);go_simp;try with_reducible rfl)
 try simp only [aP]
 refine tk 6 ⟨some 32,.move (.tmp 3),24,_,_,none⟩ ?_ rfl ?_ hHeld ?_
 rotate_left 1
 ·(intro W hW;(try dsimp only at hW);go_simp;try with_reducible rfl)
 try simp only [aP]
 refine rdy 3 ⟨some 29,.call ⟨ .value (.func 48),#[.tmp 27,.tmp 28],#[24,24]⟩,24,_,_,none⟩ rfl (fun K hK=>?_)
 go_simp
 refine (subRF W5 Nx_5.out Nde_5.out).mono ?_
 rintro e W6 ⟨As1,cs1,ls1,rfl,hn,hb⟩
 have BX_6:=lH (BX_5.out.under hb (Holds.lt BX_5.out))
 have RB_6:=lH (RB_5.out.under hb (Holds.lt RB_5.out))
 have HB_6:=lH (HB_5.out.trans (hb.mono HB_5.out.size))
 have Nx_6:=lH (Nx_5.out.under hb)
 have Ny_6:=lH (Ny_5.out.under hb)
 have Nz_6:=lH (Nz_5.out.under hb)
 have Nde_6:=lH (Nde_5.out.under hb)
 have Nga_6:=lH (Nga_5.out.under hb)
 have Nbe_6:=lH (Nbe_5.out.under hb)
 clear BX_5 RB_5 HB_5 Nx_5 Ny_5 Nz_5 Nde_5 Nga_5 Nbe_5
 obtain ⟨s1,eq_s1⟩:∃ v_,v_=j.x - de:=⟨_,rfl⟩
 rw [←eq_s1] at hn
 have Es1:=lH eq_s1
 have Ns1_6:=lH hn
 clear hn hb eq_s1
 have HS6:Hid ((fun W=>Holds W w.heap.size 58 #[.slice Ax lx.length cx,.slice Ay ly.length cy,.slice Az lz.length cz]∧True) W6):=lH ⟨BX_6.out,trivial⟩
 go_simp
 refine hK.out _ _ (HS6.out) (fun hHeld=>?_)
 clear hK K
 try simp only [aP]
 refine rdy 7 ⟨some 33,.call ⟨ .value (.func 47),#[.tmp 31,.tmp 32],#[24,24]⟩,24,_,_,none⟩ rfl (fun K hK=>?_)
 go_simp
 refine (addRF W6 Nx_6.out Nde_6.out).mono ?_
 rintro e W7 ⟨As2,cs2,ls2,rfl,hn,hb⟩
 have BX_7:=lH (BX_6.out.under hb (Holds.lt BX_6.out))
 have RB_7:=lH (RB_6.out.under hb (Holds.lt RB_6.out))
 have HB_7:=lH (HB_6.out.trans (hb.mono HB_6.out.size))
 have Nx_7:=lH (Nx_6.out.under hb)
 have Ny_7:=lH (Ny_6.out.under hb)
 have Nz_7:=lH (Nz_6.out.under hb)
 have Nde_7:=lH (Nde_6.out.under hb)
 have Nga_7:=lH (Nga_6.out.under hb)
 have Nbe_7:=lH (Nbe_6.out.under hb)
 have Ns1_7:=lH (Ns1_6.out.under hb)
 clear BX_6 RB_6 HB_6 Nx_6 Ny_6 Nz_6 Nde_6 Nga_6 Nbe_6 Ns1_6
 obtain ⟨s2,eq_s2⟩:∃ v_,v_=j.x+de:=⟨_,rfl⟩
 rw [←eq_s2] at hn
 have Es2:=lH eq_s2
 have Ns2_7:=lH hn
 clear hn hb eq_s2
 have HS7:Hid ((fun W=>Holds W w.heap.size 58 #[.slice Ax lx.length cx,.slice Ay ly.length cy,.slice Az lz.length cz]∧True) W7):=lH ⟨BX_7.out,trivial⟩
 go_simp
 refine hK.out _ _ (HS7.out) (fun hHeld=>?_)
 clear hK K
 try simp only [aP]
 refine rdy 8 ⟨some 34,.call ⟨ .value (.func 46),#[.tmp 29,.tmp 33],#[24,24]⟩,24,_,_,none⟩ rfl (fun K hK=>?_)
 go_simp
 refine (mulRF W7 Ns1_7.out Ns2_7.out).mono ?_
 rintro e W8 ⟨As3,cs3,ls3,rfl,hn,hb⟩
 have BX_8:=lH (BX_7.out.under hb (Holds.lt BX_7.out))
 have RB_8:=lH (RB_7.out.under hb (Holds.lt RB_7.out))
 have HB_8:=lH (HB_7.out.trans (hb.mono HB_7.out.size))
 have Nx_8:=lH (Nx_7.out.under hb)
 have Ny_8:=lH (Ny_7.out.under hb)
 have Nz_8:=lH (Nz_7.out.under hb)
 have Nde_8:=lH (Nde_7.out.under hb)
 have Nga_8:=lH (Nga_7.out.under hb)
 have Nbe_8:=lH (Nbe_7.out.under hb)
 have Ns1_8:=lH (Ns1_7.out.under hb)
 have Ns2_8:=lH (Ns2_7.out.under hb)
 clear BX_7 RB_7 HB_7 Nx_7 Ny_7 Nz_7 Nde_7 Nga_7 Nbe_7 Ns1_7 Ns2_7
 obtain ⟨s3,eq_s3⟩:∃ v_,v_=s1*s2:=⟨_,rfl⟩
 rw [←eq_s3] at hn
 have Es3:=lH eq_s3
 have Ns3_8:=lH hn
 clear hn hb eq_s3
 have HS8:Hid ((fun W=>Holds W w.heap.size 58 #[.slice Ax lx.length cx,.slice Ay ly.length cy,.slice Az lz.length cz]∧True) W8):=lH ⟨BX_8.out,trivial⟩
 go_simp
 refine hK.out _ _ (HS8.out) (fun hHeld=>?_)
 clear hK K
 try simp only [aP]
 refine rdy 9 ⟨some 35,.call ⟨ .value (.func 49),#[.tmp 34],#[24]⟩,24,_,_,none⟩ rfl (fun K hK=>?_)
 go_simp
 refine (threeRF W8 Ns3_8.out).mono ?_
 rintro e W9 ⟨Aal,cal,lal,rfl,hn,hb⟩
 have BX_9:=lH (BX_8.out.under hb (Holds.lt BX_8.out))
 have RB_9:=lH (RB_8.out.under hb (Holds.lt RB_8.out))
 have HB_9:=lH (HB_8.out.trans (hb.mono HB_8.out.size))
 have Nx_9:=lH (Nx_8.out.under hb)
 have Ny_9:=lH (Ny_8.out.under hb)
 have Nz_9:=lH (Nz_8.out.under hb)
 have Nde_9:=lH (Nde_8.out.under hb)
 have Nga_9:=lH (Nga_8.out.under hb)
 have Nbe_9:=lH (Nbe_8.out.under hb)
 have Ns1_9:=lH (Ns1_8.out.under hb)
 have Ns2_9:=lH (Ns2_8.out.under hb)
 have Ns3_9:=lH (Ns3_8.out.under hb)
 clear BX_8 RB_8 HB_8 Nx_8 Ny_8 Nz_8 Nde_8 Nga_8 Nbe_8 Ns1_8 Ns2_8 Ns3_8
 obtain ⟨al,eq_al⟩:∃ v_,v_=s3+(s3+s3):=⟨_,rfl⟩
 rw [←eq_al] at hn
 have Eal:=lH eq_al
 have Nal_9:=lH hn
 clear hn hb eq_al
 have HS9:Hid ((fun W=>Holds W w.heap.size 58 #[.slice Ax lx.length cx,.slice Ay ly.length cy,.slice Az lz.length cz]∧True) W9):=lH ⟨BX_9.out,trivial⟩
 go_simp
 refine hK.out _ _ (HS9.out) (fun hHeld=>?_)
 clear hK K
 try simp only [aP]
 refine tk 10 ⟨some 6,.assign (.tmp 35),24,_,_,none⟩ ?_ rfl ?_ hHeld ?_
 rotate_left 1
 ·(intro W hW;(try dsimp only at hW);go_simp;try with_reducible rfl)
 try simp only [aP]
 refine wpAnyH_done (by kernel_rfl) ?_ _
 refine NoPanic.normal ?_
 clear Ns1_9 Ns2_9 Ns3_9
 go_wp2_with fail
 refine (addRF W9 Nbe_9.out Nbe_9.out).mono ?_
 rintro e W10 ⟨Af1,cf1,lf1,rfl,hn,hb⟩
 have BX_10:=lH (BX_9.out.under hb (Holds.lt BX_9.out))
 have RB_10:=lH (RB_9.out.under hb (Holds.lt RB_9.out))
 have HB_10:=lH (HB_9.out.trans (hb.mono HB_9.out.size))
 have Nx_10:=lH (Nx_9.out.under hb)
 have Ny_10:=lH (Ny_9.out.under hb)
 have Nz_10:=lH (Nz_9.out.under hb)
 have Nde_10:=lH (Nde_9.out.under hb)
 have Nga_10:=lH (Nga_9.out.under hb)
 have Nbe_10:=lH (Nbe_9.out.under hb)
 have Nal_10:=lH (Nal_9.out.under hb)
 clear BX_9 RB_9 HB_9 Nx_9 Ny_9 Nz_9 Nde_9 Nga_9 Nbe_9 Nal_9
 obtain ⟨f1,eq_f1⟩:∃ v_,v_=be+be:=⟨_,rfl⟩
 rw [←eq_f1] at hn
 have Ef1:=lH eq_f1
 have Nf1_10:=lH hn
 clear hn hb eq_f1
 go_wp2_with fail
 refine (addRF W10 Nbe_10.out Nbe_10.out).mono ?_
 rintro e W11 ⟨Af2,cf2,lf2,rfl,hn,hb⟩
 have BX_11:=lH (BX_10.out.under hb (Holds.lt BX_10.out))
 have RB_11:=lH (RB_10.out.under hb (Holds.lt RB_10.out))
 have HB_11:=lH (HB_10.out.trans (hb.mono HB_10.out.size))
 have Nx_11:=lH (Nx_10.out.under hb)
 have Ny_11:=lH (Ny_10.out.under hb)
 have Nz_11:=lH (Nz_10.out.under hb)
 have Nde_11:=lH (Nde_10.out.under hb)
 have Nga_11:=lH (Nga_10.out.under hb)
 have Nbe_11:=lH (Nbe_10.out.under hb)
 have Nal_11:=lH (Nal_10.out.under hb)
 have Nf1_11:=lH (Nf1_10.out.under hb)
 clear BX_10 RB_10 HB_10 Nx_10 Ny_10 Nz_10 Nde_10 Nga_10 Nbe_10 Nal_10 Nf1_10
 obtain ⟨f2,eq_f2⟩:∃ v_,v_=be+be:=⟨_,rfl⟩
 rw [←eq_f2] at hn
 have Ef2:=lH eq_f2
 have Nf2_11:=lH hn
 clear hn hb eq_f2
 go_wp2_with fail
 refine (addRF W11 Nf1_11.out Nf2_11.out).mono ?_
 rintro e W12 ⟨Afo,cfo,lfo,rfl,hn,hb⟩
 have BX_12:=lH (BX_11.out.under hb (Holds.lt BX_11.out))
 have RB_12:=lH (RB_11.out.under hb (Holds.lt RB_11.out))
 have HB_12:=lH (HB_11.out.trans (hb.mono HB_11.out.size))
 have Nx_12:=lH (Nx_11.out.under hb)
 have Ny_12:=lH (Ny_11.out.under hb)
 have Nz_12:=lH (Nz_11.out.under hb)
 have Nde_12:=lH (Nde_11.out.under hb)
 have Nga_12:=lH (Nga_11.out.under hb)
 have Nbe_12:=lH (Nbe_11.out.under hb)
 have Nal_12:=lH (Nal_11.out.under hb)
 have Nf1_12:=lH (Nf1_11.out.under hb)
 have Nf2_12:=lH (Nf2_11.out.under hb)
 clear BX_11 RB_11 HB_11 Nx_11 Ny_11 Nz_11 Nde_11 Nga_11 Nbe_11 Nal_11 Nf1_11 Nf2_11
 obtain ⟨fo,eq_fo⟩:∃ v_,v_=f1+f2:=⟨_,rfl⟩
 rw [←eq_fo] at hn
 have Efo:=lH eq_fo
 have Nfo_12:=lH hn
 clear hn hb eq_fo
 clear Nf1_12 Nf2_12 Nbe_12
 go_wp2_with fail
 refine (mulRF W12 Nal_12.out Nal_12.out).mono ?_
 rintro e W13 ⟨Ap1,cp1,lp1,rfl,hn,hb⟩
 have BX_13:=lH (BX_12.out.under hb (Holds.lt BX_12.out))
 have RB_13:=lH (RB_12.out.under hb (Holds.lt RB_12.out))
 have HB_13:=lH (HB_12.out.trans (hb.mono HB_12.out.size))
 have Nx_13:=lH (Nx_12.out.under hb)
 have Ny_13:=lH (Ny_12.out.under hb)
 have Nz_13:=lH (Nz_12.out.under hb)
 have Nde_13:=lH (Nde_12.out.under hb)
 have Nga_13:=lH (Nga_12.out.under hb)
 have Nal_13:=lH (Nal_12.out.under hb)
 have Nfo_13:=lH (Nfo_12.out.under hb)
 clear BX_12 RB_12 HB_12 Nx_12 Ny_12 Nz_12 Nde_12 Nga_12 Nal_12 Nfo_12
 obtain ⟨p1,eq_p1⟩:∃ v_,v_=al*al:=⟨_,rfl⟩
 rw [←eq_p1] at hn
 have Ep1:=lH eq_p1
 have Np1_13:=lH hn
 clear hn hb eq_p1
 go_wp2_with fail
 refine (subRF W13 Np1_13.out Nfo_13.out).mono ?_
 rintro e W14 ⟨Ap2,cp2,lp2,rfl,hn,hb⟩
 have BX_14:=lH (BX_13.out.under hb (Holds.lt BX_13.out))
 have RB_14:=lH (RB_13.out.under hb (Holds.lt RB_13.out))
 have HB_14:=lH (HB_13.out.trans (hb.mono HB_13.out.size))
 have Nx_14:=lH (Nx_13.out.under hb)
 have Ny_14:=lH (Ny_13.out.under hb)
 have Nz_14:=lH (Nz_13.out.under hb)
 have Nde_14:=lH (Nde_13.out.under hb)
 have Nga_14:=lH (Nga_13.out.under hb)
 have Nal_14:=lH (Nal_13.out.under hb)
 have Nfo_14:=lH (Nfo_13.out.under hb)
 have Np1_14:=lH (Np1_13.out.under hb)
 clear BX_13 RB_13 HB_13 Nx_13 Ny_13 Nz_13 Nde_13 Nga_13 Nal_13 Nfo_13 Np1_13
 obtain ⟨p2,eq_p2⟩:∃ v_,v_=p1 - fo:=⟨_,rfl⟩
 rw [←eq_p2] at hn
 have Ep2:=lH eq_p2
 have Np2_14:=lH hn
 clear hn hb eq_p2
 go_wp2_with fail
 refine (subRF W14 Np2_14.out Nfo_14.out).mono ?_
 rintro e W15 ⟨AX,cX,lX,rfl,hn,hb⟩
 have BX_15:=lH (BX_14.out.under hb (Holds.lt BX_14.out))
 have RB_15:=lH (RB_14.out.under hb (Holds.lt RB_14.out))
 have HB_15:=lH (HB_14.out.trans (hb.mono HB_14.out.size))
 have Nx_15:=lH (Nx_14.out.under hb)
 have Ny_15:=lH (Ny_14.out.under hb)
 have Nz_15:=lH (Nz_14.out.under hb)
 have Nde_15:=lH (Nde_14.out.under hb)
 have Nga_15:=lH (Nga_14.out.under hb)
 have Nal_15:=lH (Nal_14.out.under hb)
 have Nfo_15:=lH (Nfo_14.out.under hb)
 have Np1_15:=lH (Np1_14.out.under hb)
 have Np2_15:=lH (Np2_14.out.under hb)
 clear BX_14 RB_14 HB_14 Nx_14 Ny_14 Nz_14 Nde_14 Nga_14 Nal_14 Nfo_14 Np1_14 Np2_14
 obtain ⟨X,eq_X⟩:∃ v_,v_=p2 - fo:=⟨_,rfl⟩
 rw [←eq_X] at hn
 have EX:=lH eq_X
 have NX_15:=lH hn
 clear hn hb eq_X
 clear Np1_15 Np2_15
 have BXc1:=BX_15.out.cell 1
 have BXc2:=BX_15.out.cell 2
 go_wp2_with fail
 refine (addRF W15 Ny_15.out Nz_15.out).mono ?_
 rintro e W16 ⟨Asz,csz,lsz,rfl,hn,hb⟩
 have BX_16:=lH (BX_15.out.under hb (Holds.lt BX_15.out))
 have RB_16:=lH (RB_15.out.under hb (Holds.lt RB_15.out))
 have HB_16:=lH (HB_15.out.trans (hb.mono HB_15.out.size))
 have Nx_16:=lH (Nx_15.out.under hb)
 have Ny_16:=lH (Ny_15.out.under hb)
 have Nz_16:=lH (Nz_15.out.under hb)
 have Nde_16:=lH (Nde_15.out.under hb)
 have Nga_16:=lH (Nga_15.out.under hb)
 have Nal_16:=lH (Nal_15.out.under hb)
 have Nfo_16:=lH (Nfo_15.out.under hb)
 have NX_16:=lH (NX_15.out.under hb)
 clear BX_15 RB_15 HB_15 Nx_15 Ny_15 Nz_15 Nde_15 Nga_15 Nal_15 Nfo_15 NX_15
 obtain ⟨sz,eq_sz⟩:∃ v_,v_=j.y+j.z:=⟨_,rfl⟩
 rw [←eq_sz] at hn
 have Esz:=lH eq_sz
 have Nsz_16:=lH hn
 clear hn hb eq_sz
 clear BXc1 BXc2
 go_wp2_with fail
 refine (mulRF W16 Nga_16.out Nga_16.out).mono ?_
 rintro e W17 ⟨Ag1,cg1,lg1,rfl,hn,hb⟩
 have BX_17:=lH (BX_16.out.under hb (Holds.lt BX_16.out))
 have RB_17:=lH (RB_16.out.under hb (Holds.lt RB_16.out))
 have HB_17:=lH (HB_16.out.trans (hb.mono HB_16.out.size))
 have Nx_17:=lH (Nx_16.out.under hb)
 have Ny_17:=lH (Ny_16.out.under hb)
 have Nz_17:=lH (Nz_16.out.under hb)
 have Nde_17:=lH (Nde_16.out.under hb)
 have Nga_17:=lH (Nga_16.out.under hb)
 have Nal_17:=lH (Nal_16.out.under hb)
 have Nfo_17:=lH (Nfo_16.out.under hb)
 have NX_17:=lH (NX_16.out.under hb)
 have Nsz_17:=lH (Nsz_16.out.under hb)
 clear BX_16 RB_16 HB_16 Nx_16 Ny_16 Nz_16 Nde_16 Nga_16 Nal_16 Nfo_16 NX_16 Nsz_16
 obtain ⟨g1,eq_g1⟩:∃ v_,v_=ga*ga:=⟨_,rfl⟩
 rw [←eq_g1] at hn
 have Eg1:=lH eq_g1
 have Ng1_17:=lH hn
 clear hn hb eq_g1
 go_wp2_with fail
 refine (addRF W17 Ng1_17.out Ng1_17.out).mono ?_
 rintro e W18 ⟨Ag2,cg2,lg2,rfl,hn,hb⟩
 have BX_18:=lH (BX_17.out.under hb (Holds.lt BX_17.out))
 have RB_18:=lH (RB_17.out.under hb (Holds.lt RB_17.out))
 have HB_18:=lH (HB_17.out.trans (hb.mono HB_17.out.size))
 have Nx_18:=lH (Nx_17.out.under hb)
 have Ny_18:=lH (Ny_17.out.under hb)
 have Nz_18:=lH (Nz_17.out.under hb)
 have Nde_18:=lH (Nde_17.out.under hb)
 have Nga_18:=lH (Nga_17.out.under hb)
 have Nal_18:=lH (Nal_17.out.under hb)
 have Nfo_18:=lH (Nfo_17.out.under hb)
 have NX_18:=lH (NX_17.out.under hb)
 have Nsz_18:=lH (Nsz_17.out.under hb)
 have Ng1_18:=lH (Ng1_17.out.under hb)
 clear BX_17 RB_17 HB_17 Nx_17 Ny_17 Nz_17 Nde_17 Nga_17 Nal_17 Nfo_17 NX_17 Nsz_17 Ng1_17
 obtain ⟨g2,eq_g2⟩:∃ v_,v_=g1+g1:=⟨_,rfl⟩
 rw [←eq_g2] at hn
 have Eg2:=lH eq_g2
 have Ng2_18:=lH hn
 clear hn hb eq_g2
 go_wp2_with fail
 refine (addRF W18 Ng2_18.out Ng2_18.out).mono ?_
 rintro e W19 ⟨Ag4,cg4,lg4,rfl,hn,hb⟩
 have BX_19:=lH (BX_18.out.under hb (Holds.lt BX_18.out))
 have RB_19:=lH (RB_18.out.under hb (Holds.lt RB_18.out))
 have HB_19:=lH (HB_18.out.trans (hb.mono HB_18.out.size))
 have Nx_19:=lH (Nx_18.out.under hb)
 have Ny_19:=lH (Ny_18.out.under hb)
 have Nz_19:=lH (Nz_18.out.under hb)
 have Nde_19:=lH (Nde_18.out.under hb)
 have Nga_19:=lH (Nga_18.out.under hb)
 have Nal_19:=lH (Nal_18.out.under hb)
 have Nfo_19:=lH (Nfo_18.out.under hb)
 have NX_19:=lH (NX_18.out.under hb)
 have Nsz_19:=lH (Nsz_18.out.under hb)
 have Ng1_19:=lH (Ng1_18.out.under hb)
 have Ng2_19:=lH (Ng2_18.out.under hb)
 clear BX_18 RB_18 HB_18 Nx_18 Ny_18 Nz_18 Nde_18 Nga_18 Nal_18 Nfo_18 NX_18 Nsz_18 Ng1_18 Ng2_18
 obtain ⟨g4,eq_g4⟩:∃ v_,v_=g2+g2:=⟨_,rfl⟩
 rw [←eq_g4] at hn
 have Eg4:=lH eq_g4
 have Ng4_19:=lH hn
 clear hn hb eq_g4
 clear Ng1_19 Ng2_19
 go_wp2_with fail
 refine (subRF W19 Nfo_19.out NX_19.out).mono ?_
 rintro e W20 ⟨Aq1,cq1,lq1,rfl,hn,hb⟩
 have BX_20:=lH (BX_19.out.under hb (Holds.lt BX_19.out))
 have RB_20:=lH (RB_19.out.under hb (Holds.lt RB_19.out))
 have HB_20:=lH (HB_19.out.trans (hb.mono HB_19.out.size))
 have Nx_20:=lH (Nx_19.out.under hb)
 have Ny_20:=lH (Ny_19.out.under hb)
 have Nz_20:=lH (Nz_19.out.under hb)
 have Nde_20:=lH (Nde_19.out.under hb)
 have Nga_20:=lH (Nga_19.out.under hb)
 have Nal_20:=lH (Nal_19.out.under hb)
 have Nfo_20:=lH (Nfo_19.out.under hb)
 have NX_20:=lH (NX_19.out.under hb)
 have Nsz_20:=lH (Nsz_19.out.under hb)
 have Ng4_20:=lH (Ng4_19.out.under hb)
 clear BX_19 RB_19 HB_19 Nx_19 Ny_19 Nz_19 Nde_19 Nga_19 Nal_19 Nfo_19 NX_19 Nsz_19 Ng4_19
 obtain ⟨q1,eq_q1⟩:∃ v_,v_=fo - X:=⟨_,rfl⟩
 rw [←eq_q1] at hn
 have Eq1:=lH eq_q1
 have Nq1_20:=lH hn
 clear hn hb eq_q1
 go_wp2_with fail
 refine (mulRF W20 Nal_20.out Nq1_20.out).mono ?_
 rintro e W21 ⟨Aq2,cq2,lq2,rfl,hn,hb⟩
 have BX_21:=lH (BX_20.out.under hb (Holds.lt BX_20.out))
 have RB_21:=lH (RB_20.out.under hb (Holds.lt RB_20.out))
 have HB_21:=lH (HB_20.out.trans (hb.mono HB_20.out.size))
 have Nx_21:=lH (Nx_20.out.under hb)
 have Ny_21:=lH (Ny_20.out.under hb)
 have Nz_21:=lH (Nz_20.out.under hb)
 have Nde_21:=lH (Nde_20.out.under hb)
 have Nga_21:=lH (Nga_20.out.under hb)
 have Nal_21:=lH (Nal_20.out.under hb)
 have Nfo_21:=lH (Nfo_20.out.under hb)
 have NX_21:=lH (NX_20.out.under hb)
 have Nsz_21:=lH (Nsz_20.out.under hb)
 have Ng4_21:=lH (Ng4_20.out.under hb)
 have Nq1_21:=lH (Nq1_20.out.under hb)
 clear BX_20 RB_20 HB_20 Nx_20 Ny_20 Nz_20 Nde_20 Nga_20 Nal_20 Nfo_20 NX_20 Nsz_20 Ng4_20 Nq1_20
 obtain ⟨q2,eq_q2⟩:∃ v_,v_=al*q1:=⟨_,rfl⟩
 rw [←eq_q2] at hn
 have Eq2:=lH eq_q2
 have Nq2_21:=lH hn
 clear hn hb eq_q2
 go_wp2_with fail
 refine (subRF W21 Nq2_21.out Ng4_21.out).mono ?_
 rintro e W22 ⟨Aq3,cq3,lq3,rfl,hn,hb⟩
 have BX_22:=lH (BX_21.out.under hb (Holds.lt BX_21.out))
 have RB_22:=lH (RB_21.out.under hb (Holds.lt RB_21.out))
 have HB_22:=lH (HB_21.out.trans (hb.mono HB_21.out.size))
 have Nx_22:=lH (Nx_21.out.under hb)
 have Ny_22:=lH (Ny_21.out.under hb)
 have Nz_22:=lH (Nz_21.out.under hb)
 have Nde_22:=lH (Nde_21.out.under hb)
 have Nga_22:=lH (Nga_21.out.under hb)
 have Nal_22:=lH (Nal_21.out.under hb)
 have Nfo_22:=lH (Nfo_21.out.under hb)
 have NX_22:=lH (NX_21.out.under hb)
 have Nsz_22:=lH (Nsz_21.out.under hb)
 have Ng4_22:=lH (Ng4_21.out.under hb)
 have Nq1_22:=lH (Nq1_21.out.under hb)
 have Nq2_22:=lH (Nq2_21.out.under hb)
 clear BX_21 RB_21 HB_21 Nx_21 Ny_21 Nz_21 Nde_21 Nga_21 Nal_21 Nfo_21 NX_21 Nsz_21 Ng4_21 Nq1_21 Nq2_21
 obtain ⟨q3,eq_q3⟩:∃ v_,v_=q2 - g4:=⟨_,rfl⟩
 rw [←eq_q3] at hn
 have Eq3:=lH eq_q3
 have Nq3_22:=lH hn
 clear hn hb eq_q3
 go_wp2_with fail
 refine (subRF W22 Nq3_22.out Ng4_22.out).mono ?_
 rintro e W23 ⟨AY,cY,lY,rfl,hn,hb⟩
 have BX_23:=lH (BX_22.out.under hb (Holds.lt BX_22.out))
 have RB_23:=lH (RB_22.out.under hb (Holds.lt RB_22.out))
 have HB_23:=lH (HB_22.out.trans (hb.mono HB_22.out.size))
 have Nx_23:=lH (Nx_22.out.under hb)
 have Ny_23:=lH (Ny_22.out.under hb)
 have Nz_23:=lH (Nz_22.out.under hb)
 have Nde_23:=lH (Nde_22.out.under hb)
 have Nga_23:=lH (Nga_22.out.under hb)
 have Nal_23:=lH (Nal_22.out.under hb)
 have Nfo_23:=lH (Nfo_22.out.under hb)
 have NX_23:=lH (NX_22.out.under hb)
 have Nsz_23:=lH (Nsz_22.out.under hb)
 have Ng4_23:=lH (Ng4_22.out.under hb)
 have Nq1_23:=lH (Nq1_22.out.under hb)
 have Nq2_23:=lH (Nq2_22.out.under hb)
 have Nq3_23:=lH (Nq3_22.out.under hb)
 clear BX_22 RB_22 HB_22 Nx_22 Ny_22 Nz_22 Nde_22 Nga_22 Nal_22 Nfo_22 NX_22 Nsz_22 Ng4_22 Nq1_22 Nq2_22 Nq3_22
 obtain ⟨Y,eq_Y⟩:∃ v_,v_=q3 - g4:=⟨_,rfl⟩
 rw [←eq_Y] at hn
 have EY:=lH eq_Y
 have NY_23:=lH hn
 clear hn hb eq_Y
 clear Nq1_23 Nq2_23 Nq3_23 Nal_23 Nfo_23
 go_wp2_with fail
 refine (mulRF W23 Nsz_23.out Nsz_23.out).mono ?_
 rintro e W24 ⟨Ar1,cr1,lr1,rfl,hn,hb⟩
 have BX_24:=lH (BX_23.out.under hb (Holds.lt BX_23.out))
 have RB_24:=lH (RB_23.out.under hb (Holds.lt RB_23.out))
 have HB_24:=lH (HB_23.out.trans (hb.mono HB_23.out.size))
 have Nx_24:=lH (Nx_23.out.under hb)
 have Ny_24:=lH (Ny_23.out.under hb)
 have Nz_24:=lH (Nz_23.out.under hb)
 have Nde_24:=lH (Nde_23.out.under hb)
 have Nga_24:=lH (Nga_23.out.under hb)
 have NX_24:=lH (NX_23.out.under hb)
 have Nsz_24:=lH (Nsz_23.out.under hb)
 have Ng4_24:=lH (Ng4_23.out.under hb)
 have NY_24:=lH (NY_23.out.under hb)
 clear BX_23 RB_23 HB_23 Nx_23 Ny_23 Nz_23 Nde_23 Nga_23 NX_23 Nsz_23 Ng4_23 NY_23
 obtain ⟨r1,eq_r1⟩:∃ v_,v_=sz*sz:=⟨_,rfl⟩
 rw [←eq_r1] at hn
 have Er1:=lH eq_r1
 have Nr1_24:=lH hn
 clear hn hb eq_r1
 go_wp2_with fail
 refine (subRF W24 Nr1_24.out Nga_24.out).mono ?_
 rintro e W25 ⟨Ar2,cr2,lr2,rfl,hn,hb⟩
 have BX_25:=lH (BX_24.out.under hb (Holds.lt BX_24.out))
 have RB_25:=lH (RB_24.out.under hb (Holds.lt RB_24.out))
 have HB_25:=lH (HB_24.out.trans (hb.mono HB_24.out.size))
 have Nx_25:=lH (Nx_24.out.under hb)
 have Ny_25:=lH (Ny_24.out.under hb)
 have Nz_25:=lH (Nz_24.out.under hb)
 have Nde_25:=lH (Nde_24.out.under hb)
 have Nga_25:=lH (Nga_24.out.under hb)
 have NX_25:=lH (NX_24.out.under hb)
 have Nsz_25:=lH (Nsz_24.out.under hb)
 have Ng4_25:=lH (Ng4_24.out.under hb)
 have NY_25:=lH (NY_24.out.under hb)
 have Nr1_25:=lH (Nr1_24.out.under hb)
 clear BX_24 RB_24 HB_24 Nx_24 Ny_24 Nz_24 Nde_24 Nga_24 NX_24 Nsz_24 Ng4_24 NY_24 Nr1_24
 obtain ⟨r2,eq_r2⟩:∃ v_,v_=r1 - ga:=⟨_,rfl⟩
 rw [←eq_r2] at hn
 have Er2:=lH eq_r2
 have Nr2_25:=lH hn
 clear hn hb eq_r2
 go_wp2_with fail
 refine (subRF W25 Nr2_25.out Nde_25.out).mono ?_
 rintro e W26 ⟨AZ,cZ,lZ,rfl,hn,hb⟩
 have BX_26:=lH (BX_25.out.under hb (Holds.lt BX_25.out))
 have RB_26:=lH (RB_25.out.under hb (Holds.lt RB_25.out))
 have HB_26:=lH (HB_25.out.trans (hb.mono HB_25.out.size))
 have Nx_26:=lH (Nx_25.out.under hb)
 have Ny_26:=lH (Ny_25.out.under hb)
 have Nz_26:=lH (Nz_25.out.under hb)
 have Nde_26:=lH (Nde_25.out.under hb)
 have Nga_26:=lH (Nga_25.out.under hb)
 have NX_26:=lH (NX_25.out.under hb)
 have Nsz_26:=lH (Nsz_25.out.under hb)
 have Ng4_26:=lH (Ng4_25.out.under hb)
 have NY_26:=lH (NY_25.out.under hb)
 have Nr1_26:=lH (Nr1_25.out.under hb)
 have Nr2_26:=lH (Nr2_25.out.under hb)
 clear BX_25 RB_25 HB_25 Nx_25 Ny_25 Nz_25 Nde_25 Nga_25 NX_25 Nsz_25 Ng4_25 NY_25 Nr1_25 Nr2_25
 obtain ⟨Z,eq_Z⟩:∃ v_,v_=r2 - de:=⟨_,rfl⟩
 rw [←eq_Z] at hn
 have EZ:=lH eq_Z
 have NZ_26:=lH hn
 clear hn hb eq_Z
 have z0:=RB_26.out.cell 0
 have z1:=RB_26.out.cell 1
 have z2:=RB_26.out.cell 2
 have o0:=RB_26.out.open_ 0
 have o1:=RB_26.out.open_ 1
 have o2:=RB_26.out.open_ 2
 go_wp2_with fail
 have hX:=NX_26.out.store3 RB_26.out no_nums3 (.slice AX lX.length cX) (.slice AY lY.length cY) (.slice AZ lZ.length cZ)
 have hY:=NY_26.out.store3 RB_26.out no_nums3 (.slice AX lX.length cX) (.slice AY lY.length cY) (.slice AZ lZ.length cZ)
 have hZ:=NZ_26.out.store3 RB_26.out no_nums3 (.slice AX lX.length cX) (.slice AY lY.length cY) (.slice AZ lZ.length cZ)
 refine ret_jac (g:=w.heap.size+1) rfl rfl (set3 RB_26.out _ _ _) rfl ⟨AX,cX,lX,AY,cY,lY,AZ,cZ,lZ,rfl,?_,?_,?_,below3 HB_26.out (by omega) _ _ _⟩
 ·have e:(Luc.dbl j).x=X:=by rw [EX.out,Ep2.out,Ep1.out,Efo.out,Ef1.out,Ef2.out,Eal.out,Es3.out,Es2.out,Es1.out,Ebe.out,Ega.out,Ede.out];exact (sub_two _ _).symm
  rw [e];exact hX
 ·have e:(Luc.dbl j).y=Y:=by rw [EY.out,Eq3.out,Eq2.out,Eq1.out,EX.out,Ep2.out,Ep1.out,Efo.out,Ef1.out,Ef2.out,Eal.out,Es3.out,Es2.out,Es1.out,Ebe.out,Eg4.out,Eg2.out,Eg1.out,Ega.out,Ede.out,sub_two,sub_two];rfl
  rw [e];exact hY
 ·have e:(Luc.dbl j).z=Z:=by rw [EZ.out,Er2.out,Er1.out,Esz.out,Ega.out,Ede.out];rfl
  rw [e];exact hZ
end Go.Proofs.YtflfdglpljodbaaDoor
namespace Go.Proofs.YtflfdglpljodbaaDoor
open Go.RowKit
set_option linter.unusedVariables false
set_option linter.unusedSimpArgs false
theorem mul_sw (a b:Luc.F):a*b=b*a:=by grind
theorem moreR_any (w:World) (j:Luc.Jc) (u v:Luc.F) {Ax Ay Az Au Av:Option Addr} {cx cy cz cu cv:Nat} {lx ly lz lu lv:List Nat} (hx:NR w Ax cx lx j.x) (hy:NR w Ay cy ly j.y) (hz:NR w Az cz lz j.z) (hu:NR w Au cu lu u) (hv:NR w Av cv lv v) :
  Calls Tryd.prog 39 #[.agg #[.slice Ax lx.length cx,.slice Ay ly.length cy,.slice Az lz.length cz],.agg #[.slice Au lu.length cu,.slice Av lv.length cv,.bool false]] w (JacP w (Luc.pls j u v)):=by
 obtain ⟨w1,hw1⟩:∃ W,W=w.alloc (.cells #[.slice Ax lx.length cx,.slice Ay ly.length cy,.slice Az lz.length cz] 58):=⟨_,rfl⟩
 have hz1:w1.heap.size=w.heap.size+1:=by rw [hw1];simp
 have hb1:Below w.heap.size w w1:=by rw [hw1];exact (Below.refl _ _).alloc (Nat.le_refl _) _
 obtain ⟨w2,hw2⟩:∃ W,W=w1.alloc (.cells #[.slice Au lu.length cu,.slice Av lv.length cv,.bool false] 26):=⟨_,rfl⟩
 have hz2:w2.heap.size=w.heap.size+1+1:=by rw [hw2];simp [hz1]
 have hb2:Below w.heap.size w w2:=by rw [hw2];exact hb1.alloc hb1.size _
 obtain ⟨W0,hw3⟩:∃ W,W=w2.alloc (.cells #[.slice none 0 0,.slice none 0 0,.slice none 0 0] 58):=⟨_,rfl⟩
 have hb3:Below w.heap.size w W0:=by rw [hw3];exact hb2.alloc hb2.size _
 have BX_0:Hid (Holds W0 w.heap.size 58 #[.slice Ax lx.length cx,.slice Ay ly.length cy,.slice Az lz.length cz]):=lH (by rw [hw3,hw2,hw1];exact ((Holds.fresh w _ _).alloc _).alloc _)
 have PB_0:Hid (Holds W0 (w.heap.size+1) 26 #[.slice Au lu.length cu,.slice Av lv.length cv,.bool false]):=lH (by rw [hw3,hw2,←hz1];exact (Holds.fresh w1 _ _).alloc _)
 have RB_0:Hid (Holds W0 (w.heap.size+1+1) 58 #[.slice none 0 0,.slice none 0 0,.slice none 0 0]):=lH (by rw [hw3,←hz2];exact Holds.fresh w2 _ _)
 have HB_0:=lH hb3
 have Nx_0:=lH (hx.under hb3)
 have Ny_0:=lH (hy.under hb3)
 have Nz_0:=lH (hz.under hb3)
 have Nu_0:=lH (hu.under hb3)
 have Nv_0:=lH (hv.under hb3)
 have HW:=lH (hw1 ▸ hw2 ▸ hw3:W0=((w.alloc (.cells #[.slice Ax lx.length cx,.slice Ay ly.length cy,.slice Az lz.length cz] 58)).alloc (.cells #[.slice Au lu.length cu,.slice Av lv.length cv,.bool false] 26)).alloc (.cells #[.slice none 0 0,.slice none 0 0,.slice none 0 0] 58))
 have HNU:=lH hu
 have HNV:=lH hv
 clear hx hy hz hu hv hw1 hz1 hb1 hw2 hz2 hb2 hw3 hb3
 go_enter Tryd.func39,Tryd.ntmps39
 by_cases hzn:j.z=0
 ·have e0:lz.length=0:=Nz_0.out.zero_iff.2 hzn
  have t1_z:((lz.length:Int) == 0)=true:=by rw [beq_iff_eq];omega
  have t2_z:decide ((lz.length:Int)=0)=true:=decide_eq_true (by omega)
  have HPL:Hid (Luc.pls j u v=⟨u,v,1⟩):=lH (by unfold Luc.pls;rw [if_pos hzn])
  clear e0 hzn
  have e2:((w.alloc (.cells #[.slice Ax lx.length cx,.slice Ay ly.length cy,.slice Az lz.length cz] 58)).alloc (.cells #[.slice Au lu.length cu,.slice Av lv.length cv,.bool false] 26)).heap.size=w.heap.size+1+1:=by simp
  have e3:(((w.alloc (.cells #[.slice Ax lx.length cx,.slice Ay ly.length cy,.slice Az lz.length cz] 58)).alloc (.cells #[.slice Au lu.length cu,.slice Av lv.length cv,.bool false] 26)).alloc (.cells #[.slice Au lu.length cu,.slice Av lv.length cv,.slice (some ⟨w.heap.size+1+1+1,0,none⟩) 1 1] 58)).heap.size=w.heap.size+1+1+1:=by simp
  have hR:=(Holds.fresh ((w.alloc (.cells #[.slice Ax lx.length cx,.slice Ay ly.length cy,.slice Az lz.length cz] 58)).alloc (.cells #[.slice Au lu.length cu,.slice Av lv.length cv,.bool false] 26)) 58 #[.slice Au lu.length cu,.slice Av lv.length cv,.slice (some ⟨w.heap.size+1+1+1,0,none⟩) 1 1]).alloc (.cells #[.int .u32 1] 22)
  rw [e2] at hR
  have h1:Row .u32 22 ((((w.alloc (.cells #[.slice Ax lx.length cx,.slice Ay ly.length cy,.slice Az lz.length cz] 58)).alloc (.cells #[.slice Au lu.length cu,.slice Av lv.length cv,.bool false] 26)).alloc (.cells #[.slice Au lu.length cu,.slice Av lv.length cv,.slice (some ⟨w.heap.size+1+1+1,0,none⟩) 1 1] 58)).alloc (.cells #[.int .u32 1] 22)) (w.heap.size+1+1+1) [1]:=by
   have h:=Holds.fresh (((w.alloc (.cells #[.slice Ax lx.length cx,.slice Ay ly.length cy,.slice Az lz.length cz] 58)).alloc (.cells #[.slice Au lu.length cu,.slice Av lv.length cv,.bool false] 26)).alloc (.cells #[.slice Au lu.length cu,.slice Av lv.length cv,.slice (some ⟨w.heap.size+1+1+1,0,none⟩) 1 1] 58)) 22 #[.int .u32 1]
   rw [e3] at h
   exact h
  have hB:Below w.heap.size w ((((w.alloc (.cells #[.slice Ax lx.length cx,.slice Ay ly.length cy,.slice Az lz.length cz] 58)).alloc (.cells #[.slice Au lu.length cu,.slice Av lv.length cv,.bool false] 26)).alloc (.cells #[.slice Au lu.length cu,.slice Av lv.length cv,.slice (some ⟨w.heap.size+1+1+1,0,none⟩) 1 1] 58)).alloc (.cells #[.int .u32 1] 22)):=((((Below.refl _ _).alloc (Nat.le_refl _) _).alloc (by simp) _).alloc (by simp;omega) _).alloc (by simp;omega) _
  have HR:=lH hR
  have H1:=lH h1
  have HB:=lH hB
  clear e2 e3 hR h1 hB
  go_wp2_with fail
  refine ret_jac (g:=w.heap.size+1+1) rfl rfl HR.out rfl ⟨Au,cu,lu,Av,cv,lv,some ⟨w.heap.size+1+1+1,0,none⟩,1,[1],rfl,?_,?_,?_,HB.out⟩
  ·rw [HPL.out];exact HNU.out.under HB.out
  ·rw [HPL.out];exact HNV.out.under HB.out
  ·rw [HPL.out];exact ⟨(rd_whole H1.out (by simp) (by simp)).more (Holds.lt H1.out),num_unit⟩
 have e0:¬ lz.length=0:=fun e=>hzn (Nz_0.out.zero_iff.1 e)
 have t1_z:((lz.length:Int) == 0)=false:=by rw [beq_eq_false_iff_ne];omega
 have t2_z:decide ((lz.length:Int)=0)=false:=decide_eq_false (by omega)
 have HZN:=lH hzn
 clear e0 hzn HNU HNV
 go_wp2_with fail
 rw [←HW.out]
 clear HW
 have BXc2:=BX_0.out.cell 2
 go_wp2_with fail
 refine (mulRF W0 Nz_0.out Nz_0.out).mono ?_
 rintro e W1 ⟨Azz,czz,lzz,rfl,hn,hb⟩
 have BX_1:=lH (BX_0.out.under hb (Holds.lt BX_0.out))
 have PB_1:=lH (PB_0.out.under hb (Holds.lt PB_0.out))
 have RB_1:=lH (RB_0.out.under hb (Holds.lt RB_0.out))
 have HB_1:=lH (HB_0.out.trans (hb.mono HB_0.out.size))
 have Nx_1:=lH (Nx_0.out.under hb)
 have Ny_1:=lH (Ny_0.out.under hb)
 have Nz_1:=lH (Nz_0.out.under hb)
 have Nu_1:=lH (Nu_0.out.under hb)
 have Nv_1:=lH (Nv_0.out.under hb)
 clear BX_0 PB_0 RB_0 HB_0 Nx_0 Ny_0 Nz_0 Nu_0 Nv_0
 obtain ⟨zz,eq_zz⟩:∃ v_,v_=j.z*j.z:=⟨_,rfl⟩
 rw [←eq_zz] at hn
 have Ezz:=lH eq_zz
 have Nzz_1:=lH hn
 clear hn hb eq_zz
 clear BXc2
 go_wp2_with fail
 refine wp_region_noPanic ?_
 refine wp_region_held_drew (S:=fun W=>Holds W w.heap.size 58 #[.slice Ax lx.length cx,.slice Ay ly.length cy,.slice Az lz.length cz]∧Holds W (w.heap.size+1) 26 #[.slice Au lu.length cu,.slice Av lv.length cv,.bool false]∧True) (by kernel_rfl) (⟨BX_1.out,PB_1.out,trivial⟩) (fun hHeld=>?_)
 obtain ⟨W2,hV⟩:∃ W,W=W1.drew:=⟨_,rfl⟩
 rw [←hV]
 have hdr:Below W1.heap.size W1 W2:=by rw [hV];exact (Below.refl _ W1).drew
 have BX_2:=lH (BX_1.out.under hdr (Holds.lt BX_1.out))
 have PB_2:=lH (PB_1.out.under hdr (Holds.lt PB_1.out))
 have RB_2:=lH (RB_1.out.under hdr (Holds.lt RB_1.out))
 have HB_2:=lH (HB_1.out.trans (hdr.mono HB_1.out.size))
 have Nx_2:=lH (Nx_1.out.under hdr)
 have Ny_2:=lH (Ny_1.out.under hdr)
 have Nz_2:=lH (Nz_1.out.under hdr)
 have Nu_2:=lH (Nu_1.out.under hdr)
 have Nv_2:=lH (Nv_1.out.under hdr)
 have Nzz_2:=lH (Nzz_1.out.under hdr)
 clear BX_1 PB_1 RB_1 HB_1 Nx_1 Ny_1 Nz_1 Nu_1 Nv_1 Nzz_1
 have HS2:Hid ((fun W=>Holds W w.heap.size 58 #[.slice Ax lx.length cx,.slice Ay ly.length cy,.slice Az lz.length cz]∧Holds W (w.heap.size+1) 26 #[.slice Au lu.length cu,.slice Av lv.length cv,.bool false]∧True) W2):=lH ⟨BX_2.out,PB_2.out,trivial⟩
 replace hHeld:(fun W=>Holds W w.heap.size 58 #[.slice Ax lx.length cx,.slice Ay ly.length cy,.slice Az lz.length cz]∧Holds W (w.heap.size+1) 26 #[.slice Au lu.length cu,.slice Av lv.length cv,.bool false]∧True) W2:=HS2.out
 clear hV hdr
 refine tk 0 ⟨some 27,.fieldAddr 26 (.tmp 3) 0,0,_,_,none⟩ ?_ rfl ?_ hHeld ?_
 rotate_left 1
 ·(intro W hW;(try dsimp only at hW);go_simp;try with_reducible rfl)
 try simp only [aP]
 refine tk 1 ⟨some 28,.load 24 (.tmp 27),24,_,_,none⟩ ?_ rfl ?_ hHeld ?_
 rotate_left 1
 ·(intro W hW;have hcc:=hW.2.1.cell 0;(try dsimp only at hW);go_simp;try with_reducible rfl)
 try simp only [aP]
 refine tk 2 ⟨some 29,.move (.tmp 5),24,_,_,none⟩ ?_ rfl ?_ hHeld ?_
 rotate_left 1
 ·(intro W hW;(try dsimp only at hW);go_simp;try with_reducible rfl)
 try simp only [aP]
 refine tk 4 ⟨some 31,.fieldAddr 58 (.tmp 2) 0,0,_,_,none⟩ ?_ rfl ?_ hHeld ?_
 rotate_left 1
 ·(intro W hW;(try dsimp only at hW);go_simp;try with_reducible rfl)
 try simp only [aP]
 refine tk 5 ⟨some 32,.load 24 (.tmp 31),24,_,_,none⟩ ?_ rfl ?_ hHeld ?_
 rotate_left 1
 ·(intro W hW;have hcc:=hW.1.cell 0;(try dsimp only at hW);go_simp;try with_reducible rfl)
 try simp only [aP]
 refine tk 7 ⟨some 34,.fieldAddr 26 (.tmp 3) 1,0,_,_,none⟩ ?_ rfl ?_ hHeld ?_
 rotate_left 1
 ·(intro W hW;(try dsimp only at hW);go_simp;try with_reducible rfl)
 try simp only [aP]
 refine tk 8 ⟨some 35,.load 24 (.tmp 34),24,_,_,none⟩ ?_ rfl ?_ hHeld ?_
 rotate_left 1
 ·(intro W hW;have hcc:=hW.2.1.cell 1;(try dsimp only at hW);go_simp;try with_reducible rfl)
 try simp only [aP]
 refine tk 9 ⟨some 36,.move (.tmp 5),24,_,_,none⟩ ?_ rfl ?_ hHeld ?_
 rotate_left 1
 ·(intro W hW;(try dsimp only at hW);go_simp;try with_reducible rfl)
 try simp only [aP]
 refine tk 10 ⟨some 37,.fieldAddr 58 (.tmp 2) 2,0,_,_,none⟩ ?_ rfl ?_ hHeld ?_
 rotate_left 1
 ·(intro W hW;(try dsimp only at hW);go_simp;try with_reducible rfl)
 try simp only [aP]
 refine tk 11 ⟨some 38,.load 24 (.tmp 37),24,_,_,none⟩ ?_ rfl ?_ hHeld ?_
 rotate_left 1
 ·(intro W hW;have hcc:=hW.1.cell 2;(try dsimp only at hW);go_simp;try with_reducible rfl)
 try simp only [aP]
 refine tk 14 ⟨some 41,.fieldAddr 58 (.tmp 2) 1,0,_,_,none⟩ ?_ rfl ?_ hHeld ?_
 rotate_left 1
 ·(intro W hW;(try dsimp only at hW);go_simp;try with_reducible rfl)
 try simp only [aP]
 refine tk 15 ⟨some 42,.load 24 (.tmp 41),24,_,_,none⟩ ?_ rfl ?_ hHeld ?_
 rotate_left 1
 ·(intro W hW;have hcc:=hW.1.cell 1;(try dsimp only at hW);go_simp;try with_reducible rfl)
 try simp only [aP]
 refine rdy 3 ⟨some 30,.call ⟨ .value (.func 46),#[.tmp 28,.tmp 29],#[24,24]⟩,24,_,_,none⟩ rfl (fun K hK=>?_)
 go_simp
 refine (mulRF W2 Nu_2.out Nzz_2.out).mono ?_
 rintro e W3 ⟨Am1,cm1,lm1,rfl,hn,hb⟩
 have BX_3:=lH (BX_2.out.under hb (Holds.lt BX_2.out))
 have PB_3:=lH (PB_2.out.under hb (Holds.lt PB_2.out))
 have RB_3:=lH (RB_2.out.under hb (Holds.lt RB_2.out))
 have HB_3:=lH (HB_2.out.trans (hb.mono HB_2.out.size))
 have Nx_3:=lH (Nx_2.out.under hb)
 have Ny_3:=lH (Ny_2.out.under hb)
 have Nz_3:=lH (Nz_2.out.under hb)
 have Nu_3:=lH (Nu_2.out.under hb)
 have Nv_3:=lH (Nv_2.out.under hb)
 have Nzz_3:=lH (Nzz_2.out.under hb)
 clear BX_2 PB_2 RB_2 HB_2 Nx_2 Ny_2 Nz_2 Nu_2 Nv_2 Nzz_2
 obtain ⟨m1,eq_m1⟩:∃ v_,v_=u*zz:=⟨_,rfl⟩
 rw [←eq_m1] at hn
 have Em1:=lH eq_m1
 have Nm1_3:=lH hn
 clear hn hb eq_m1
 have HS3:Hid ((fun W=>Holds W w.heap.size 58 #[.slice Ax lx.length cx,.slice Ay ly.length cy,.slice Az lz.length cz]∧Holds W (w.heap.size+1) 26 #[.slice Au lu.length cu,.slice Av lv.length cv,.bool false]∧True) W3):=lH ⟨BX_3.out,PB_3.out,trivial⟩
 go_simp
 refine hK.out _ _ (HS3.out) (fun hHeld=>?_)
 clear hK K
 try simp only [aP]
 refine rdy 6 ⟨some 33,.call ⟨ .value (.func 48),#[.tmp 30,.tmp 32],#[24,24]⟩,24,_,_,none⟩ rfl (fun K hK=>?_)
 go_simp
 refine (subRF W3 Nm1_3.out Nx_3.out).mono ?_
 rintro e W4 ⟨Aah,cah,lah,rfl,hn,hb⟩
 have BX_4:=lH (BX_3.out.under hb (Holds.lt BX_3.out))
 have PB_4:=lH (PB_3.out.under hb (Holds.lt PB_3.out))
 have RB_4:=lH (RB_3.out.under hb (Holds.lt RB_3.out))
 have HB_4:=lH (HB_3.out.trans (hb.mono HB_3.out.size))
 have Nx_4:=lH (Nx_3.out.under hb)
 have Ny_4:=lH (Ny_3.out.under hb)
 have Nz_4:=lH (Nz_3.out.under hb)
 have Nu_4:=lH (Nu_3.out.under hb)
 have Nv_4:=lH (Nv_3.out.under hb)
 have Nzz_4:=lH (Nzz_3.out.under hb)
 have Nm1_4:=lH (Nm1_3.out.under hb)
 clear BX_3 PB_3 RB_3 HB_3 Nx_3 Ny_3 Nz_3 Nu_3 Nv_3 Nzz_3 Nm1_3
 obtain ⟨ah,eq_ah⟩:∃ v_,v_=m1 - j.x:=⟨_,rfl⟩
 rw [←eq_ah] at hn
 have Eah:=lH eq_ah
 have Nah_4:=lH hn
 clear hn hb eq_ah
 have HS4:Hid ((fun W=>Holds W w.heap.size 58 #[.slice Ax lx.length cx,.slice Ay ly.length cy,.slice Az lz.length cz]∧Holds W (w.heap.size+1) 26 #[.slice Au lu.length cu,.slice Av lv.length cv,.bool false]∧True) W4):=lH ⟨BX_4.out,PB_4.out,trivial⟩
 go_simp
 refine hK.out _ _ (HS4.out) (fun hHeld=>?_)
 clear hK K
 try simp only [aP]
 refine rdy 12 ⟨some 39,.call ⟨ .value (.func 46),#[.tmp 36,.tmp 38],#[24,24]⟩,24,_,_,none⟩ rfl (fun K hK=>?_)
 go_simp
 refine (mulRF W4 Nzz_4.out Nz_4.out).mono ?_
 rintro e W5 ⟨Azzz,czzz,lzzz,rfl,hn,hb⟩
 have BX_5:=lH (BX_4.out.under hb (Holds.lt BX_4.out))
 have PB_5:=lH (PB_4.out.under hb (Holds.lt PB_4.out))
 have RB_5:=lH (RB_4.out.under hb (Holds.lt RB_4.out))
 have HB_5:=lH (HB_4.out.trans (hb.mono HB_4.out.size))
 have Nx_5:=lH (Nx_4.out.under hb)
 have Ny_5:=lH (Ny_4.out.under hb)
 have Nz_5:=lH (Nz_4.out.under hb)
 have Nu_5:=lH (Nu_4.out.under hb)
 have Nv_5:=lH (Nv_4.out.under hb)
 have Nzz_5:=lH (Nzz_4.out.under hb)
 have Nm1_5:=lH (Nm1_4.out.under hb)
 have Nah_5:=lH (Nah_4.out.under hb)
 clear BX_4 PB_4 RB_4 HB_4 Nx_4 Ny_4 Nz_4 Nu_4 Nv_4 Nzz_4 Nm1_4 Nah_4
 obtain ⟨zzz,eq_zzz⟩:∃ v_,v_=zz*j.z:=⟨_,rfl⟩
 rw [←eq_zzz] at hn
 have Ezzz:=lH eq_zzz
 have Nzzz_5:=lH hn
 clear hn hb eq_zzz
 have HS5:Hid ((fun W=>Holds W w.heap.size 58 #[.slice Ax lx.length cx,.slice Ay ly.length cy,.slice Az lz.length cz]∧Holds W (w.heap.size+1) 26 #[.slice Au lu.length cu,.slice Av lv.length cv,.bool false]∧True) W5):=lH ⟨BX_5.out,PB_5.out,trivial⟩
 go_simp
 refine hK.out _ _ (HS5.out) (fun hHeld=>?_)
 clear hK K
 try simp only [aP]
 refine rdy 13 ⟨some 40,.call ⟨ .value (.func 46),#[.tmp 35,.tmp 39],#[24,24]⟩,24,_,_,none⟩ rfl (fun K hK=>?_)
 go_simp
 refine (mulRF W5 Nv_5.out Nzzz_5.out).mono ?_
 rintro e W6 ⟨Am2,cm2,lm2,rfl,hn,hb⟩
 have BX_6:=lH (BX_5.out.under hb (Holds.lt BX_5.out))
 have PB_6:=lH (PB_5.out.under hb (Holds.lt PB_5.out))
 have RB_6:=lH (RB_5.out.under hb (Holds.lt RB_5.out))
 have HB_6:=lH (HB_5.out.trans (hb.mono HB_5.out.size))
 have Nx_6:=lH (Nx_5.out.under hb)
 have Ny_6:=lH (Ny_5.out.under hb)
 have Nz_6:=lH (Nz_5.out.under hb)
 have Nu_6:=lH (Nu_5.out.under hb)
 have Nv_6:=lH (Nv_5.out.under hb)
 have Nzz_6:=lH (Nzz_5.out.under hb)
 have Nm1_6:=lH (Nm1_5.out.under hb)
 have Nah_6:=lH (Nah_5.out.under hb)
 have Nzzz_6:=lH (Nzzz_5.out.under hb)
 clear BX_5 PB_5 RB_5 HB_5 Nx_5 Ny_5 Nz_5 Nu_5 Nv_5 Nzz_5 Nm1_5 Nah_5 Nzzz_5
 obtain ⟨m2,eq_m2⟩:∃ v_,v_=v*zzz:=⟨_,rfl⟩
 rw [←eq_m2] at hn
 have Em2:=lH eq_m2
 have Nm2_6:=lH hn
 clear hn hb eq_m2
 have HS6:Hid ((fun W=>Holds W w.heap.size 58 #[.slice Ax lx.length cx,.slice Ay ly.length cy,.slice Az lz.length cz]∧Holds W (w.heap.size+1) 26 #[.slice Au lu.length cu,.slice Av lv.length cv,.bool false]∧True) W6):=lH ⟨BX_6.out,PB_6.out,trivial⟩
 go_simp
 refine hK.out _ _ (HS6.out) (fun hHeld=>?_)
 clear hK K
 try simp only [aP]
 refine rdy 16 ⟨some 43,.call ⟨ .value (.func 48),#[.tmp 40,.tmp 42],#[24,24]⟩,24,_,_,none⟩ rfl (fun K hK=>?_)
 go_simp
 refine (subRF W6 Nm2_6.out Ny_6.out).mono ?_
 rintro e W7 ⟨Aar,car,lar,rfl,hn,hb⟩
 have BX_7:=lH (BX_6.out.under hb (Holds.lt BX_6.out))
 have PB_7:=lH (PB_6.out.under hb (Holds.lt PB_6.out))
 have RB_7:=lH (RB_6.out.under hb (Holds.lt RB_6.out))
 have HB_7:=lH (HB_6.out.trans (hb.mono HB_6.out.size))
 have Nx_7:=lH (Nx_6.out.under hb)
 have Ny_7:=lH (Ny_6.out.under hb)
 have Nz_7:=lH (Nz_6.out.under hb)
 have Nu_7:=lH (Nu_6.out.under hb)
 have Nv_7:=lH (Nv_6.out.under hb)
 have Nzz_7:=lH (Nzz_6.out.under hb)
 have Nm1_7:=lH (Nm1_6.out.under hb)
 have Nah_7:=lH (Nah_6.out.under hb)
 have Nzzz_7:=lH (Nzzz_6.out.under hb)
 have Nm2_7:=lH (Nm2_6.out.under hb)
 clear BX_6 PB_6 RB_6 HB_6 Nx_6 Ny_6 Nz_6 Nu_6 Nv_6 Nzz_6 Nm1_6 Nah_6 Nzzz_6 Nm2_6
 obtain ⟨ar,eq_ar⟩:∃ v_,v_=m2 - j.y:=⟨_,rfl⟩
 rw [←eq_ar] at hn
 have Ear:=lH eq_ar
 have Nar_7:=lH hn
 clear hn hb eq_ar
 have HS7:Hid ((fun W=>Holds W w.heap.size 58 #[.slice Ax lx.length cx,.slice Ay ly.length cy,.slice Az lz.length cz]∧Holds W (w.heap.size+1) 26 #[.slice Au lu.length cu,.slice Av lv.length cv,.bool false]∧True) W7):=lH ⟨BX_7.out,PB_7.out,trivial⟩
 go_simp
 refine hK.out _ _ (HS7.out) (fun hHeld=>?_)
 clear hK K
 try simp only [aP]
 refine tk 17 ⟨some 6,.assign (.tmp 33),24,_,_,none⟩ ?_ rfl ?_ hHeld ?_
 rotate_left 1
 ·(intro W hW;(try dsimp only at hW);go_simp;try with_reducible rfl)
 try simp only [aP]
 refine tk 18 ⟨some 7,.assign (.tmp 43),24,_,_,none⟩ ?_ rfl ?_ hHeld ?_
 rotate_left 1
 ·(intro W hW;(try dsimp only at hW);go_simp;try with_reducible rfl)
 try simp only [aP]
 refine wpAnyH_done (by kernel_rfl) ?_ _
 refine NoPanic.normal ?_
 by_cases hcz:ah=0
 ·have e0:lah.length=0:=Nah_7.out.zero_iff.2 hcz
  have t1_ah:((lah.length:Int) == 0)=true:=by rw [beq_iff_eq];omega
  have t2_ah:decide ((lah.length:Int)=0)=true:=decide_eq_true (by omega)
  clear e0
  by_cases hr0:ar=0
  ·have e0:lar.length=0:=Nar_7.out.zero_iff.2 hr0
   have t1_ar:((lar.length:Int) == 0)=true:=by rw [beq_iff_eq];omega
   have t2_ar:decide ((lar.length:Int)=0)=true:=decide_eq_true (by omega)
   have HPL:Hid (Luc.pls j u v=Luc.dbl j):=lH (by
    unfold Luc.pls
    rw [if_neg HZN.out]
    simp only
    rw [if_pos (by rw [←Ezz.out,←Em1.out,←Eah.out];exact hcz),if_pos (by rw [←Ezz.out,←Ezzz.out,←Em2.out,←Ear.out];exact hr0)])
   have c0:=BX_7.out.cell 0
   have c1:=BX_7.out.cell 1
   have c2:=BX_7.out.cell 2
   have HTW:=lH (twiceR_any W7 j Nx_7.out Ny_7.out Nz_7.out)
   clear e0 hr0 hcz
   go_wp2_with fail
   refine HTW.out.mono ?_
   rintro e W9 ⟨A1,c1,l1,A2,c2,l2,A3,c3,l3,rfl,q1,q2,q3,hb⟩
   have RB:=lH (RB_7.out.under hb (Holds.lt RB_7.out))
   have HB:=lH (HB_7.out.trans (hb.mono HB_7.out.size))
   clear hb HTW
   have z0:=RB.out.cell 0
   have z1:=RB.out.cell 1
   have z2:=RB.out.cell 2
   have o0:=RB.out.open_ 0
   have o1:=RB.out.open_ 1
   have o2:=RB.out.open_ 2
   have Q1:=lH q1
   have Q2:=lH q2
   have Q3:=lH q3
   clear q1 q2 q3
   go_wp2_with fail
   have hX:=Q1.out.store3 RB.out no_nums3 (.slice A1 l1.length c1) (.slice A2 l2.length c2) (.slice A3 l3.length c3)
   have hY:=Q2.out.store3 RB.out no_nums3 (.slice A1 l1.length c1) (.slice A2 l2.length c2) (.slice A3 l3.length c3)
   have hZ:=Q3.out.store3 RB.out no_nums3 (.slice A1 l1.length c1) (.slice A2 l2.length c2) (.slice A3 l3.length c3)
   refine ret_jac (g:=w.heap.size+1+1) rfl rfl (set3 RB.out _ _ _) rfl ⟨A1,c1,l1,A2,c2,l2,A3,c3,l3,rfl,?_,?_,?_,below3 HB.out (by omega) _ _ _⟩
   ·rw [HPL.out];exact hX
   ·rw [HPL.out];exact hY
   ·rw [HPL.out];exact hZ
  ·have e0:¬ lar.length=0:=fun e=>hr0 (Nar_7.out.zero_iff.1 e)
   have t1_ar:((lar.length:Int) == 0)=false:=by rw [beq_eq_false_iff_ne];omega
   have t2_ar:decide ((lar.length:Int)=0)=false:=decide_eq_false (by omega)
   have HPL:Hid (Luc.pls j u v=⟨0,0,0⟩):=lH (by
    unfold Luc.pls
    rw [if_neg HZN.out]
    simp only
    rw [if_pos (by rw [←Ezz.out,←Em1.out,←Eah.out];exact hcz),if_neg (by rw [←Ezz.out,←Ezzz.out,←Em2.out,←Ear.out];exact hr0)])
   clear e0 hr0 hcz
   have z0:=RB_7.out.cell 0
   have z1:=RB_7.out.cell 1
   have z2:=RB_7.out.cell 2
   have o0:=RB_7.out.open_ 0
   have o1:=RB_7.out.open_ 1
   have o2:=RB_7.out.open_ 2
   go_wp2_with fail
   refine ret_jac (g:=w.heap.size+1+1) rfl rfl (set3 RB_7.out _ _ _) rfl ⟨none,0,[],none,0,[],none,0,[],rfl,?_,?_,?_,below3 HB_7.out (by omega) _ _ _⟩
   ·rw [HPL.out];exact NR.nought _
   ·rw [HPL.out];exact NR.nought _
   ·rw [HPL.out];exact NR.nought _
 have e0:¬ lah.length=0:=fun e=>hcz (Nah_7.out.zero_iff.1 e)
 have t1_ah:((lah.length:Int) == 0)=false:=by rw [beq_eq_false_iff_ne];omega
 have t2_ah:decide ((lah.length:Int)=0)=false:=decide_eq_false (by omega)
 have HCZ:=lH hcz
 clear e0 hcz
 go_wp2_with fail
 refine (mulRF W7 Nah_7.out Nah_7.out).mono ?_
 rintro e W8 ⟨Abh,cbh,lbh,rfl,hn,hb⟩
 have BX_8:=lH (BX_7.out.under hb (Holds.lt BX_7.out))
 have PB_8:=lH (PB_7.out.under hb (Holds.lt PB_7.out))
 have RB_8:=lH (RB_7.out.under hb (Holds.lt RB_7.out))
 have HB_8:=lH (HB_7.out.trans (hb.mono HB_7.out.size))
 have Nx_8:=lH (Nx_7.out.under hb)
 have Ny_8:=lH (Ny_7.out.under hb)
 have Nz_8:=lH (Nz_7.out.under hb)
 have Nu_8:=lH (Nu_7.out.under hb)
 have Nv_8:=lH (Nv_7.out.under hb)
 have Nzz_8:=lH (Nzz_7.out.under hb)
 have Nm1_8:=lH (Nm1_7.out.under hb)
 have Nah_8:=lH (Nah_7.out.under hb)
 have Nzzz_8:=lH (Nzzz_7.out.under hb)
 have Nm2_8:=lH (Nm2_7.out.under hb)
 have Nar_8:=lH (Nar_7.out.under hb)
 clear BX_7 PB_7 RB_7 HB_7 Nx_7 Ny_7 Nz_7 Nu_7 Nv_7 Nzz_7 Nm1_7 Nah_7 Nzzz_7 Nm2_7 Nar_7
 obtain ⟨bh,eq_bh⟩:∃ v_,v_=ah*ah:=⟨_,rfl⟩
 rw [←eq_bh] at hn
 have Ebh:=lH eq_bh
 have Nbh_8:=lH hn
 clear hn hb eq_bh
 have BXc0:=BX_8.out.cell 0
 go_wp2_with fail
 refine (mulRF W8 Nx_8.out Nbh_8.out).mono ?_
 rintro e W9 ⟨Avv,cvv,lvv,rfl,hn,hb⟩
 have BX_9:=lH (BX_8.out.under hb (Holds.lt BX_8.out))
 have PB_9:=lH (PB_8.out.under hb (Holds.lt PB_8.out))
 have RB_9:=lH (RB_8.out.under hb (Holds.lt RB_8.out))
 have HB_9:=lH (HB_8.out.trans (hb.mono HB_8.out.size))
 have Nx_9:=lH (Nx_8.out.under hb)
 have Ny_9:=lH (Ny_8.out.under hb)
 have Nz_9:=lH (Nz_8.out.under hb)
 have Nu_9:=lH (Nu_8.out.under hb)
 have Nv_9:=lH (Nv_8.out.under hb)
 have Nzz_9:=lH (Nzz_8.out.under hb)
 have Nm1_9:=lH (Nm1_8.out.under hb)
 have Nah_9:=lH (Nah_8.out.under hb)
 have Nzzz_9:=lH (Nzzz_8.out.under hb)
 have Nm2_9:=lH (Nm2_8.out.under hb)
 have Nar_9:=lH (Nar_8.out.under hb)
 have Nbh_9:=lH (Nbh_8.out.under hb)
 clear BX_8 PB_8 RB_8 HB_8 Nx_8 Ny_8 Nz_8 Nu_8 Nv_8 Nzz_8 Nm1_8 Nah_8 Nzzz_8 Nm2_8 Nar_8 Nbh_8
 obtain ⟨vv,eq_vv⟩:∃ v_,v_=j.x*bh:=⟨_,rfl⟩
 rw [←eq_vv] at hn
 have Evv:=lH eq_vv
 have Nvv_9:=lH hn
 clear hn hb eq_vv
 clear BXc0
 go_wp2_with fail
 refine (mulRF W9 Nah_9.out Nbh_9.out).mono ?_
 rintro e W10 ⟨Ach,cch,lch,rfl,hn,hb⟩
 have BX_10:=lH (BX_9.out.under hb (Holds.lt BX_9.out))
 have PB_10:=lH (PB_9.out.under hb (Holds.lt PB_9.out))
 have RB_10:=lH (RB_9.out.under hb (Holds.lt RB_9.out))
 have HB_10:=lH (HB_9.out.trans (hb.mono HB_9.out.size))
 have Nx_10:=lH (Nx_9.out.under hb)
 have Ny_10:=lH (Ny_9.out.under hb)
 have Nz_10:=lH (Nz_9.out.under hb)
 have Nu_10:=lH (Nu_9.out.under hb)
 have Nv_10:=lH (Nv_9.out.under hb)
 have Nzz_10:=lH (Nzz_9.out.under hb)
 have Nm1_10:=lH (Nm1_9.out.under hb)
 have Nah_10:=lH (Nah_9.out.under hb)
 have Nzzz_10:=lH (Nzzz_9.out.under hb)
 have Nm2_10:=lH (Nm2_9.out.under hb)
 have Nar_10:=lH (Nar_9.out.under hb)
 have Nbh_10:=lH (Nbh_9.out.under hb)
 have Nvv_10:=lH (Nvv_9.out.under hb)
 clear BX_9 PB_9 RB_9 HB_9 Nx_9 Ny_9 Nz_9 Nu_9 Nv_9 Nzz_9 Nm1_9 Nah_9 Nzzz_9 Nm2_9 Nar_9 Nbh_9 Nvv_9
 obtain ⟨ch,eq_ch⟩:∃ v_,v_=ah*bh:=⟨_,rfl⟩
 rw [←eq_ch] at hn
 have Ech:=lH eq_ch
 have Nch_10:=lH hn
 clear hn hb eq_ch
 go_wp2_with fail
 refine (mulRF W10 Nar_10.out Nar_10.out).mono ?_
 rintro e W11 ⟨Arr,crr,lrr,rfl,hn,hb⟩
 have BX_11:=lH (BX_10.out.under hb (Holds.lt BX_10.out))
 have PB_11:=lH (PB_10.out.under hb (Holds.lt PB_10.out))
 have RB_11:=lH (RB_10.out.under hb (Holds.lt RB_10.out))
 have HB_11:=lH (HB_10.out.trans (hb.mono HB_10.out.size))
 have Nx_11:=lH (Nx_10.out.under hb)
 have Ny_11:=lH (Ny_10.out.under hb)
 have Nz_11:=lH (Nz_10.out.under hb)
 have Nu_11:=lH (Nu_10.out.under hb)
 have Nv_11:=lH (Nv_10.out.under hb)
 have Nzz_11:=lH (Nzz_10.out.under hb)
 have Nm1_11:=lH (Nm1_10.out.under hb)
 have Nah_11:=lH (Nah_10.out.under hb)
 have Nzzz_11:=lH (Nzzz_10.out.under hb)
 have Nm2_11:=lH (Nm2_10.out.under hb)
 have Nar_11:=lH (Nar_10.out.under hb)
 have Nbh_11:=lH (Nbh_10.out.under hb)
 have Nvv_11:=lH (Nvv_10.out.under hb)
 have Nch_11:=lH (Nch_10.out.under hb)
 clear BX_10 PB_10 RB_10 HB_10 Nx_10 Ny_10 Nz_10 Nu_10 Nv_10 Nzz_10 Nm1_10 Nah_10 Nzzz_10 Nm2_10 Nar_10 Nbh_10 Nvv_10 Nch_10
 obtain ⟨rr,eq_rr⟩:∃ v_,v_=ar*ar:=⟨_,rfl⟩
 rw [←eq_rr] at hn
 have Err:=lH eq_rr
 have Nrr_11:=lH hn
 clear hn hb eq_rr
 go_wp2_with fail
 refine (subRF W11 Nrr_11.out Nch_11.out).mono ?_
 rintro e W12 ⟨As1,cs1,ls1,rfl,hn,hb⟩
 have BX_12:=lH (BX_11.out.under hb (Holds.lt BX_11.out))
 have PB_12:=lH (PB_11.out.under hb (Holds.lt PB_11.out))
 have RB_12:=lH (RB_11.out.under hb (Holds.lt RB_11.out))
 have HB_12:=lH (HB_11.out.trans (hb.mono HB_11.out.size))
 have Nx_12:=lH (Nx_11.out.under hb)
 have Ny_12:=lH (Ny_11.out.under hb)
 have Nz_12:=lH (Nz_11.out.under hb)
 have Nu_12:=lH (Nu_11.out.under hb)
 have Nv_12:=lH (Nv_11.out.under hb)
 have Nzz_12:=lH (Nzz_11.out.under hb)
 have Nm1_12:=lH (Nm1_11.out.under hb)
 have Nah_12:=lH (Nah_11.out.under hb)
 have Nzzz_12:=lH (Nzzz_11.out.under hb)
 have Nm2_12:=lH (Nm2_11.out.under hb)
 have Nar_12:=lH (Nar_11.out.under hb)
 have Nbh_12:=lH (Nbh_11.out.under hb)
 have Nvv_12:=lH (Nvv_11.out.under hb)
 have Nch_12:=lH (Nch_11.out.under hb)
 have Nrr_12:=lH (Nrr_11.out.under hb)
 clear BX_11 PB_11 RB_11 HB_11 Nx_11 Ny_11 Nz_11 Nu_11 Nv_11 Nzz_11 Nm1_11 Nah_11 Nzzz_11 Nm2_11 Nar_11 Nbh_11 Nvv_11 Nch_11 Nrr_11
 obtain ⟨s1,eq_s1⟩:∃ v_,v_=rr - ch:=⟨_,rfl⟩
 rw [←eq_s1] at hn
 have Es1:=lH eq_s1
 have Ns1_12:=lH hn
 clear hn hb eq_s1
 go_wp2_with fail
 refine (subRF W12 Ns1_12.out Nvv_12.out).mono ?_
 rintro e W13 ⟨As2,cs2,ls2,rfl,hn,hb⟩
 have BX_13:=lH (BX_12.out.under hb (Holds.lt BX_12.out))
 have PB_13:=lH (PB_12.out.under hb (Holds.lt PB_12.out))
 have RB_13:=lH (RB_12.out.under hb (Holds.lt RB_12.out))
 have HB_13:=lH (HB_12.out.trans (hb.mono HB_12.out.size))
 have Nx_13:=lH (Nx_12.out.under hb)
 have Ny_13:=lH (Ny_12.out.under hb)
 have Nz_13:=lH (Nz_12.out.under hb)
 have Nu_13:=lH (Nu_12.out.under hb)
 have Nv_13:=lH (Nv_12.out.under hb)
 have Nzz_13:=lH (Nzz_12.out.under hb)
 have Nm1_13:=lH (Nm1_12.out.under hb)
 have Nah_13:=lH (Nah_12.out.under hb)
 have Nzzz_13:=lH (Nzzz_12.out.under hb)
 have Nm2_13:=lH (Nm2_12.out.under hb)
 have Nar_13:=lH (Nar_12.out.under hb)
 have Nbh_13:=lH (Nbh_12.out.under hb)
 have Nvv_13:=lH (Nvv_12.out.under hb)
 have Nch_13:=lH (Nch_12.out.under hb)
 have Nrr_13:=lH (Nrr_12.out.under hb)
 have Ns1_13:=lH (Ns1_12.out.under hb)
 clear BX_12 PB_12 RB_12 HB_12 Nx_12 Ny_12 Nz_12 Nu_12 Nv_12 Nzz_12 Nm1_12 Nah_12 Nzzz_12 Nm2_12 Nar_12 Nbh_12 Nvv_12 Nch_12 Nrr_12 Ns1_12
 obtain ⟨s2,eq_s2⟩:∃ v_,v_=s1 - vv:=⟨_,rfl⟩
 rw [←eq_s2] at hn
 have Es2:=lH eq_s2
 have Ns2_13:=lH hn
 clear hn hb eq_s2
 go_wp2_with fail
 refine (subRF W13 Ns2_13.out Nvv_13.out).mono ?_
 rintro e W14 ⟨AX,cX,lX,rfl,hn,hb⟩
 have BX_14:=lH (BX_13.out.under hb (Holds.lt BX_13.out))
 have PB_14:=lH (PB_13.out.under hb (Holds.lt PB_13.out))
 have RB_14:=lH (RB_13.out.under hb (Holds.lt RB_13.out))
 have HB_14:=lH (HB_13.out.trans (hb.mono HB_13.out.size))
 have Nx_14:=lH (Nx_13.out.under hb)
 have Ny_14:=lH (Ny_13.out.under hb)
 have Nz_14:=lH (Nz_13.out.under hb)
 have Nu_14:=lH (Nu_13.out.under hb)
 have Nv_14:=lH (Nv_13.out.under hb)
 have Nzz_14:=lH (Nzz_13.out.under hb)
 have Nm1_14:=lH (Nm1_13.out.under hb)
 have Nah_14:=lH (Nah_13.out.under hb)
 have Nzzz_14:=lH (Nzzz_13.out.under hb)
 have Nm2_14:=lH (Nm2_13.out.under hb)
 have Nar_14:=lH (Nar_13.out.under hb)
 have Nbh_14:=lH (Nbh_13.out.under hb)
 have Nvv_14:=lH (Nvv_13.out.under hb)
 have Nch_14:=lH (Nch_13.out.under hb)
 have Nrr_14:=lH (Nrr_13.out.under hb)
 have Ns1_14:=lH (Ns1_13.out.under hb)
 have Ns2_14:=lH (Ns2_13.out.under hb)
 clear BX_13 PB_13 RB_13 HB_13 Nx_13 Ny_13 Nz_13 Nu_13 Nv_13 Nzz_13 Nm1_13 Nah_13 Nzzz_13 Nm2_13 Nar_13 Nbh_13 Nvv_13 Nch_13 Nrr_13 Ns1_13 Ns2_13
 obtain ⟨X,eq_X⟩:∃ v_,v_=s2 - vv:=⟨_,rfl⟩
 rw [←eq_X] at hn
 have EX:=lH eq_X
 have NX_14:=lH hn
 clear hn hb eq_X
 clear Nrr_14 Ns1_14 Ns2_14 Nzz_14 Nzzz_14 Nm1_14 Nm2_14 Nbh_14
 go_wp2_with fail
 refine wp_region_noPanic ?_
 refine wp_region_held_drew (S:=fun W=>Holds W w.heap.size 58 #[.slice Ax lx.length cx,.slice Ay ly.length cy,.slice Az lz.length cz]∧True) (by kernel_rfl) (⟨BX_14.out,trivial⟩) (fun hHeld=>?_)
 obtain ⟨W15,hV⟩:∃ W,W=W14.drew:=⟨_,rfl⟩
 rw [←hV]
 have hdr:Below W14.heap.size W14 W15:=by rw [hV];exact (Below.refl _ W14).drew
 have BX_15:=lH (BX_14.out.under hdr (Holds.lt BX_14.out))
 have PB_15:=lH (PB_14.out.under hdr (Holds.lt PB_14.out))
 have RB_15:=lH (RB_14.out.under hdr (Holds.lt RB_14.out))
 have HB_15:=lH (HB_14.out.trans (hdr.mono HB_14.out.size))
 have Nx_15:=lH (Nx_14.out.under hdr)
 have Ny_15:=lH (Ny_14.out.under hdr)
 have Nz_15:=lH (Nz_14.out.under hdr)
 have Nu_15:=lH (Nu_14.out.under hdr)
 have Nv_15:=lH (Nv_14.out.under hdr)
 have Nah_15:=lH (Nah_14.out.under hdr)
 have Nar_15:=lH (Nar_14.out.under hdr)
 have Nvv_15:=lH (Nvv_14.out.under hdr)
 have Nch_15:=lH (Nch_14.out.under hdr)
 have NX_15:=lH (NX_14.out.under hdr)
 clear BX_14 PB_14 RB_14 HB_14 Nx_14 Ny_14 Nz_14 Nu_14 Nv_14 Nah_14 Nar_14 Nvv_14 Nch_14 NX_14
 have HS15:Hid ((fun W=>Holds W w.heap.size 58 #[.slice Ax lx.length cx,.slice Ay ly.length cy,.slice Az lz.length cz]∧True) W15):=lH ⟨BX_15.out,trivial⟩
 replace hHeld:(fun W=>Holds W w.heap.size 58 #[.slice Ax lx.length cx,.slice Ay ly.length cy,.slice Az lz.length cz]∧True) W15:=HS15.out
 clear hV hdr
 refine tk 0 ⟨some 77,.move (.tmp 11),24,_,_,none⟩ ?_ rfl ?_ hHeld ?_
 rotate_left 1
 ·(intro W hW;(try dsimp only at hW);go_simp;try with_reducible rfl)
 try simp only [aP]
 refine tk 1 ⟨some 78,.move (.tmp 7),24,_,_,none⟩ ?_ rfl ?_ hHeld ?_
 rotate_left 1
 ·(intro W hW;(try dsimp only at hW);go_simp;try with_reducible rfl)
 try simp only [aP]
 refine tk 2 ⟨some 79,.move (.tmp 9),24,_,_,none⟩ ?_ rfl ?_ hHeld ?_
 rotate_left 1
 ·(intro W hW;(try dsimp only at hW);go_simp;try with_reducible rfl)
 try simp only [aP]
 refine tk 3 ⟨some 80,.move (.tmp 11),24,_,_,none⟩ ?_ rfl ?_ hHeld ?_
 rotate_left 1
 ·(intro W hW;(try dsimp only at hW);go_simp;try with_reducible rfl)
 try simp only [aP]
 refine tk 6 ⟨some 83,.fieldAddr 58 (.tmp 2) 1,0,_,_,none⟩ ?_ rfl ?_ hHeld ?_
 rotate_left 1
 ·(intro W hW;(try dsimp only at hW);go_simp;try with_reducible rfl)
 try simp only [aP]
 refine tk 7 ⟨some 84,.load 24 (.tmp 83),24,_,_,none⟩ ?_ rfl ?_ hHeld ?_
 rotate_left 1
 ·(intro W hW;have hcc:=hW.1.cell 1;(try dsimp only at hW);go_simp;try with_reducible rfl)
 try simp only [aP]
 refine tk 8 ⟨some 85,.move (.tmp 10),24,_,_,none⟩ ?_ rfl ?_ hHeld ?_
 rotate_left 1
 ·(intro W hW;(try dsimp only at hW);go_simp;try with_reducible rfl)
 try simp only [aP]
 refine tk 11 ⟨some 88,.fieldAddr 58 (.tmp 2) 2,0,_,_,none⟩ ?_ rfl ?_ hHeld ?_
 rotate_left 1
 ·(intro W hW;(try dsimp only at hW);go_simp;try with_reducible rfl)
 try simp only [aP]
 refine tk 12 ⟨some 89,.load 24 (.tmp 88),24,_,_,none⟩ ?_ rfl ?_ hHeld ?_
 rotate_left 1
 ·(intro W hW;have hcc:=hW.1.cell 2;(try dsimp only at hW);go_simp;try with_reducible rfl)
 try simp only [aP]
 refine tk 13 ⟨some 90,.move (.tmp 6),24,_,_,none⟩ ?_ rfl ?_ hHeld ?_
 rotate_left 1
 ·(intro W hW;(try dsimp only at hW);go_simp;try with_reducible rfl)
 try simp only [aP]
 refine rdy 4 ⟨some 81,.call ⟨ .value (.func 48),#[.tmp 79,.tmp 80],#[24,24]⟩,24,_,_,none⟩ rfl (fun K hK=>?_)
 go_simp
 refine (subRF W15 Nvv_15.out NX_15.out).mono ?_
 rintro e W16 ⟨Avx,cvx,lvx,rfl,hn,hb⟩
 have BX_16:=lH (BX_15.out.under hb (Holds.lt BX_15.out))
 have PB_16:=lH (PB_15.out.under hb (Holds.lt PB_15.out))
 have RB_16:=lH (RB_15.out.under hb (Holds.lt RB_15.out))
 have HB_16:=lH (HB_15.out.trans (hb.mono HB_15.out.size))
 have Nx_16:=lH (Nx_15.out.under hb)
 have Ny_16:=lH (Ny_15.out.under hb)
 have Nz_16:=lH (Nz_15.out.under hb)
 have Nu_16:=lH (Nu_15.out.under hb)
 have Nv_16:=lH (Nv_15.out.under hb)
 have Nah_16:=lH (Nah_15.out.under hb)
 have Nar_16:=lH (Nar_15.out.under hb)
 have Nvv_16:=lH (Nvv_15.out.under hb)
 have Nch_16:=lH (Nch_15.out.under hb)
 have NX_16:=lH (NX_15.out.under hb)
 clear BX_15 PB_15 RB_15 HB_15 Nx_15 Ny_15 Nz_15 Nu_15 Nv_15 Nah_15 Nar_15 Nvv_15 Nch_15 NX_15
 obtain ⟨vx,eq_vx⟩:∃ v_,v_=vv - X:=⟨_,rfl⟩
 rw [←eq_vx] at hn
 have Evx:=lH eq_vx
 have Nvx_16:=lH hn
 clear hn hb eq_vx
 have HS16:Hid ((fun W=>Holds W w.heap.size 58 #[.slice Ax lx.length cx,.slice Ay ly.length cy,.slice Az lz.length cz]∧True) W16):=lH ⟨BX_16.out,trivial⟩
 go_simp
 refine hK.out _ _ (HS16.out) (fun hHeld=>?_)
 clear hK K
 try simp only [aP]
 refine rdy 5 ⟨some 82,.call ⟨ .value (.func 46),#[.tmp 78,.tmp 81],#[24,24]⟩,24,_,_,none⟩ rfl (fun K hK=>?_)
 go_simp
 refine (mulRF W16 Nar_16.out Nvx_16.out).mono ?_
 rintro e W17 ⟨Arv,crv,lrv,rfl,hn,hb⟩
 have BX_17:=lH (BX_16.out.under hb (Holds.lt BX_16.out))
 have PB_17:=lH (PB_16.out.under hb (Holds.lt PB_16.out))
 have RB_17:=lH (RB_16.out.under hb (Holds.lt RB_16.out))
 have HB_17:=lH (HB_16.out.trans (hb.mono HB_16.out.size))
 have Nx_17:=lH (Nx_16.out.under hb)
 have Ny_17:=lH (Ny_16.out.under hb)
 have Nz_17:=lH (Nz_16.out.under hb)
 have Nu_17:=lH (Nu_16.out.under hb)
 have Nv_17:=lH (Nv_16.out.under hb)
 have Nah_17:=lH (Nah_16.out.under hb)
 have Nar_17:=lH (Nar_16.out.under hb)
 have Nvv_17:=lH (Nvv_16.out.under hb)
 have Nch_17:=lH (Nch_16.out.under hb)
 have NX_17:=lH (NX_16.out.under hb)
 have Nvx_17:=lH (Nvx_16.out.under hb)
 clear BX_16 PB_16 RB_16 HB_16 Nx_16 Ny_16 Nz_16 Nu_16 Nv_16 Nah_16 Nar_16 Nvv_16 Nch_16 NX_16 Nvx_16
 obtain ⟨rv,eq_rv⟩:∃ v_,v_=ar*vx:=⟨_,rfl⟩
 rw [←eq_rv] at hn
 have Erv:=lH eq_rv
 have Nrv_17:=lH hn
 clear hn hb eq_rv
 have HS17:Hid ((fun W=>Holds W w.heap.size 58 #[.slice Ax lx.length cx,.slice Ay ly.length cy,.slice Az lz.length cz]∧True) W17):=lH ⟨BX_17.out,trivial⟩
 go_simp
 refine hK.out _ _ (HS17.out) (fun hHeld=>?_)
 clear hK K
 try simp only [aP]
 refine rdy 9 ⟨some 86,.call ⟨ .value (.func 46),#[.tmp 84,.tmp 85],#[24,24]⟩,24,_,_,none⟩ rfl (fun K hK=>?_)
 go_simp
 refine (mulRF W17 Ny_17.out Nch_17.out).mono ?_
 rintro e W18 ⟨Ayh,cyh,lyh,rfl,hn,hb⟩
 have BX_18:=lH (BX_17.out.under hb (Holds.lt BX_17.out))
 have PB_18:=lH (PB_17.out.under hb (Holds.lt PB_17.out))
 have RB_18:=lH (RB_17.out.under hb (Holds.lt RB_17.out))
 have HB_18:=lH (HB_17.out.trans (hb.mono HB_17.out.size))
 have Nx_18:=lH (Nx_17.out.under hb)
 have Ny_18:=lH (Ny_17.out.under hb)
 have Nz_18:=lH (Nz_17.out.under hb)
 have Nu_18:=lH (Nu_17.out.under hb)
 have Nv_18:=lH (Nv_17.out.under hb)
 have Nah_18:=lH (Nah_17.out.under hb)
 have Nar_18:=lH (Nar_17.out.under hb)
 have Nvv_18:=lH (Nvv_17.out.under hb)
 have Nch_18:=lH (Nch_17.out.under hb)
 have NX_18:=lH (NX_17.out.under hb)
 have Nvx_18:=lH (Nvx_17.out.under hb)
 have Nrv_18:=lH (Nrv_17.out.under hb)
 clear BX_17 PB_17 RB_17 HB_17 Nx_17 Ny_17 Nz_17 Nu_17 Nv_17 Nah_17 Nar_17 Nvv_17 Nch_17 NX_17 Nvx_17 Nrv_17
 obtain ⟨yh,eq_yh⟩:∃ v_,v_=j.y*ch:=⟨_,rfl⟩
 rw [←eq_yh] at hn
 have Eyh:=lH eq_yh
 have Nyh_18:=lH hn
 clear hn hb eq_yh
 have HS18:Hid ((fun W=>Holds W w.heap.size 58 #[.slice Ax lx.length cx,.slice Ay ly.length cy,.slice Az lz.length cz]∧True) W18):=lH ⟨BX_18.out,trivial⟩
 go_simp
 refine hK.out _ _ (HS18.out) (fun hHeld=>?_)
 clear hK K
 try simp only [aP]
 refine rdy 10 ⟨some 87,.call ⟨ .value (.func 48),#[.tmp 82,.tmp 86],#[24,24]⟩,24,_,_,none⟩ rfl (fun K hK=>?_)
 go_simp
 refine (subRF W18 Nrv_18.out Nyh_18.out).mono ?_
 rintro e W19 ⟨AY,cY,lY,rfl,hn,hb⟩
 have BX_19:=lH (BX_18.out.under hb (Holds.lt BX_18.out))
 have PB_19:=lH (PB_18.out.under hb (Holds.lt PB_18.out))
 have RB_19:=lH (RB_18.out.under hb (Holds.lt RB_18.out))
 have HB_19:=lH (HB_18.out.trans (hb.mono HB_18.out.size))
 have Nx_19:=lH (Nx_18.out.under hb)
 have Ny_19:=lH (Ny_18.out.under hb)
 have Nz_19:=lH (Nz_18.out.under hb)
 have Nu_19:=lH (Nu_18.out.under hb)
 have Nv_19:=lH (Nv_18.out.under hb)
 have Nah_19:=lH (Nah_18.out.under hb)
 have Nar_19:=lH (Nar_18.out.under hb)
 have Nvv_19:=lH (Nvv_18.out.under hb)
 have Nch_19:=lH (Nch_18.out.under hb)
 have NX_19:=lH (NX_18.out.under hb)
 have Nvx_19:=lH (Nvx_18.out.under hb)
 have Nrv_19:=lH (Nrv_18.out.under hb)
 have Nyh_19:=lH (Nyh_18.out.under hb)
 clear BX_18 PB_18 RB_18 HB_18 Nx_18 Ny_18 Nz_18 Nu_18 Nv_18 Nah_18 Nar_18 Nvv_18 Nch_18 NX_18 Nvx_18 Nrv_18 Nyh_18
 obtain ⟨Y,eq_Y⟩:∃ v_,v_=rv - yh:=⟨_,rfl⟩
 rw [←eq_Y] at hn
 have EY:=lH eq_Y
 have NY_19:=lH hn
 clear hn hb eq_Y
 have HS19:Hid ((fun W=>Holds W w.heap.size 58 #[.slice Ax lx.length cx,.slice Ay ly.length cy,.slice Az lz.length cz]∧True) W19):=lH ⟨BX_19.out,trivial⟩
 go_simp
 refine hK.out _ _ (HS19.out) (fun hHeld=>?_)
 clear hK K
 try simp only [aP]
 refine rdy 14 ⟨some 91,.call ⟨ .value (.func 46),#[.tmp 89,.tmp 90],#[24,24]⟩,24,_,_,none⟩ rfl (fun K hK=>?_)
 go_simp
 refine (mulRF W19 Nz_19.out Nah_19.out).mono ?_
 rintro e W20 ⟨AZ,cZ,lZ,rfl,hn,hb⟩
 have BX_20:=lH (BX_19.out.under hb (Holds.lt BX_19.out))
 have PB_20:=lH (PB_19.out.under hb (Holds.lt PB_19.out))
 have RB_20:=lH (RB_19.out.under hb (Holds.lt RB_19.out))
 have HB_20:=lH (HB_19.out.trans (hb.mono HB_19.out.size))
 have Nx_20:=lH (Nx_19.out.under hb)
 have Ny_20:=lH (Ny_19.out.under hb)
 have Nz_20:=lH (Nz_19.out.under hb)
 have Nu_20:=lH (Nu_19.out.under hb)
 have Nv_20:=lH (Nv_19.out.under hb)
 have Nah_20:=lH (Nah_19.out.under hb)
 have Nar_20:=lH (Nar_19.out.under hb)
 have Nvv_20:=lH (Nvv_19.out.under hb)
 have Nch_20:=lH (Nch_19.out.under hb)
 have NX_20:=lH (NX_19.out.under hb)
 have Nvx_20:=lH (Nvx_19.out.under hb)
 have Nrv_20:=lH (Nrv_19.out.under hb)
 have Nyh_20:=lH (Nyh_19.out.under hb)
 have NY_20:=lH (NY_19.out.under hb)
 clear BX_19 PB_19 RB_19 HB_19 Nx_19 Ny_19 Nz_19 Nu_19 Nv_19 Nah_19 Nar_19 Nvv_19 Nch_19 NX_19 Nvx_19 Nrv_19 Nyh_19 NY_19
 obtain ⟨Z,eq_Z⟩:∃ v_,v_=j.z*ah:=⟨_,rfl⟩
 rw [←eq_Z] at hn
 have EZ:=lH eq_Z
 have NZ_20:=lH hn
 clear hn hb eq_Z
 have HS20:Hid ((fun W=>Holds W w.heap.size 58 #[.slice Ax lx.length cx,.slice Ay ly.length cy,.slice Az lz.length cz]∧True) W20):=lH ⟨BX_20.out,trivial⟩
 go_simp
 refine hK.out _ _ (HS20.out) (fun hHeld=>?_)
 clear hK K
 try simp only [aP]
 refine tk 15 ⟨some 92,.build 58 #[(0,.tmp 77),(1,.tmp 87),(2,.tmp 91)],58,_,_,none⟩ ?_ rfl ?_ hHeld ?_
 rotate_left 1
 ·(intro W hW;(try dsimp only at hW);go_simp;try with_reducible rfl)
 try simp only [aP]
 refine rdy 16 ⟨none,.store 58 (.tmp 4) (.tmp 92),0,_,_,none⟩ rfl (fun K hK=>?_)
 have z0:=RB_20.out.cell 0
 have o0:=RB_20.out.open_ 0
 have z1:=RB_20.out.cell 1
 have o1:=RB_20.out.open_ 1
 have z2:=RB_20.out.cell 2
 have o2:=RB_20.out.open_ 2
 obtain ⟨VL,hN⟩:∃ W,W=(((W20.setCell ⟨w.heap.size+1+1,0,none⟩ (.slice AX lX.length cX)).setCell ⟨w.heap.size+1+1,1,none⟩ (.slice AY lY.length cY)).setCell ⟨w.heap.size+1+1,2,none⟩ (.slice AZ lZ.length cZ)):=⟨_,rfl⟩
 go_simp
 rw [←hN]
 have HRL:Hid (Holds VL (w.heap.size+1+1) 58 #[.slice AX lX.length cX,.slice AY lY.length cY,.slice AZ lZ.length cZ]):=lH (by rw [hN];exact set3 RB_20.out _ _ _)
 have HBL:Hid (Below w.heap.size w VL):=lH (by rw [hN];exact below3 HB_20.out (by omega) _ _ _)
 have HSL:Hid ((fun W=>Holds W w.heap.size 58 #[.slice Ax lx.length cx,.slice Ay ly.length cy,.slice Az lz.length cz]∧True) VL):=lH ⟨by rw [hN];exact holds_aside3 BX_20.out (k:=w.heap.size+1+1) (by omega) _ _ _,trivial⟩
 have HLX:Hid (NR VL AX cX lX X):=lH (by rw [hN];exact NX_20.out.store3 RB_20.out no_nums3 _ _ _)
 have HLY:Hid (NR VL AY cY lY Y):=lH (by rw [hN];exact NY_20.out.store3 RB_20.out no_nums3 _ _ _)
 have HLZ:Hid (NR VL AZ cZ lZ Z):=lH (by rw [hN];exact NZ_20.out.store3 RB_20.out no_nums3 _ _ _)
 clear hN z0 z1 z2 o0 o1 o2
 refine hK.out _ _ (HSL.out) (fun hHeld=>?_)
 clear hK K
 try simp only [aP]
 refine wpAnyH_done (by kernel_rfl) ?_ _
 refine NoPanic.normal ?_
 go_wp2_with fail
 have HPL:Luc.pls j u v=⟨X,Y,Z⟩:=by
  unfold Luc.pls
  rw [if_neg HZN.out]
  simp only
  rw [←Ezz.out,←Em1.out,←Eah.out,if_neg HCZ.out,←Ezzz.out,←Em2.out,←Ear.out,←Ebh.out,←Evv.out,mul_sw bh ah,←Ech.out,←Err.out,←Es1.out,←sub_two,←Es2.out,←EX.out,←Evx.out,←Erv.out,←Eyh.out,←EY.out,←EZ.out]
 refine ret_jac (g:=w.heap.size+1+1) rfl rfl HRL.out rfl ⟨AX,cX,lX,AY,cY,lY,AZ,cZ,lZ,rfl,?_,?_,?_,HBL.out⟩
 ·rw [HPL];exact HLX.out
 ·rw [HPL];exact HLY.out
 ·rw [HPL];exact HLZ.out
end Go.Proofs.YtflfdglpljodbaaDoor
namespace Go.Proofs.YtflfdglpljodbaaDoor
open Go.RowKit
set_option linter.unusedVariables false
set_option linter.unusedSimpArgs false
def px:Luc.Pt→Luc.F
 | none=>0
 | some p=>p.1
def py:Luc.Pt→Luc.F
 | none=>0
 | some p=>p.2
structure PtV (Q:Luc.Pt) (W:World) (A1:Option Addr) (c1:Nat) (l1:List Nat) (A2:Option Addr) (c2:Nat) (l2:List Nat) (inf:Bool):Prop where
 inf:inf=Q.isNone
 x:NR W A1 c1 l1 (px Q)
 y:NR W A2 c2 l2 (py Q)
theorem PtV.under {Q:Luc.Pt} {W W':World} {A1:Option Addr} {c1:Nat} {l1:List Nat} {A2:Option Addr} {c2:Nat} {l2:List Nat} {inf:Bool} (h:PtV Q W A1 c1 l1 A2 c2 l2 inf) (hb:Below W.heap.size W W'):PtV Q W' A1 c1 l1 A2 c2 l2 inf:=⟨h.inf,h.x.under hb,h.y.under hb⟩
def PtR (Q:Luc.Pt) (w:World) (e:Ending) (w':World):Prop :=
 ∃ A1 c1 l1 A2 c2 l2 inf,e = .returned (.agg #[.slice A1 l1.length c1,.slice A2 l2.length c2,.bool inf])∧PtV Q w' A1 c1 l1 A2 c2 l2 inf∧Below w.heap.size w w'
theorem PtV.none (W:World):PtV none W none 0 [] none 0 [] true:=⟨rfl,NR.nought W,NR.nought W⟩
theorem invR0 (w:World) {A:Option Addr} {c:Nat} {l:List Nat} (h:NR w A c l 0) {g:Nat} (hP:Row .u32 22 w g lP) :
  Calls Tryd.prog 72 #[.slice A l.length c,.slice (some ⟨g,0,none⟩) 8 8] w (Nought w) :=
 (inv8_high w A (some ⟨g,0,none⟩) c 8 l lP h.rd (Eight.rd hP rfl) h.dg lP_ok.1 h.s (by rw [lP_ok.2.2.2];omega) h.nrm lP_ok.2.1 (by rw [lP_ok.2.2.1];decide)).mono fun e w' hq=>by
  rcases hq with ⟨_,hq⟩ | ⟨hg,_⟩
  ·exact hq
  ·exfalso
   rw [h.val,lP_ok.2.2.1] at hg
   revert hg
   decide
theorem invRF (w:World) {A:Option Addr} {c:Nat} {l:List Nat} {f:Luc.F} (h:NR w A c l f) (hf:f≠0) {g:Nat} (hP:Row .u32 22 w g lP) :
  Calls Tryd.prog 72 #[.slice A l.length c,.slice (some ⟨g,0,none⟩) 8 8] w fun e w'=>∃ A c l,e = .returned (.tuple #[.slice A l.length c,.bool true])∧NR w' A c l (Luc.finv f)∧Below w.heap.size w w' :=
 (inv8_high w A (some ⟨g,0,none⟩) c 8 l lP h.rd (Eight.rd hP rfl) h.dg lP_ok.1 h.s (by rw [lP_ok.2.2.2];omega) h.nrm lP_ok.2.1 (by rw [lP_ok.2.2.1];decide)).mono fun e w' hq=>by
  rw [h.val,lP_ok.2.2.1] at hq
  rcases hq with ⟨hg,hq⟩ | ⟨_,x,hx,h1,A2,c2,r,he,hn,hr,hb⟩
  ·exfalso
   refine hg (Luc.cQ_prime.cop fun hd=>hf ?_)
   exact Fin.ext (Nat.eq_zero_of_dvd_of_lt hd f.isLt)
  ·have e1:Luc.finv f=fe x hx:=Luc.finv_of (by
    apply Fin.ext
    rw [Fin.val_mul]
    exact h1)
   exact ⟨A2,c2,r,he,⟨hr,by rw [e1];exact hn⟩,hb⟩
theorem pointR_any (w:World) (j:Luc.Jc) {Ax Ay Az:Option Addr} {cx cy cz:Nat} {lx ly lz:List Nat} (hx:NR w Ax cx lx j.x) (hy:NR w Ay cy ly j.y) (hz:NR w Az cz lz j.z) :
  Calls Tryd.prog 40 #[.agg #[.slice Ax lx.length cx,.slice Ay ly.length cy,.slice Az lz.length cz]] w (PtR (Luc.Rep j) w):=by
 obtain ⟨w1,hw1⟩:∃ W,W=w.alloc (.cells #[.slice Ax lx.length cx,.slice Ay ly.length cy,.slice Az lz.length cz] 58):=⟨_,rfl⟩
 have hz1:w1.heap.size=w.heap.size+1:=by rw [hw1];simp
 have hb1:Below w.heap.size w w1:=by rw [hw1];exact (Below.refl _ _).alloc (Nat.le_refl _) _
 obtain ⟨W0,hw2⟩:∃ W,W=w1.alloc (.cells #[.slice none 0 0,.slice none 0 0,.bool false] 26):=⟨_,rfl⟩
 have hb2:Below w.heap.size w W0:=by rw [hw2];exact hb1.alloc hb1.size _
 have BX_0:Hid (Holds W0 w.heap.size 58 #[.slice Ax lx.length cx,.slice Ay ly.length cy,.slice Az lz.length cz]):=lH (by rw [hw2,hw1];exact (Holds.fresh w _ _).alloc _)
 have RB_0:Hid (Holds W0 (w.heap.size+1) 26 #[.slice none 0 0,.slice none 0 0,.bool false]):=lH (by rw [hw2,←hz1];exact Holds.fresh w1 _ _)
 have HB_0:=lH hb2
 have Nx_0:=lH (hx.under hb2)
 have Ny_0:=lH (hy.under hb2)
 have Nz_0:=lH (hz.under hb2)
 have HW:=lH (hw1 ▸ hw2:W0=(w.alloc (.cells #[.slice Ax lx.length cx,.slice Ay ly.length cy,.slice Az lz.length cz] 58)).alloc (.cells #[.slice none 0 0,.slice none 0 0,.bool false] 26))
 clear hx hy hz hw1 hz1 hb1 hw2 hb2
 go_enter Tryd.func40,Tryd.ntmps40
 go_wp2_with fail
 rw [←HW.out]
 clear HW
 by_cases hzn:j.z=0
 ·have HZ0:=lH hzn
  rw [hzn] at Nz_0
  clear hzn
  go_wp2_with fail
  refine wp_region_noPanic ?_
  refine wp_region_held_drew (S:=fun W=>Holds W w.heap.size 58 #[.slice Ax lx.length cx,.slice Ay ly.length cy,.slice Az lz.length cz]∧True) (by kernel_rfl) (⟨BX_0.out,trivial⟩) (fun hHeld=>?_)
  obtain ⟨W1,hV⟩:∃ W,W=W0.drew:=⟨_,rfl⟩
  rw [←hV]
  have hdr:Below W0.heap.size W0 W1:=by rw [hV];exact (Below.refl _ W0).drew
  have BX_1:=lH (BX_0.out.under hdr (Holds.lt BX_0.out))
  have RB_1:=lH (RB_0.out.under hdr (Holds.lt RB_0.out))
  have HB_1:=lH (HB_0.out.trans (hdr.mono HB_0.out.size))
  have Nx_1:=lH (Nx_0.out.under hdr)
  have Ny_1:=lH (Ny_0.out.under hdr)
  have Nz_1:=lH (Nz_0.out.under hdr)
  clear BX_0 RB_0 HB_0 Nx_0 Ny_0 Nz_0
  have HS1:Hid ((fun W=>Holds W w.heap.size 58 #[.slice Ax lx.length cx,.slice Ay ly.length cy,.slice Az lz.length cz]∧True) W1):=lH ⟨BX_1.out,trivial⟩
  replace hHeld:(fun W=>Holds W w.heap.size 58 #[.slice Ax lx.length cx,.slice Ay ly.length cy,.slice Az lz.length cz]∧True) W1:=HS1.out
  clear hV hdr
  refine tk 0 ⟨some 7,.fieldAddr 58 (.tmp 1) 2,0,_,_,none⟩ ?_ rfl ?_ hHeld ?_
  rotate_left 1
  ·(intro W hW;(try dsimp only at hW);go_simp;try with_reducible rfl)
  try simp only [aP]
  refine tk 1 ⟨some 8,.load 24 (.tmp 7),24,_,_,none⟩ ?_ rfl ?_ hHeld ?_
  rotate_left 1
  ·(intro W hW;have hcc:=hW.1.cell 2;(try dsimp only at hW);go_simp;try with_reducible rfl)
  try simp only [aP]
  refine rdy 2 ⟨some 9,.call ⟨ .value (.func 26),#[],#[]⟩,24,_,_,none⟩ rfl (fun K hK=>?_)
  go_simp
  refine (refP_any W1).mono ?_
  rintro e W2 ⟨gp,hgp,rfl,hP,hb⟩
  have BX_2:=lH (BX_1.out.under hb (Holds.lt BX_1.out))
  have RB_2:=lH (RB_1.out.under hb (Holds.lt RB_1.out))
  have HB_2:=lH (HB_1.out.trans (hb.mono HB_1.out.size))
  have Nx_2:=lH (Nx_1.out.under hb)
  have Ny_2:=lH (Ny_1.out.under hb)
  have Nz_2:=lH (Nz_1.out.under hb)
  clear BX_1 RB_1 HB_1 Nx_1 Ny_1 Nz_1
  have HP:=lH hP
  have HS2:Hid ((fun W=>Holds W w.heap.size 58 #[.slice Ax lx.length cx,.slice Ay ly.length cy,.slice Az lz.length cz]∧True) W2):=lH ⟨BX_2.out,trivial⟩
  clear hb hP hgp
  go_simp
  refine hK.out _ _ (HS2.out) (fun hHeld=>?_)
  clear hK K
  try simp only [aP]
  refine rdy 3 ⟨some 10,.call ⟨ .value (.func 72),#[.tmp 8,.tmp 9],#[24,24]⟩,39,_,_,none⟩ rfl (fun K hK=>?_)
  go_simp
  refine (invR0 W2 Nz_2.out HP.out).mono ?_
  rintro e W3 ⟨rfl,hb⟩
  have BX_3:=lH (BX_2.out.under hb (Holds.lt BX_2.out))
  have RB_3:=lH (RB_2.out.under hb (Holds.lt RB_2.out))
  have HB_3:=lH (HB_2.out.trans (hb.mono HB_2.out.size))
  have Nx_3:=lH (Nx_2.out.under hb)
  have Ny_3:=lH (Ny_2.out.under hb)
  have Nz_3:=lH (Nz_2.out.under hb)
  clear BX_2 RB_2 HB_2 Nx_2 Ny_2 Nz_2
  have HS3:Hid ((fun W=>Holds W w.heap.size 58 #[.slice Ax lx.length cx,.slice Ay ly.length cy,.slice Az lz.length cz]∧True) W3):=lH ⟨BX_3.out,trivial⟩
  clear hb HP
  go_simp
  refine hK.out _ _ (HS3.out) (fun hHeld=>?_)
  clear hK K
  try simp only [aP]
  refine tk 4 ⟨some 6,.move (.tmp 10),39,_,_,none⟩ ?_ rfl ?_ hHeld ?_
  rotate_left 1
  ·(intro W hW;(try dsimp only at hW);go_simp;try with_reducible rfl)
  try simp only [aP]
  refine tk 5 ⟨some 11,.extract (.tmp 6) 0,24,_,_,none⟩ ?_ rfl ?_ hHeld ?_
  rotate_left 1
  ·(intro W hW;(try dsimp only at hW);go_simp;try with_reducible rfl)
  try simp only [aP]
  refine tk 6 ⟨some 12,.extract (.tmp 6) 1,4,_,_,none⟩ ?_ rfl ?_ hHeld ?_
  rotate_left 1
  ·(intro W hW;(try dsimp only at hW);go_simp;try with_reducible rfl)
  try simp only [aP]
  refine tk 7 ⟨some 3,.assign (.tmp 11),24,_,_,none⟩ ?_ rfl ?_ hHeld ?_
  rotate_left 1
  ·(intro W hW;(try dsimp only at hW);go_simp;try with_reducible rfl)
  try simp only [aP]
  refine tk 8 ⟨some 4,.assign (.tmp 12),4,_,_,none⟩ ?_ rfl ?_ hHeld ?_
  rotate_left 1
  ·(intro W hW;(try dsimp only at hW);go_simp;try with_reducible rfl)
  try simp only [aP]
  refine wpAnyH_done (by kernel_rfl) ?_ _
  refine NoPanic.normal ?_
  have z0:=RB_3.out.cell 0
  have z1:=RB_3.out.cell 1
  have z2:=RB_3.out.cell 2
  have o0:=RB_3.out.open_ 0
  have o1:=RB_3.out.open_ 1
  have o2:=RB_3.out.open_ 2
  go_wp2_with fail
  rw [Luc.Rep.no HZ0.out]
  exact ret_pt (g:=w.heap.size+1) rfl rfl (set3 RB_3.out _ _ _) rfl ⟨none,0,[],none,0,[],true,rfl,PtV.none _,below3 HB_3.out (by omega) _ _ _⟩
 have HZN:Hid (j.z≠0):=lH hzn
 clear hzn
 go_wp2_with fail
 refine wp_region_noPanic ?_
 refine wp_region_held_drew (S:=fun W=>Holds W w.heap.size 58 #[.slice Ax lx.length cx,.slice Ay ly.length cy,.slice Az lz.length cz]∧True) (by kernel_rfl) (⟨BX_0.out,trivial⟩) (fun hHeld=>?_)
 obtain ⟨W1,hV⟩:∃ W,W=W0.drew:=⟨_,rfl⟩
 rw [←hV]
 have hdr:Below W0.heap.size W0 W1:=by rw [hV];exact (Below.refl _ W0).drew
 have BX_1:=lH (BX_0.out.under hdr (Holds.lt BX_0.out))
 have RB_1:=lH (RB_0.out.under hdr (Holds.lt RB_0.out))
 have HB_1:=lH (HB_0.out.trans (hdr.mono HB_0.out.size))
 have Nx_1:=lH (Nx_0.out.under hdr)
 have Ny_1:=lH (Ny_0.out.under hdr)
 have Nz_1:=lH (Nz_0.out.under hdr)
 clear BX_0 RB_0 HB_0 Nx_0 Ny_0 Nz_0
 have HS1:Hid ((fun W=>Holds W w.heap.size 58 #[.slice Ax lx.length cx,.slice Ay ly.length cy,.slice Az lz.length cz]∧True) W1):=lH ⟨BX_1.out,trivial⟩
 replace hHeld:(fun W=>Holds W w.heap.size 58 #[.slice Ax lx.length cx,.slice Ay ly.length cy,.slice Az lz.length cz]∧True) W1:=HS1.out
 clear hV hdr
 refine tk 0 ⟨some 7,.fieldAddr 58 (.tmp 1) 2,0,_,_,none⟩ ?_ rfl ?_ hHeld ?_
 rotate_left 1
 ·(intro W hW;(try dsimp only at hW);go_simp;try with_reducible rfl)
 try simp only [aP]
 refine tk 1 ⟨some 8,.load 24 (.tmp 7),24,_,_,none⟩ ?_ rfl ?_ hHeld ?_
 rotate_left 1
 ·(intro W hW;have hcc:=hW.1.cell 2;(try dsimp only at hW);go_simp;try with_reducible rfl)
 try simp only [aP]
 refine rdy 2 ⟨some 9,.call ⟨ .value (.func 26),#[],#[]⟩,24,_,_,none⟩ rfl (fun K hK=>?_)
 go_simp
 refine (refP_any W1).mono ?_
 rintro e W2 ⟨gp,hgp,rfl,hP,hb⟩
 have BX_2:=lH (BX_1.out.under hb (Holds.lt BX_1.out))
 have RB_2:=lH (RB_1.out.under hb (Holds.lt RB_1.out))
 have HB_2:=lH (HB_1.out.trans (hb.mono HB_1.out.size))
 have Nx_2:=lH (Nx_1.out.under hb)
 have Ny_2:=lH (Ny_1.out.under hb)
 have Nz_2:=lH (Nz_1.out.under hb)
 clear BX_1 RB_1 HB_1 Nx_1 Ny_1 Nz_1
 have HP:=lH hP
 have HS2:Hid ((fun W=>Holds W w.heap.size 58 #[.slice Ax lx.length cx,.slice Ay ly.length cy,.slice Az lz.length cz]∧True) W2):=lH ⟨BX_2.out,trivial⟩
 clear hb hP hgp
 go_simp
 refine hK.out _ _ (HS2.out) (fun hHeld=>?_)
 clear hK K
 try simp only [aP]
 refine rdy 3 ⟨some 10,.call ⟨ .value (.func 72),#[.tmp 8,.tmp 9],#[24,24]⟩,39,_,_,none⟩ rfl (fun K hK=>?_)
 go_simp
 refine (invRF W2 Nz_2.out HZN.out HP.out).mono ?_
 rintro e W3 ⟨Ai,ci,li,rfl,hn,hb⟩
 have BX_3:=lH (BX_2.out.under hb (Holds.lt BX_2.out))
 have RB_3:=lH (RB_2.out.under hb (Holds.lt RB_2.out))
 have HB_3:=lH (HB_2.out.trans (hb.mono HB_2.out.size))
 have Nx_3:=lH (Nx_2.out.under hb)
 have Ny_3:=lH (Ny_2.out.under hb)
 have Nz_3:=lH (Nz_2.out.under hb)
 clear BX_2 RB_2 HB_2 Nx_2 Ny_2 Nz_2
 obtain ⟨i,eq_i⟩:∃ v_,v_=Luc.finv j.z:=⟨_,rfl⟩
 rw [←eq_i] at hn
 have Ei:=lH eq_i
 have Ni_3:=lH hn
 have HS3:Hid ((fun W=>Holds W w.heap.size 58 #[.slice Ax lx.length cx,.slice Ay ly.length cy,.slice Az lz.length cz]∧True) W3):=lH ⟨BX_3.out,trivial⟩
 clear hn eq_i hb HP
 go_simp
 refine hK.out _ _ (HS3.out) (fun hHeld=>?_)
 clear hK K
 try simp only [aP]
 refine tk 4 ⟨some 6,.move (.tmp 10),39,_,_,none⟩ ?_ rfl ?_ hHeld ?_
 rotate_left 1
 ·(intro W hW;(try dsimp only at hW);go_simp;try with_reducible rfl)
 try simp only [aP]
 refine tk 5 ⟨some 11,.extract (.tmp 6) 0,24,_,_,none⟩ ?_ rfl ?_ hHeld ?_
 rotate_left 1
 ·(intro W hW;(try dsimp only at hW);go_simp;try with_reducible rfl)
 try simp only [aP]
 refine tk 6 ⟨some 12,.extract (.tmp 6) 1,4,_,_,none⟩ ?_ rfl ?_ hHeld ?_
 rotate_left 1
 ·(intro W hW;(try dsimp only at hW);go_simp;try with_reducible rfl)
 try simp only [aP]
 refine tk 7 ⟨some 3,.assign (.tmp 11),24,_,_,none⟩ ?_ rfl ?_ hHeld ?_
 rotate_left 1
 ·(intro W hW;(try dsimp only at hW);go_simp;try with_reducible rfl)
 try simp only [aP]
 refine tk 8 ⟨some 4,.assign (.tmp 12),4,_,_,none⟩ ?_ rfl ?_ hHeld ?_
 rotate_left 1
 ·(intro W hW;(try dsimp only at hW);go_simp;try with_reducible rfl)
 try simp only [aP]
 refine wpAnyH_done (by kernel_rfl) ?_ _
 refine NoPanic.normal ?_
 go_wp2_with fail
 refine (mulRF W3 Ni_3.out Ni_3.out).mono ?_
 rintro e W4 ⟨Aii,cii,lii,rfl,hn,hb⟩
 have BX_4:=lH (BX_3.out.under hb (Holds.lt BX_3.out))
 have RB_4:=lH (RB_3.out.under hb (Holds.lt RB_3.out))
 have HB_4:=lH (HB_3.out.trans (hb.mono HB_3.out.size))
 have Nx_4:=lH (Nx_3.out.under hb)
 have Ny_4:=lH (Ny_3.out.under hb)
 have Nz_4:=lH (Nz_3.out.under hb)
 have Ni_4:=lH (Ni_3.out.under hb)
 clear BX_3 RB_3 HB_3 Nx_3 Ny_3 Nz_3 Ni_3
 obtain ⟨ii,eq_ii⟩:∃ v_,v_=i*i:=⟨_,rfl⟩
 rw [←eq_ii] at hn
 have Eii:=lH eq_ii
 have Nii_4:=lH hn
 clear hn hb eq_ii
 go_wp2_with fail
 refine wp_region_noPanic ?_
 refine wp_region_held_drew (S:=fun W=>Holds W w.heap.size 58 #[.slice Ax lx.length cx,.slice Ay ly.length cy,.slice Az lz.length cz]∧True) (by kernel_rfl) (⟨BX_4.out,trivial⟩) (fun hHeld=>?_)
 obtain ⟨W5,hV⟩:∃ W,W=W4.drew:=⟨_,rfl⟩
 rw [←hV]
 have hdr:Below W4.heap.size W4 W5:=by rw [hV];exact (Below.refl _ W4).drew
 have BX_5:=lH (BX_4.out.under hdr (Holds.lt BX_4.out))
 have RB_5:=lH (RB_4.out.under hdr (Holds.lt RB_4.out))
 have HB_5:=lH (HB_4.out.trans (hdr.mono HB_4.out.size))
 have Nx_5:=lH (Nx_4.out.under hdr)
 have Ny_5:=lH (Ny_4.out.under hdr)
 have Nz_5:=lH (Nz_4.out.under hdr)
 have Ni_5:=lH (Ni_4.out.under hdr)
 have Nii_5:=lH (Nii_4.out.under hdr)
 clear BX_4 RB_4 HB_4 Nx_4 Ny_4 Nz_4 Ni_4 Nii_4
 have HS5:Hid ((fun W=>Holds W w.heap.size 58 #[.slice Ax lx.length cx,.slice Ay ly.length cy,.slice Az lz.length cz]∧True) W5):=lH ⟨BX_5.out,trivial⟩
 replace hHeld:(fun W=>Holds W w.heap.size 58 #[.slice Ax lx.length cx,.slice Ay ly.length cy,.slice Az lz.length cz]∧True) W5:=HS5.out
 clear hV hdr
 refine tk 0 ⟨some 19,.fieldAddr 58 (.tmp 1) 0,0,_,_,none⟩ ?_ rfl ?_ hHeld ?_
 rotate_left 1
 ·(intro W hW;(try dsimp only at hW);go_simp;try with_reducible rfl)
 try simp only [aP]
 refine tk 1 ⟨some 20,.load 24 (.tmp 19),24,_,_,none⟩ ?_ rfl ?_ hHeld ?_
 rotate_left 1
 ·(intro W hW;have hcc:=hW.1.cell 0;(try dsimp only at hW);go_simp;try with_reducible rfl)
 try simp only [aP]
 refine tk 2 ⟨some 21,.move (.tmp 5),24,_,_,none⟩ ?_ rfl ?_ hHeld ?_
 rotate_left 1
 ·(intro W hW;(try dsimp only at hW);go_simp;try with_reducible rfl)
 try simp only [aP]
 refine tk 4 ⟨some 23,.fieldAddr 58 (.tmp 1) 1,0,_,_,none⟩ ?_ rfl ?_ hHeld ?_
 rotate_left 1
 ·(intro W hW;(try dsimp only at hW);go_simp;try with_reducible rfl)
 try simp only [aP]
 refine tk 5 ⟨some 24,.load 24 (.tmp 23),24,_,_,none⟩ ?_ rfl ?_ hHeld ?_
 rotate_left 1
 ·(intro W hW;have hcc:=hW.1.cell 1;(try dsimp only at hW);go_simp;try with_reducible rfl)
 try simp only [aP]
 refine tk 6 ⟨some 25,.move (.tmp 5),24,_,_,none⟩ ?_ rfl ?_ hHeld ?_
 rotate_left 1
 ·(intro W hW;(try dsimp only at hW);go_simp;try with_reducible rfl)
 try simp only [aP]
 refine tk 7 ⟨some 26,.move (.tmp 3),24,_,_,none⟩ ?_ rfl ?_ hHeld ?_
 rotate_left 1
 ·(intro W hW;(try dsimp only at hW);go_simp;try with_reducible rfl)
 try simp only [aP]
 refine rdy 3 ⟨some 22,.call ⟨ .value (.func 46),#[.tmp 20,.tmp 21],#[24,24]⟩,24,_,_,none⟩ rfl (fun K hK=>?_)
 go_simp
 refine (mulRF W5 Nx_5.out Nii_5.out).mono ?_
 rintro e W6 ⟨AX,cX,lX,rfl,hn,hb⟩
 have BX_6:=lH (BX_5.out.under hb (Holds.lt BX_5.out))
 have RB_6:=lH (RB_5.out.under hb (Holds.lt RB_5.out))
 have HB_6:=lH (HB_5.out.trans (hb.mono HB_5.out.size))
 have Nx_6:=lH (Nx_5.out.under hb)
 have Ny_6:=lH (Ny_5.out.under hb)
 have Nz_6:=lH (Nz_5.out.under hb)
 have Ni_6:=lH (Ni_5.out.under hb)
 have Nii_6:=lH (Nii_5.out.under hb)
 clear BX_5 RB_5 HB_5 Nx_5 Ny_5 Nz_5 Ni_5 Nii_5
 obtain ⟨X,eq_X⟩:∃ v_,v_=j.x*ii:=⟨_,rfl⟩
 rw [←eq_X] at hn
 have EX:=lH eq_X
 have NX_6:=lH hn
 clear hn hb eq_X
 have HS6:Hid ((fun W=>Holds W w.heap.size 58 #[.slice Ax lx.length cx,.slice Ay ly.length cy,.slice Az lz.length cz]∧True) W6):=lH ⟨BX_6.out,trivial⟩
 go_simp
 refine hK.out _ _ (HS6.out) (fun hHeld=>?_)
 clear hK K
 try simp only [aP]
 refine rdy 8 ⟨some 27,.call ⟨ .value (.func 46),#[.tmp 25,.tmp 26],#[24,24]⟩,24,_,_,none⟩ rfl (fun K hK=>?_)
 go_simp
 refine (mulRF W6 Nii_6.out Ni_6.out).mono ?_
 rintro e W7 ⟨Aiii,ciii,liii,rfl,hn,hb⟩
 have BX_7:=lH (BX_6.out.under hb (Holds.lt BX_6.out))
 have RB_7:=lH (RB_6.out.under hb (Holds.lt RB_6.out))
 have HB_7:=lH (HB_6.out.trans (hb.mono HB_6.out.size))
 have Nx_7:=lH (Nx_6.out.under hb)
 have Ny_7:=lH (Ny_6.out.under hb)
 have Nz_7:=lH (Nz_6.out.under hb)
 have Ni_7:=lH (Ni_6.out.under hb)
 have Nii_7:=lH (Nii_6.out.under hb)
 have NX_7:=lH (NX_6.out.under hb)
 clear BX_6 RB_6 HB_6 Nx_6 Ny_6 Nz_6 Ni_6 Nii_6 NX_6
 obtain ⟨iii,eq_iii⟩:∃ v_,v_=ii*i:=⟨_,rfl⟩
 rw [←eq_iii] at hn
 have Eiii:=lH eq_iii
 have Niii_7:=lH hn
 clear hn hb eq_iii
 have HS7:Hid ((fun W=>Holds W w.heap.size 58 #[.slice Ax lx.length cx,.slice Ay ly.length cy,.slice Az lz.length cz]∧True) W7):=lH ⟨BX_7.out,trivial⟩
 go_simp
 refine hK.out _ _ (HS7.out) (fun hHeld=>?_)
 clear hK K
 try simp only [aP]
 refine rdy 9 ⟨some 28,.call ⟨ .value (.func 46),#[.tmp 24,.tmp 27],#[24,24]⟩,24,_,_,none⟩ rfl (fun K hK=>?_)
 go_simp
 refine (mulRF W7 Ny_7.out Niii_7.out).mono ?_
 rintro e W8 ⟨AY,cY,lY,rfl,hn,hb⟩
 have BX_8:=lH (BX_7.out.under hb (Holds.lt BX_7.out))
 have RB_8:=lH (RB_7.out.under hb (Holds.lt RB_7.out))
 have HB_8:=lH (HB_7.out.trans (hb.mono HB_7.out.size))
 have Nx_8:=lH (Nx_7.out.under hb)
 have Ny_8:=lH (Ny_7.out.under hb)
 have Nz_8:=lH (Nz_7.out.under hb)
 have Ni_8:=lH (Ni_7.out.under hb)
 have Nii_8:=lH (Nii_7.out.under hb)
 have NX_8:=lH (NX_7.out.under hb)
 have Niii_8:=lH (Niii_7.out.under hb)
 clear BX_7 RB_7 HB_7 Nx_7 Ny_7 Nz_7 Ni_7 Nii_7 NX_7 Niii_7
 obtain ⟨Y,eq_Y⟩:∃ v_,v_=j.y*iii:=⟨_,rfl⟩
 rw [←eq_Y] at hn
 have EY:=lH eq_Y
 have NY_8:=lH hn
 clear hn hb eq_Y
 have HS8:Hid ((fun W=>Holds W w.heap.size 58 #[.slice Ax lx.length cx,.slice Ay ly.length cy,.slice Az lz.length cz]∧True) W8):=lH ⟨BX_8.out,trivial⟩
 go_simp
 refine hK.out _ _ (HS8.out) (fun hHeld=>?_)
 clear hK K
 try simp only [aP]
 refine tk 10 ⟨some 29,.build 26 #[(0,.tmp 22),(1,.tmp 28)],26,_,_,none⟩ ?_ rfl ?_ hHeld ?_
 rotate_left 1
 ·(intro W hW;(try dsimp only at hW);go_simp;try with_reducible rfl)
 try simp only [aP]
 refine rdy 11 ⟨none,.store 26 (.tmp 2) (.tmp 29),0,_,_,none⟩ rfl (fun K hK=>?_)
 have z0:=RB_8.out.cell 0
 have o0:=RB_8.out.open_ 0
 have z1:=RB_8.out.cell 1
 have o1:=RB_8.out.open_ 1
 have z2:=RB_8.out.cell 2
 have o2:=RB_8.out.open_ 2
 obtain ⟨VL,hN⟩:∃ W,W=(((W8.setCell ⟨w.heap.size+1,0,none⟩ (.slice AX lX.length cX)).setCell ⟨w.heap.size+1,1,none⟩ (.slice AY lY.length cY)).setCell ⟨w.heap.size+1,2,none⟩ (.bool false)):=⟨_,rfl⟩
 go_simp
 rw [←hN]
 have HRL:Hid (Holds VL (w.heap.size+1) 26 #[.slice AX lX.length cX,.slice AY lY.length cY,.bool false]):=lH (by rw [hN];exact set3 RB_8.out _ _ _)
 have HBL:Hid (Below w.heap.size w VL):=lH (by rw [hN];exact below3 HB_8.out (by omega) _ _ _)
 have HSL:Hid ((fun W=>Holds W w.heap.size 58 #[.slice Ax lx.length cx,.slice Ay ly.length cy,.slice Az lz.length cz]∧True) VL):=lH ⟨by rw [hN];exact holds_aside3 BX_8.out (k:=w.heap.size+1) (by omega) _ _ _,trivial⟩
 have HLX:Hid (NR VL AX cX lX X):=lH (by rw [hN];exact NX_8.out.store3 RB_8.out no_numsP _ _ _)
 have HLY:Hid (NR VL AY cY lY Y):=lH (by rw [hN];exact NY_8.out.store3 RB_8.out no_numsP _ _ _)
 clear hN z0 z1 z2 o0 o1 o2
 refine hK.out _ _ (HSL.out) (fun hHeld=>?_)
 clear hK K
 try simp only [aP]
 refine wpAnyH_done (by kernel_rfl) ?_ _
 refine NoPanic.normal ?_
 go_wp2_with fail
 have HPL:Luc.Rep j=some (X,Y):=by
  unfold Luc.Rep
  rw [if_neg HZN.out,EX.out,EY.out,Eiii.out,Eii.out,Ei.out]
 rw [HPL]
 exact ret_pt (g:=w.heap.size+1) rfl rfl HRL.out rfl ⟨AX,cX,lX,AY,cY,lY,false,rfl,⟨rfl,HLX.out,HLY.out⟩,HBL.out⟩
end Go.Proofs.YtflfdglpljodbaaDoor
namespace Go.Proofs.YtflfdglpljodbaaDoor
open Go.RowKit
set_option linter.unusedVariables false
set_option linter.unusedSimpArgs false
theorem timesR_none (w:World) {A Au Av:Option Addr} {c cu cv:Nat} {l lu lv:List Nat} (hr:Rd .u32 w w.heap.size A c l) (hd:Dg l) (hs:l.length≤1000) :
  Calls Tryd.prog 11 #[.slice A l.length c,.agg #[.slice Au lu.length cu,.slice Av lv.length cv,.bool true]] w (PtR none w):=by
 obtain ⟨w1,hw1⟩:∃ W,W=w.alloc (.cells #[.slice Au lu.length cu,.slice Av lv.length cv,.bool true] 26):=⟨_,rfl⟩
 have hz1:w1.heap.size=w.heap.size+1:=by rw [hw1];simp
 have hb1:Below w.heap.size w w1:=by rw [hw1];exact (Below.refl _ _).alloc (Nat.le_refl _) _
 obtain ⟨w2,hw2⟩:∃ W,W=w1.alloc (.cells #[.slice none 0 0,.slice none 0 0,.bool false] 26):=⟨_,rfl⟩
 have hz2:w2.heap.size=w.heap.size+1+1:=by rw [hw2];simp [hz1]
 have hb2:Below w.heap.size w w2:=by rw [hw2];exact hb1.alloc hb1.size _
 obtain ⟨w3,hw3⟩:∃ W,W=w2.alloc (.cells #[.slice none 0 0,.slice none 0 0,.slice none 0 0] 58):=⟨_,rfl⟩
 have hb3:Below w.heap.size w w3:=by rw [hw3];exact hb2.alloc hb2.size _
 have PB:Hid (Holds w3 w.heap.size 26 #[.slice Au lu.length cu,.slice Av lv.length cv,.bool true]):=lH (by rw [hw3,hw2,hw1];exact ((Holds.fresh w _ _).alloc _).alloc _)
 have RB:Hid (Holds w3 (w.heap.size+1) 26 #[.slice none 0 0,.slice none 0 0,.bool false]):=lH (by rw [hw3,hw2,←hz1];exact (Holds.fresh w1 _ _).alloc _)
 have JB:Hid (Holds w3 (w.heap.size+1+1) 58 #[.slice none 0 0,.slice none 0 0,.slice none 0 0]):=lH (by rw [hw3,←hz2];exact Holds.fresh w2 _ _)
 have HB:=lH hb3
 have HW:=lH (hw1 ▸ hw2 ▸ hw3:w3=((w.alloc (.cells #[.slice Au lu.length cu,.slice Av lv.length cv,.bool true] 26)).alloc (.cells #[.slice none 0 0,.slice none 0 0,.bool false] 26)).alloc (.cells #[.slice none 0 0,.slice none 0 0,.slice none 0 0] 58))
 have HR:=lH hr
 have HBT:=lH (bits'_any w3 w.heap.size A c l (hr.under hb3) hd (by omega) _ rfl)
 clear hw1 hz1 hb1 hw2 hz2 hb2 hw3 hb3
 go_enter Tryd.func11,Tryd.ntmps11
 go_wp2_with fail
 rw [←HW.out]
 clear HW
 refine HBT.out.mono ?_
 rintro e w4 ⟨rfl,rfl⟩
 clear HBT
 have hN:nb l≤32000:=by have:=nb_le hd;omega
 generalize nb l=N at *
 have HPT:=lH (pointR_any w3 ⟨0,0,0⟩ (NR.nought w3) (NR.nought w3) (NR.nought w3))
 have HN:Hid (N≤32000):=lH hN
 go_wp2_with fail
 go_loopw [6] (fun si wr=>si = .int .i64 ((N:Int) - 1)∧w3=wr) (fun si _=>0)
 case atStart=>exact ⟨rfl,rfl⟩
 case round =>
  obtain ⟨rfl,rfl⟩:=hrel
  have cp0:=PB.out.cell 0
  have cp1:=PB.out.cell 1
  have cp2:=PB.out.cell 2
  have cj0:=JB.out.cell 0
  have cj1:=JB.out.cell 1
  have cj2:=JB.out.cell 2
  have hN:=HN.out
  by_cases hN0:N=0
  ·subst hN0
   go_wp2_with fail
   refine HPT.out.mono ?_
   rintro e w8 ⟨Aa,ca,la,Ab,cb,lb,inf,rfl,hq,hb8⟩
   have RB8:=lH (RB.out.under hb8 (Holds.lt RB.out))
   have HB8:=lH (HB.out.trans (hb8.mono HB.out.size))
   have HQ:=lH hq
   clear hb8 hq HPT
   have r0:=RB8.out.cell 0
   have r1:=RB8.out.cell 1
   have r2:=RB8.out.cell 2
   have o0:=RB8.out.open_ 0
   have o1:=RB8.out.open_ 1
   have o2:=RB8.out.open_ 2
   go_wp2_with fail
   have HRL:=set3 RB8.out (.slice Aa la.length ca) (.slice Ab lb.length cb) (.bool inf)
   refine ret_pt (g:=w.heap.size+1) rfl rfl HRL rfl ⟨Aa,ca,la,Ab,cb,lb,inf,rfl,⟨HQ.out.inf,HQ.out.x.store3 RB8.out no_numsP _ _ _,HQ.out.y.store3 RB8.out no_numsP _ _ _⟩,below3 HB8.out (by omega) _ _ _⟩
  ·have hN1:(0:Int)≤(N:Int) - 1:=by omega
   have hN2:decide ((0:Int)≤(N:Int) - 1)=true:=decide_eq_true hN1
   go_wp2_with fail
   refine HPT.out.mono ?_
   rintro e w8 ⟨Aa,ca,la,Ab,cb,lb,inf,rfl,hq,hb8⟩
   have RB8:=lH (RB.out.under hb8 (Holds.lt RB.out))
   have HB8:=lH (HB.out.trans (hb8.mono HB.out.size))
   have HQ:=lH hq
   clear hb8 hq HPT
   have r0:=RB8.out.cell 0
   have r1:=RB8.out.cell 1
   have r2:=RB8.out.cell 2
   have o0:=RB8.out.open_ 0
   have o1:=RB8.out.open_ 1
   have o2:=RB8.out.open_ 2
   go_wp2_with fail
   have HRL:=set3 RB8.out (.slice Aa la.length ca) (.slice Ab lb.length cb) (.bool inf)
   refine ret_pt (g:=w.heap.size+1) rfl rfl HRL rfl ⟨Aa,ca,la,Ab,cb,lb,inf,rfl,⟨HQ.out.inf,HQ.out.x.store3 RB8.out no_numsP _ _ _,HQ.out.y.store3 RB8.out no_numsP _ _ _⟩,below3 HB8.out (by omega) _ _ _⟩
theorem timesR_some (w:World) (u v:Luc.F) (ho:Luc.On u v) {A Au Av:Option Addr} {c cu cv:Nat} {l lu lv:List Nat} (hr:Rd .u32 w w.heap.size A c l) (hd:Dg l) (hs:l.length≤1000) (hn:nrm l) (hu:NR w Au cu lu u) (hv:NR w Av cv lv v) :
  Calls Tryd.prog 11 #[.slice A l.length c,.agg #[.slice Au lu.length cu,.slice Av lv.length cv,.bool false]] w (PtR (Luc.nmul (some (u,v)) (val l)) w):=by
 obtain ⟨w1,hw1⟩:∃ W,W=w.alloc (.cells #[.slice Au lu.length cu,.slice Av lv.length cv,.bool false] 26):=⟨_,rfl⟩
 have hz1:w1.heap.size=w.heap.size+1:=by rw [hw1];simp
 have hb1:Below w.heap.size w w1:=by rw [hw1];exact (Below.refl _ _).alloc (Nat.le_refl _) _
 obtain ⟨w2,hw2⟩:∃ W,W=w1.alloc (.cells #[.slice none 0 0,.slice none 0 0,.bool false] 26):=⟨_,rfl⟩
 have hz2:w2.heap.size=w.heap.size+1+1:=by rw [hw2];simp [hz1]
 have hb2:Below w.heap.size w w2:=by rw [hw2];exact hb1.alloc hb1.size _
 obtain ⟨w3,hw3⟩:∃ W,W=w2.alloc (.cells #[.slice none 0 0,.slice none 0 0,.slice none 0 0] 58):=⟨_,rfl⟩
 have hb3:Below w.heap.size w w3:=by rw [hw3];exact hb2.alloc hb2.size _
 have PB:Hid (Holds w3 w.heap.size 26 #[.slice Au lu.length cu,.slice Av lv.length cv,.bool false]):=lH (by rw [hw3,hw2,hw1];exact ((Holds.fresh w _ _).alloc _).alloc _)
 have RB:Hid (Holds w3 (w.heap.size+1) 26 #[.slice none 0 0,.slice none 0 0,.bool false]):=lH (by rw [hw3,hw2,←hz1];exact (Holds.fresh w1 _ _).alloc _)
 have JB:Hid (Holds w3 (w.heap.size+1+1) 58 #[.slice none 0 0,.slice none 0 0,.slice none 0 0]):=lH (by rw [hw3,←hz2];exact Holds.fresh w2 _ _)
 have HB:=lH hb3
 have HW:=lH (hw1 ▸ hw2 ▸ hw3:w3=((w.alloc (.cells #[.slice Au lu.length cu,.slice Av lv.length cv,.bool false] 26)).alloc (.cells #[.slice none 0 0,.slice none 0 0,.bool false] 26)).alloc (.cells #[.slice none 0 0,.slice none 0 0,.slice none 0 0] 58))
 have HR:=lH hr
 have HBT:=lH (bits'_any w3 w.heap.size A c l (hr.under hb3) hd (by omega) _ rfl)
 clear hw1 hz1 hb1 hw2 hz2 hb2 hw3 hb3
 have HU:=lH hu
 have HV0:=lH hv
 have HD:=lH hd
 clear hu hv
 go_enter Tryd.func11,Tryd.ntmps11
 go_wp2_with fail
 rw [←HW.out]
 clear HW
 refine HBT.out.mono ?_
 rintro e w4 ⟨rfl,rfl⟩
 clear HBT
 have Htop:=lH (show val l / 2 ^ nb l=0 by
  have h:=val_top hd
  rwa [trl_id hn] at h)
 have hnb64:nb l≤32*l.length:=nb_le hd
 obtain ⟨E,HE⟩:∃ E,Hid (E=val l):=⟨_,rfl⟩
 obtain ⟨N,HN⟩:∃ N,Hid (N=nb l):=⟨_,rfl⟩
 rw [←HN.out] at Htop hnb64 ⊢
 rw [←HE.out] at Htop ⊢
 have hp:Luc.OnC (some (u,v)):=ho
 have HP:=lH hp
 have HO:=lH ho
 clear hd hn hp ho
 go_wp2_with fail
 go_loopw [6] (fun si wr=>∃ (i:Nat) (j:Luc.Jc) (A1 A2 A3:Option Addr) (c1 c2 c3:Nat) (l1 l2 l3:List Nat),i≤N∧si = .int .i64 ((i:Int) - 1)∧Hid (Luc.Rep j=Luc.nmul (some (u,v)) (E / 2 ^ i))∧Hid (Holds wr (w.heap.size+1+1) 58 #[.slice A1 l1.length c1,.slice A2 l2.length c2,.slice A3 l3.length c3])∧Hid (NR wr A1 c1 l1 j.x∧NR wr A2 c2 l2 j.y∧NR wr A3 c3 l3 j.z)∧Hid (Holds wr w.heap.size 26 #[.slice Au lu.length cu,.slice Av lv.length cv,.bool false])∧Hid (Holds wr (w.heap.size+1) 26 #[.slice none 0 0,.slice none 0 0,.bool false])∧Hid (Below w.heap.size w wr)) (fun si _=>(intOf si+1).toNat)
 case atStart=>exact ⟨N,⟨0,0,0⟩,none,none,none,0,0,0,[],[],[],Nat.le_refl _,rfl,lH (by rw [Htop.out];exact Luc.Rep.no rfl),JB,lH ⟨NR.nought _,NR.nought _,NR.nought _⟩,PB,RB,HB⟩
 case round =>
  obtain ⟨i,j,A1,A2,A3,c1,c2,c3,l1,l2,l3,hi,rfl,HJ,JBr,NJ,PBr,RBr,HBr⟩:=hrel
  have NJ1:=lH NJ.out.1
  have NJ2:=lH NJ.out.2.1
  have NJ3:=lH NJ.out.2.2
  clear NJ PB RB JB HB
  have cp0:=PBr.out.cell 0
  have cp1:=PBr.out.cell 1
  have cp2:=PBr.out.cell 2
  have cj0:=JBr.out.cell 0
  have cj1:=JBr.out.cell 1
  have cj2:=JBr.out.cell 2
  rcases i with _ | i
  ·have HJ2:Hid (Luc.Rep j=Luc.nmul (some (u,v)) (val l)):=lH (by rw [HJ.out,Nat.pow_zero,Nat.div_one,HE.out])
   have HPT:=lH (pointR_any wr j NJ1.out NJ2.out NJ3.out)
   rw [HJ2.out] at HPT
   go_wp2_with fail
   refine HPT.out.mono ?_
   rintro e w8 ⟨Aa,ca,la,Ab,cb,lb,inf,rfl,hq,hb8⟩
   have RB8:=lH (RBr.out.under hb8 (Holds.lt RBr.out))
   have HB8:=lH (HBr.out.trans (hb8.mono HBr.out.size))
   have HQ:=lH hq
   clear hb8 hq HPT
   have r0:=RB8.out.cell 0
   have r1:=RB8.out.cell 1
   have r2:=RB8.out.cell 2
   have o0:=RB8.out.open_ 0
   have o1:=RB8.out.open_ 1
   have o2:=RB8.out.open_ 2
   go_wp2_with fail
   have HRL:=set3 RB8.out (.slice Aa la.length ca) (.slice Ab lb.length cb) (.bool inf)
   refine ret_pt (g:=w.heap.size+1) rfl rfl HRL rfl ⟨Aa,ca,la,Ab,cb,lb,inf,rfl,⟨HQ.out.inf,HQ.out.x.store3 RB8.out no_numsP _ _ _,HQ.out.y.store3 RB8.out no_numsP _ _ _⟩,below3 HB8.out (by omega) _ _ _⟩
  ·rw [show (((i+1:Nat):Int) - 1)=(i:Int) from by omega]
   obtain ⟨bit,Hbit⟩:∃ b,Hid (E / 2 ^ i % 2=b):=⟨_,rfl⟩
   have Hst:=lH (pow_step 0 E i 0 bit Hbit.out)
   have hon:Luc.OnC (Luc.Rep j):=by rw [HJ.out];exact Luc.nmul_on HP.out _
   have HD2:Hid (Luc.Rep (Luc.dbl j)=Luc.nmul (some (u,v)) (2*(E / 2 ^ (i+1)))):=lH (by rw [Luc.dbl_rep hon,HJ.out,Luc.nmul_two HP.out])
   have HTW:=lH (twiceR_any wr j NJ1.out NJ2.out NJ3.out)
   clear hon
   go_wp2_with fail
   refine HTW.out.mono ?_
   rintro e w5 ⟨B1,d1,m1,B2,d2,m2,B3,d3,m3,rfl,q1,q2,q3,hb5⟩
   have JB5:=lH (JBr.out.under hb5 (Holds.lt JBr.out))
   have PB5:=lH (PBr.out.under hb5 (Holds.lt PBr.out))
   have RB5:=lH (RBr.out.under hb5 (Holds.lt RBr.out))
   have HB5:=lH (HBr.out.trans (hb5.mono HBr.out.size))
   have Q1:=lH q1
   have Q2:=lH q2
   have Q3:=lH q3
   clear HTW q1 q2 q3 hb5 cp0 cj0 cp1 cj1 cp2 cj2 NJ1 NJ2 NJ3 JBr PBr RBr HBr
   have cz0:=JB5.out.cell 0
   have cz1:=JB5.out.cell 1
   have cz2:=JB5.out.cell 2
   have oz0:=JB5.out.open_ 0
   have oz1:=JB5.out.open_ 1
   have oz2:=JB5.out.open_ 2
   obtain ⟨V,hV⟩:∃ W,W=(((w5.setCell ⟨(w.heap.size+1+1),0,none⟩ (.slice B1 m1.length d1)).setCell ⟨(w.heap.size+1+1),1,none⟩ (.slice B2 m2.length d2)).setCell ⟨(w.heap.size+1+1),2,none⟩ (.slice B3 m3.length d3)):=⟨_,rfl⟩
   have HV:=lH hV
   have JV:Hid (Holds V (w.heap.size+1+1) 58 #[.slice B1 m1.length d1,.slice B2 m2.length d2,.slice B3 m3.length d3]):=lH (by rw [hV];exact set3 JB5.out _ _ _)
   have PV:Hid (Holds V w.heap.size 26 #[.slice Au lu.length cu,.slice Av lv.length cv,.bool false]):=lH (by rw [hV];exact holds_aside3 PB5.out (k:=(w.heap.size+1+1)) (by omega) _ _ _)
   have RV:Hid (Holds V (w.heap.size+1) 26 #[.slice none 0 0,.slice none 0 0,.bool false]):=lH (by rw [hV];exact holds_aside3 RB5.out (k:=(w.heap.size+1+1)) (by omega) _ _ _)
   have BV:Hid (Below w.heap.size w V):=lH (by rw [hV];exact below3 HB5.out (by omega) _ _ _)
   have V1:Hid (NR V B1 d1 m1 (Luc.dbl j).x):=lH (by rw [hV];exact Q1.out.store3 JB5.out no_nums3 _ _ _)
   have V2:Hid (NR V B2 d2 m2 (Luc.dbl j).y):=lH (by rw [hV];exact Q2.out.store3 JB5.out no_nums3 _ _ _)
   have V3:Hid (NR V B3 d3 m3 (Luc.dbl j).z):=lH (by rw [hV];exact Q3.out.store3 JB5.out no_nums3 _ _ _)
   have hrV:=HR.out.under BV.out
   obtain ⟨be,oe,x,rfl,hbe,hx,Hx⟩:=hrV.at_ (i:=i / 32) (by omega)
   have hxl:x<4294967296:=by rw [Hx.out];exact HD.out.at_ _
   have hix:i / 32<l.length:=by omega
   have hlc:=hrV.1
   have hlc63:=hrV.2.1
   have hand:=and_one x (i % 32) hxl
   rw [Hx.out,bit_at HD.out i,←HE.out,Hbit.out,←Hx.out] at hand
   clear hrV Q1 Q2 Q3 JB5 PB5 RB5 HB5
   by_cases hbit:bit=1
   ·subst hbit
    have htest:(bits .and .u32 ((x:Int) / 2 ^ (i % 32)) 1 == 1)=true:=by rw [hand];rfl
    clear hand
    have cp0:=PV.out.cell 0
    have cp1:=PV.out.cell 1
    have cp2:=PV.out.cell 2
    have cj0:=JV.out.cell 0
    have cj1:=JV.out.cell 1
    have cj2:=JV.out.cell 2
    rw [hV] at hx cp0 cj0 cp1 cj1 cp2 cj2
    clear hV
    have HMO:=lH (moreR_any V (Luc.dbl j) u v V1.out V2.out V3.out (HU.out.under (BV.out)) (HV0.out.under (BV.out)))
    go_wp2_with fail
    rw [←HV.out]
    refine HMO.out.mono ?_
    rintro e w6 ⟨C1,e1,n1,C2,e2,n2,C3,e3,n3,rfl,q1,q2,q3,hb6⟩
    have J6:=lH (JV.out.under hb6 (Holds.lt JV.out))
    have P6:=lH (PV.out.under hb6 (Holds.lt PV.out))
    have R6:=lH (RV.out.under hb6 (Holds.lt RV.out))
    have B6:=lH (BV.out.trans (hb6.mono BV.out.size))
    have hon2:Luc.OnC (Luc.Rep (Luc.dbl j)):=by rw [HD2.out];exact Luc.nmul_on HP.out _
    have HJ6:Hid (Luc.Rep (Luc.pls (Luc.dbl j) u v)=Luc.nmul (some (u,v)) (E / 2 ^ i)):=lH (by rw [Luc.pls_rep hon2 HO.out,HD2.out,Hst.out];rfl)
    have Q1:=lH q1
    have Q2:=lH q2
    have Q3:=lH q3
    clear HMO HV q1 q2 q3 hb6 hon2 hx hbe cp0 cj0 cz0 oz0 cp1 cj1 cz1 oz1 cp2 cj2 cz2 oz2
    have cz0:=J6.out.cell 0
    have cz1:=J6.out.cell 1
    have cz2:=J6.out.cell 2
    have oz0:=J6.out.open_ 0
    have oz1:=J6.out.open_ 1
    have oz2:=J6.out.open_ 2
    go_wp2_with fail
    exact ⟨⟨i,_,C1,C2,C3,e1,e2,e3,n1,n2,n3,by omega,rfl,HJ6,lH (set3 J6.out _ _ _),lH ⟨Q1.out.store3 J6.out no_nums3 _ _ _,Q2.out.store3 J6.out no_nums3 _ _ _,Q3.out.store3 J6.out no_nums3 _ _ _⟩,lH (holds_aside3 P6.out (k:=(w.heap.size+1+1)) (by omega) _ _ _),lH (holds_aside3 R6.out (k:=(w.heap.size+1+1)) (by omega) _ _ _),lH (below3 B6.out (by omega) _ _ _)⟩,by simp [intOf]⟩
   ·have hb0:bit=0:=by have:=Hbit.out;omega
    subst hb0
    have htest:(bits .and .u32 ((x:Int) / 2 ^ (i % 32)) 1 == 1)=false:=by rw [hand];rfl
    clear hand
    rw [hV] at hx
    clear hV
    have HJ6:Hid (Luc.Rep (Luc.dbl j)=Luc.nmul (some (u,v)) (E / 2 ^ i)):=lH (by rw [HD2.out,Hst.out];rfl)
    go_wp2_with fail
    rw [←HV.out]
    exact ⟨⟨i,_,B1,B2,B3,d1,d2,d3,m1,m2,m3,by omega,rfl,HJ6,JV,lH ⟨V1.out,V2.out,V3.out⟩,PV,RV,BV⟩,by simp [intOf]⟩
end Go.Proofs.YtflfdglpljodbaaDoor
