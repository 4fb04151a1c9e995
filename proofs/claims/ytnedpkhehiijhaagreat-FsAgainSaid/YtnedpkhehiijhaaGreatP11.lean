/- Words and laws for the statement, part 11. -/
import Derived.Test.YtnedpkhehiijhaaGreatP05
import Derived.Test.YtnedpkhehiijhaaGreatP10
namespace Go.Proofs.YtnedpkhehiijhaaGreat
open Go.RowKit
set_option linter.unusedVariables false

theorem partK_len (d:List Nat) (k:Nat):(partK d k).length=64:=secOf_length _
theorem partK_at {d:List Nat} {k j:Nat} (hj:j<64) (h:64*k+j<d.length):(partK d k)[j]?=d[64*k+j]?:=by
 unfold partK
 rw [secOf_short (by rw [List.length_take];omega)]
 rw [List.getElem?_append_left (by rw [List.length_take,List.length_drop];omega),List.getElem?_take_of_lt hj,List.getElem?_drop]
theorem parts_all (d:List Nat):((List.range (needN d)).flatMap (partK d)).take d.length=d:=by
 apply List.ext_getElem?
 intro t
 by_cases ht:t<d.length
 ·rw [List.getElem?_take_of_lt ht]
  have hk:t / 64<needN d:=by unfold needN;omega
  have h:=flat_at (f:=partK d) (m:=64) (L:=List.range (needN d)) (fun x _=>partK_len d x) (i:=t / 64) (j:=t % 64) (x:=t / 64) (by rw [List.getElem?_range hk]) (by omega)
  rw [show 64*(t / 64)+t % 64=t by omega] at h
  rw [h,partK_at (by omega) (by omega),show 64*(t / 64)+t % 64=t by omega]
 ·rw [List.getElem?_eq_none (by rw [List.length_take];omega),List.getElem?_eq_none (by omega)]
theorem NdOf.of_v {b:List Nat} {d d':Nd} (h:NdOf b d) (e:d.v=d'.v):NdOf b d':=by
 unfold Nd.v at e
 injection e with e1 e
 injection e with e2 e3
 obtain ⟨z,p,f,hr,h1,h2⟩:=h
 exact ⟨z,p,f,by rw [←e1];exact hr,by rw [←e2];exact h1,by rw [←e3];exact h2⟩
theorem NdOf.free {d:Nd} (e:d.v=zV):NdOf zsec d:=by
 unfold Nd.v zV at e
 injection e with e1 e
 injection e with e2 e3
 exact ⟨0,[],true,.free e1 rfl rfl rfl,e2,e3⟩
theorem NdOf.node {d:Nd} {s:ByteArray} {z:Nat} {pl:List Nat} (e:d.v=(s,(z:Int),pl.map fun x:Nat=>(x:Int))) (hok:NodeOk s z (pl.map fun x:Nat=>(x:Int))) (hs:∀ x∈pl,x≤65535):NdOf (enc s z pl) d:=by
 unfold Nd.v at e
 injection e with e1 e
 injection e with e2 e3
 exact ⟨z,pl,false,.node (by rw [e1];exact ⟨hok,hs,rfl⟩),e2,e3⟩
section
variable {s s':Dk} {ns ns':List Nd} {fs:FateF} {p:Pln}
theorem Done.mounts (hm:Mounts s ns) (hd:Done (nvOf ns) s.many fs p) (ha:After s s' p.ws) (hn:ns'.length=40) (he:∀ i,i<40→nvOf ns' i=p.nv i):Mounts s' ns':=by
 refine ⟨hn,by rw [ha.many];exact hm.many,fun i hi=>?_,?_⟩
 ·have e:=he i hi
  rcases hd.slot i hi with ⟨h1,h2⟩ | ⟨h1,h2⟩ | ⟨t,d,h0,pl,h1,h2,h3,h4,h5⟩
  ·rw [ha.off i (by omega) h2]
   exact (hm.rd i hi).of_v (by rw [show (ns'.getD i default).v=nvOf ns' i from rfl,e,h1];rfl)
  ·rw [show s'.read (157+(i:Int))=zsec from ha.on _ h2]
   exact NdOf.free (e.trans h1)
  ·rw [show s'.read (157+(i:Int))=enc t d.length pl from ha.on _ h4]
   refine NdOf.node (e.trans h1) ?_ h3
   have:=hd.nok.node i hi (by rw [h1];exact name_used h0)
   rw [h1] at this
   exact this
 ·rw [ha.many]
  exact NvOk.roomOk (m:=s.many) ⟨fun i hi hu=>by rw [he i hi] at hu ⊢;exact hd.nok.node i hi hu,fun i hi hu=>by rw [he i hi] at hu ⊢;exact hd.nok.rng i hi hu,
   fun i j hi hj hij hu hv=>by rw [he i hi] at hu ⊢;rw [he j hj] at hv ⊢;exact hd.nok.name i j hi hj hij hu hv,
   fun i j hi hj hij hu hv=>by rw [he i hi] at hu ⊢;rw [he j hj] at hv ⊢;exact hd.nok.plc i j hi hj hij hu hv,
   fun i hi hu=>by rw [he i hi] at hu ⊢;exact hd.nok.none i hi hu⟩ hn (by have:=hm.room.m1;omega)
theorem Done.data_put (ha:After s s' p.ws) {i:Nat} {t:ByteArray} {d:List Nat} (h:PutAt p i t d) (he:nvOf ns' i=p.nv i):dataN s' (ns'.getD i default)=d:=by
 obtain ⟨pl,h1,h2,h3,h4,h5⟩:=h
 have e:(ns'.getD i default).v=(t,(d.length:Int),pl.map fun x:Nat=>(x:Int)):=he.trans h1
 unfold Nd.v at e
 injection e with e1 e
 injection e with e2 e3
 unfold dataN secsN
 rw [e2,e3,Int.toNat_natCast]
 have e4:((pl.map fun x:Nat=>(x:Int)).flatMap fun p=>s'.read (157+p))=(List.range (needN d)).flatMap (partK d):=by
  rw [List.flatMap_map]
  unfold List.flatMap
  congr 1
  apply List.ext_getElem
  ·simp [h2]
  ·intro k hk1 hk2
   have hk:k<needN d:=by simpa using hk2
   have hk':k<pl.length:=by omega
   simp only [List.getElem_map,List.getElem_range]
   have:=ha.on _ (h5 k hk)
   have e5:pl.getD k 0=pl[k]:=by simp [List.getD,hk']
   rw [e5] at this
   exact this
 rw [e4]
 exact parts_all d
theorem Done.data_kept (hd:Done (nvOf ns) s.many fs p) (hm:Mounts s ns) (ha:After s s' p.ws) {i:Nat} (hi:i<40) (he:nvOf ns' i=nvOf ns i):dataN s' (ns'.getD i default)=dataN s (ns.getD i default):=by
 have e:(ns'.getD i default).v=(ns.getD i default).v:=he
 unfold Nd.v at e
 injection e with e1 e
 injection e with e2 e3
 unfold dataN secsN
 rw [e2,e3]
 congr 1
 unfold List.flatMap
 congr 1
 refine List.map_congr_left fun x hx=>?_
 refine ha.off x ?_ fun q hq=>hd.plc i hi x hx q hq
 have hov:=hm.nvOk
 cases hu:usedV (nvOf ns i) with
 | true=>have:=(hov.rng i hi hu x hx).1;omega
 | false =>
  have h0:=hov.none i hi hu
  have:(ns.getD i default).pl=[]:=congrArg (fun v:V3=>v.2.2) h0
  rw [this] at hx
  cases hx
/-- What the file of this name holds. -/
def viewN (s:Dk) (ns:List Nd) (t:ByteArray):Option (List Nat):=(slotO (nvOf ns) t).map fun i=>dataN s (ns.getD i default)
theorem slotO_ext {a b:Nat→V3} (h:∀ i,i<40→a i=b i) (t:ByteArray):slotO a t=slotO b t:=by
 unfold slotO
 have:∀ l:List Nat,(∀ i∈l,i<40)→l.find? (fun i=>usedV (a i) && decide ((a i).1=t))=l.find? (fun i=>usedV (b i) && decide ((b i).1=t)):=fun l hl=>by
  induction l with
  | nil=>rfl
  | cons x l ih=>rw [List.find?_cons,List.find?_cons,h x (hl x (List.mem_cons_self ..)),ih fun i hi=>hl i (List.mem_cons_of_mem _ hi)]
 exact this _ fun i hi=>List.mem_range.1 hi
theorem Done.view (hm:Mounts s ns) (hd:Done (nvOf ns) s.many fs p) (ha:After s s' p.ws) (he:∀ i,i<40→nvOf ns' i=p.nv i) (t:ByteArray) :
  viewN s' ns' t=match fs t with | some x=>x | none=>viewN s ns t:=by
 have hov:=hm.nvOk
 unfold viewN
 rw [slotO_ext he]
 cases hf:fs t with
 | some x =>
  cases x with
  | some d =>
   obtain ⟨h0,i,hi,hp⟩:=hd.put t d hf
   have e1:(p.nv i).1=t:=by obtain ⟨pl,h1,_⟩:=hp;rw [h1]
   have hu:usedV (p.nv i)=true:=name_used (z:=(p.nv i).2.1) (l:=(p.nv i).2.2) (by rw [e1];exact h0)
   have hs:=slotO_is hd.nok hi hu
   rw [e1] at hs
   rw [hs]
   show some _=some d
   exact congrArg some (Done.data_put ha hp (he i hi))
  | none =>
   cases hs:slotO p.nv t with
   | none=>rfl
   | some i =>
    obtain ⟨a,b,c⟩:=slotO_some hs
    exact absurd c (hd.gone t hf i a b)
 | none =>
  cases hs:slotO p.nv t with
  | some i =>
   obtain ⟨a,b,c⟩:=slotO_some hs
   have e:=hd.same i a b (by rw [c];exact hf)
   have hs2:=slotO_is hov a (by rw [←e];exact b)
   rw [←e,c] at hs2
   rw [hs2]
   show some _=some _
   exact congrArg some (hd.data_kept hm ha a (by rw [he i a,e]))
  | none =>
   cases hs2:slotO (nvOf ns) t with
   | none=>rfl
   | some i =>
    obtain ⟨a,b,c⟩:=slotO_some hs2
    have e:=hd.kept i a b (by rw [c];exact hf)
    exact absurd (by rw [e];exact c) (slotO_none hs a (by rw [e];exact b))
end
end Go.Proofs.YtnedpkhehiijhaaGreat
namespace Go.Proofs.YtnedpkhehiijhaaGreat
open Go.RowKit Go.Shelf
set_option linter.unusedVariables false
set_option linter.unusedSimpArgs false
attribute [local go_sem] Oper.semAt_some

theorem Disk.sec64 {w:World} {F:Nat→Prop} {gd:Nat} {s:Dk} (h:Disk w F gd s) {i:Int} (h0:0≤i) (h1:i<(s.many:Int)):(s.read (157+i)).length=64:=by
 obtain ⟨gn,gl,A,cw,K,ck,hd,_⟩:=h
 unfold Dk.read
 rw [if_pos (by omega)]
 have hl:(157+i).toNat<s.now.length:=by unfold Dk.many at h1;omega
 have e:s.now.getD (157+i).toNat []=s.now[(157+i).toNat]:=by simp [List.getD,hl]
 rw [e]
 exact hd.hn.len (List.getElem?_eq_getElem hl)
section
variable {w:World} {F:Nat→Prop} {gf gd:Nat} {s:Dk} {ns:List Nd}
/-- The data of a file's node. -/
theorem Fsy.data (h:Fsy w F gf gd s ns) {x:Nat} (hx:x<40) :
  Calls Tryz.prog 54 #[.pointer (some ⟨gf,0,none⟩),.agg (ncell (ns.getD x default)).toArray] w fun e w'=>∃ A c,e = .returned (.slice A (dataN s (ns.getD x default)).length c)∧Rd .u8 w' w'.heap.size A c (dataN s (ns.getD x default))∧Below w.heap.size w w'∧∀ g,blockOf A=some g→w.heap.size≤g:=by
 have hov:=h.mt.nvOk
 have hm:ns.getD x default∈ns:=by
  have:ns.getD x default=ns[x]'(by rw [h.fs.n40];exact hx):=by simp [List.getD,h.fs.n40,hx]
  rw [this]
  exact List.getElem_mem _
 have hz:0≤(ns.getD x default).size∧(ns.getD x default).size≤64*((ns.getD x default).pl.length:Int)∧(ns.getD x default).pl.length≤10∧∀ p∈(ns.getD x default).pl,0≤p∧p<(s.many:Int):=by
  cases hu:usedV (nvOf ns x) with
  | true =>
   have hn:=hov.node x hx hu
   have hr:=hov.rng x hx hu
   have hlen:((ns.getD x default).pl.length:Int)=needI (ns.getD x default).size:=hn.len
   have hz0:0≤(ns.getD x default).size:=hn.z0
   have hz6:(ns.getD x default).size≤600:=hn.z600
   have hr':∀ p∈(ns.getD x default).pl,40≤p∧p<(s.many:Int):=hr
   exact ⟨hz0,by rw [hlen];unfold needI;split <;> omega,by have:=needI_le hz6;omega,fun p hp=>⟨by have:=(hr' p hp).1;omega,(hr' p hp).2⟩⟩
  | false =>
   have h0:=hov.none x hx hu
   have e1:(ns.getD x default).size=0:=congrArg (fun v:V3=>v.2.1) h0
   have e2:(ns.getD x default).pl=[]:=congrArg (fun v:V3=>v.2.2) h0
   rw [e1,e2]
   exact ⟨by omega,by simp,by simp,fun p hp=>nomatch hp⟩
 refine (data_any h.dk gf _ h.fs.hd rfl (ns.getD x default) _ rfl (h.fs.rd _ hm) hz.2.2.2 (fun p hp=>h.dk.sec64 (hz.2.2.2 p hp).1 (hz.2.2.2 p hp).2) hz.1 hz.2.1 hz.2.2.1).mono ?_
 rintro e w' ⟨A,m,c,rfl,hm2,h1,h2,h3⟩
 exact ⟨A,c,by rw [hm2],h1,h2,h3⟩
theorem Rd.turns {k:IntKind} {W W':World} {B:Nat} {A:Option Addr} {c:Nat} {l:List Nat} {row:Option Nat} (h:Rd k W B A c l) (hg:W.grownBy W' row) (hr:∀ q,row=some q→∃ o:Obj,W.heap[q]?=some o∧o.isCells=false):Rd k W' B A c l :=
 ⟨h.1,h.2.1,fun hn=>by
  obtain ⟨b,off,e,hb,hc⟩:=h.2.2 hn
  exact ⟨b,off,e,hb,fun j hj=>cell_kept (hc j hj) hg hr⟩⟩
theorem Rd.setCell {k:IntKind} {W:World} {B:Nat} {A:Option Addr} {c:Nat} {l:List Nat} (h:Rd k W B A c l) (p:Addr) (v:Value) (hne:∀ g,blockOf A=some g→g≠p.block):Rd k (W.setCell p v) B A c l :=
 ⟨h.1,h.2.1,fun hn=>by
  obtain ⟨b,off,e,hb,hc⟩:=h.2.2 hn
  exact ⟨b,off,e,hb,fun j hj=>(cell_same (Below.heap_setCell _ p _ b (hne b (by rw [e];rfl))) _).trans (hc j hj)⟩⟩
/-- What Get answers. -/
def GetP (w:World) (x:Option (List Nat)) (e:Ending) (w':World):Prop :=
 Below w.heap.size w w'∧match x with
 | some l=>∃ A c,e = .returned (.tuple #[.slice A l.length c,.bool true])∧Rd .u8 w' w'.heap.size A c l∧∀ g,blockOf A=some g→w.heap.size≤g
 | none=>e = .returned (.tuple #[.slice none 0 0,.bool false])
def OutG (w:World) (s:Dk) (ns:List Nd) (t:ByteArray) (g1 g2:Nat) (c:Code) (pre:List (Fin 40)) (W:World):Prop :=
 c = .ret∧Below w.heap.size w W∧∃ pre' x A k,pre=pre' ++ [x]∧nmS ns x.val=t∧Rd .u8 W W.heap.size A k (dataN s (ns.getD x.val default))∧(∀ g,blockOf A=some g→w.heap.size≤g)∧W.cell? ⟨g1,0,none⟩=some (.slice A (dataN s (ns.getD x.val default)).length k)∧W.cell? ⟨g2,0,none⟩=some (.bool true)
theorem outG_own {w:World} {s:Dk} {ns:List Nd} {t:ByteArray} {g1 g2 B:Nat} (hB:w.heap.size≤B) (c:Code):OwnFrom B (OutG w s ns t g1 g2 c):=fun _ W W' row h hg hr=>by
 obtain ⟨h1,h2,pre',x,A,k,h3,h4,h5,h6,h7,h8⟩:=h
 have hr':∀ q,row=some q→∃ o:Obj,W.heap[q]?=some o∧o.isCells=false:=fun q hq=>(hr q hq).2
 exact ⟨h1,h2.grown hg h2.size fun k e=>Nat.le_trans hB (hr k e).1,pre',x,A,k,h3,h4,(h5.turns hg hr').more hg.size,h6,cell_kept h7 hg hr',cell_kept h8 hg hr'⟩
set_option maxRecDepth 100000 in
set_option maxHeartbeats 8000000 in
theorem get_fs (h:Fsy w F gf gd s ns) (t:ByteArray):Calls Tryz.prog 19 #[.pointer (some ⟨gf,0,none⟩),.string t] w (GetP w (viewN s ns t)):=by
 obtain ⟨V,hV⟩:∃ V,V=(((w.alloc (.cells #[.pointer (some ⟨gf,0,none⟩)] 27)).alloc (.cells #[.string t] 9)).alloc (.cells #[.slice none 0 0] 44)).alloc (.cells #[.bool false] 4):=⟨_,rfl⟩
 have hbV:Below w.heap.size w V:=by rw [hV];exact ((((Below.refl _ _).alloc (Nat.le_refl _) _).alloc (by simp) _).alloc (by simp;omega) _).alloc (by simp;omega) _
 have hzV:V.heap.size=w.heap.size+4:=by rw [hV];simp
 have hh0:Holds V w.heap.size 27 #[.pointer (some ⟨gf,0,none⟩)]:=by rw [hV];exact (((Holds.fresh w _ _).alloc _).alloc _).alloc _
 have hh1:Holds V (w.heap.size+1) 9 #[.string t]:=by
  have:=Holds.fresh (w.alloc (.cells #[.pointer (some ⟨gf,0,none⟩)] 27)) 9 #[.string t]
  rw [show (w.alloc (.cells #[.pointer (some ⟨gf,0,none⟩)] 27)).heap.size=w.heap.size+1 by simp] at this
  rw [hV];exact (this.alloc _).alloc _
 have hh2:Holds V (w.heap.size+2) 44 #[.slice none 0 0]:=by
  have:=Holds.fresh ((w.alloc (.cells #[.pointer (some ⟨gf,0,none⟩)] 27)).alloc (.cells #[.string t] 9)) 44 #[.slice none 0 0]
  rw [show ((w.alloc (.cells #[.pointer (some ⟨gf,0,none⟩)] 27)).alloc (.cells #[.string t] 9)).heap.size=w.heap.size+2 by simp] at this
  rw [hV];exact this.alloc _
 have hh3:Holds V (w.heap.size+3) 4 #[.bool false]:=by
  have:=Holds.fresh (((w.alloc (.cells #[.pointer (some ⟨gf,0,none⟩)] 27)).alloc (.cells #[.string t] 9)).alloc (.cells #[.slice none 0 0] 44)) 4 #[.bool false]
  rw [show (((w.alloc (.cells #[.pointer (some ⟨gf,0,none⟩)] 27)).alloc (.cells #[.string t] 9)).alloc (.cells #[.slice none 0 0] 44)).heap.size=w.heap.size+3 by simp] at this
  rw [hV];exact this
 obtain ⟨V2,hV2⟩:∃ V2,V2=V.alloc (.cells #[.pointer (some ⟨gf,0,none⟩)] 27):=⟨_,rfl⟩
 have hb2:Below V.heap.size V V2:=by rw [hV2];exact (Below.refl _ _).alloc (Nat.le_refl _) _
 have hz2:V2.heap.size=w.heap.size+5:=by rw [hV2];simp;omega
 have hbx:Holds V2 V.heap.size 27 #[.pointer (some ⟨gf,0,none⟩)]:=by rw [hV2];exact Holds.fresh _ _ _
 have hbw2:Below w.heap.size w V2:=hbV.trans (hb2.mono hbV.size)
 have hfs2:Fsy V2 F gf gd s ns:=h.under hbw2
 have hgf:gf<w.heap.size:=h.fs.hd.lt
 rw [hzV] at hbx
 have HST:=Lib.hid (files_stops hfs2.fs (w.heap.size+4) hbx)
 have HFI:=Lib.hid (fsfiles_any V gf)
 have HV:=Lib.hid hV
 have HV2:=Lib.hid hV2
 have HB2:=Lib.hid hbw2
 have HFS:=Lib.hid hfs2
 have z0:=hh0.cell 0
 have HC:Hid (∀ W,Below V2.heap.size V2 W→W.cell? ⟨w.heap.size,0,none⟩=some (.pointer (some ⟨gf,0,none⟩))∧W.cell? ⟨w.heap.size+1,0,none⟩=some (.string t)∧(W.cell? ⟨w.heap.size+2,0,none⟩=some (.slice none 0 0)∧W.frozen? ⟨w.heap.size+2,0,none⟩=false)∧W.cell? ⟨w.heap.size+3,0,none⟩=some (.bool false)∧W.frozen? ⟨w.heap.size+3,0,none⟩=false):=Lib.hid fun W hW=>by
  have a:=(hh0.under hb2 hh0.lt).under hW (hh0.under hb2 hh0.lt).lt
  have b:=(hh1.under hb2 hh1.lt).under hW (hh1.under hb2 hh1.lt).lt
  have c:=(hh2.under hb2 hh2.lt).under hW (hh2.under hb2 hh2.lt).lt
  have d:=(hh3.under hb2 hh3.lt).under hW (hh3.under hb2 hh3.lt).lt
  exact ⟨a.cell 0,b.cell 0,⟨c.cell 0,c.open_ _⟩,d.cell 0,d.open_ _⟩
 have HN:Hid (NvOk (nvOf ns) s.many):=Lib.hid h.mt.nvOk
 clear h hV hV2 hh0 hh1 hh2 hh3 hb2 hbx hfs2 hbV
 refine (callsIn_wide (n:=3)).1 ?_
 refine callsIn_of_wp_marks Tryz.func19 rfl trivial ?_ rfl
 simp only [Tryz.ntmps19,List.size_toArray,List.length_cons,List.length_nil,Nat.reduceAdd,Nat.reduceSub,Array.replicate_succ,Array.replicate_zero,List.push_toArray,List.append_toArray,List.nil_append,List.cons_append]
 refine wpIn_wide.2 ?_
 go_wp2_with (first | (rw [←HV.out]) | (refine HFI.out.mono ?_;rintro e w3 ⟨rfl,rfl⟩;rw [←HV2.out]) | fail)
 refine (wpIn_wide (n:=3)).1 ?_
 refine wpIn_rangeFunc_ownH rfl (by omega) (gf:=99) (lb:=#[.pointer (some ⟨w.heap.size+4,0,none⟩)]) rfl trivial (enters_of Tryz.func99 (by kernel_rfl) rfl) HST.out
  (fun h k=>KpF.trans h k) (fun W l o o' hl ho hc _=>KpF.putObj (n:=V2.heap.size) o' (by omega) (by omega) hl ho hc) (Below.refl _ _) (fun _=>rfl)
  (InvS V2 ns t) (OutG w s ns t (w.heap.size+2) (w.heap.size+3)) (invS_own (Nat.le_refl _)) (outG_own (by omega)) ⟨by simp,Below.refl _ _⟩
  (AxS (fun x g=>#[.pointer (some ⟨gf,0,none⟩),.string t,.pointer (some ⟨w.heap.size,0,none⟩),.pointer (some ⟨w.heap.size+1,0,none⟩),.pointer (some ⟨w.heap.size+2,0,none⟩),.pointer (some ⟨w.heap.size+3,0,none⟩),undef,.pointer (some ⟨g,0,none⟩),.pointer (some ⟨gf,0,none⟩),.func (.func 99) #[] #[.pointer (some ⟨w.heap.size+4,0,none⟩)],.int .i64 ((x.val:Nat):Int),.agg (ncell (ns.getD x.val default)).toArray,undef,undef,undef,undef,undef,undef,undef]) ns) (fun x a'=>axS_own x a') ?assign ?body ?done ?stop
 case assign =>
  rintro l pre ⟨xv,hxv⟩ W K ⟨hI1,hI2⟩ hK
  have HK:=Lib.hid hK
  have HQ:=Lib.hid hI2
  have HI:=Lib.hid hI1
  clear hK hI1 hI2
  unfold AxS at HK
  simp only [fsv,ncell] at HK ⊢
  generalize ns.getD xv default=d at *
  obtain ⟨nm,z,pa,pc,pl⟩:=d
  obtain ⟨pn,hpn⟩:∃ n,pl.length=n:=⟨_,rfl⟩
  dsimp only at HK ⊢
  rw [hpn] at HK ⊢
  simp
  gi_wp2
  have hlt:=HQ.out.size
  have hba:Below W.heap.size W (W.alloc (.cells #[.string nm,.int .i64 z,.slice pa pn pc] 70)):=(Below.refl _ _).alloc (Nat.le_refl _) _
  refine HK.out _ _ (below_keepsFrom hba) (KpF.below (by omega) (by omega) hba) ⟨HI.out,HQ.out.trans (hba.mono hlt)⟩ ⟨_,rfl,Holds.fresh W 70 #[.string nm,.int .i64 z,.slice pa pn pc]⟩
 case body =>
  rintro l pre ⟨xv,hxv⟩ a' W hl hr ⟨hI1,hI2⟩ ⟨g,rfl,hc⟩ hlt
  have HQ:=Lib.hid hI2
  have HI:=Lib.hid hI1
  have HNM:Hid (nmS ns xv=(ns.getD xv default).name):=Lib.hid rfl
  have k0:W.cell? ⟨g,0,none⟩=some (.string (ns.getD xv default).name):=hc.cell 0
  have k1:W.cell? ⟨g,1,none⟩=some (.int .i64 (ns.getD xv default).size):=hc.cell 1
  have k2:W.cell? ⟨g,2,none⟩=some (.slice (ns.getD xv default).pa (ns.getD xv default).pl.length (ns.getD xv default).pc):=hc.cell 2
  obtain ⟨q0,q1,⟨q2,q3⟩,q4,q5⟩:=HC.out W HQ.out
  have HDT:Hid (Calls Tryz.prog 54 #[.pointer (some ⟨gf,0,none⟩),.agg (ncell (ns.getD xv default)).toArray] W fun e w'=>∃ A c,e = .returned (.slice A (dataN s (ns.getD xv default)).length c)∧Rd .u8 w' w'.heap.size A c (dataN s (ns.getD xv default))∧Below W.heap.size W w'∧∀ g,blockOf A=some g→W.heap.size≤g):=Lib.hid ((HFS.out.under HQ.out).data hxv)
  clear hI1 hI2 hc
  dsimp only
  obtain ⟨dl,hdl⟩:∃ dl,dl=dataN s (ns.getD xv default):=⟨_,rfl⟩
  have HDL:=Lib.hid hdl
  rw [←hdl] at HDT
  clear hdl
  simp only [ncell] at HDT ⊢
  generalize hdd:ns.getD xv default=d at HNM HDT k0 k1 k2 ⊢
  clear hdd
  obtain ⟨nm,z,pa,pc,pl⟩:=d
  obtain ⟨pn,hpn⟩:∃ n,pl.length=n:=⟨_,rfl⟩
  dsimp only at k0 k1 k2 HNM HDT ⊢
  rw [hpn] at k2 HDT ⊢
  clear hpn
  by_cases e:nm=t
  ·subst e
   have HD2:=Lib.hid (callsIn_wide (n:=0).2 HDT.out)
   clear HDT
   gi_wp2_with (refine ⟨trivial,?_⟩;gi_at_call 54;refine HD2.out.mono ?_;rintro e W2 ⟨A2,c2,rfl,hr2,hb2,hf2⟩;have hq2:=HQ.out.trans (hb2.mono HQ.out.size);obtain ⟨r0,r1,⟨r2,r3⟩,r4,r5⟩:=HC.out W2 hq2)
   have hbq:Below w.heap.size w W2:=HB2.out.trans (hq2.mono HB2.out.size)
   refine ⟨(below_keepsFrom hb2).trans (((KeepsOthers.setCell _ _ _).trans (KeepsOthers.setCell _ _ _)).from _),rfl,(hbq.setCell (p:=⟨w.heap.size+2,0,none⟩) (by show w.heap.size≤w.heap.size+2;omega) _).setCell (p:=⟨w.heap.size+3,0,none⟩) (by show w.heap.size≤w.heap.size+3;omega) _,pre,⟨xv,hxv⟩,A2,c2,rfl,HNM.out,?_,fun g hg=>by have:=hf2 g hg;have:=HB2.out.size;have:=HQ.out.size;omega,?_,?_⟩
   ·rw [←HDL.out]
    have hsz:∀ g,blockOf A2=some g→w.heap.size+5≤g:=fun g hg=>by have:=hf2 g hg;have:=HQ.out.size;omega
    exact ((hr2.setCell ⟨w.heap.size+2,0,none⟩ _ (fun g hg=>by have:=hsz g hg;show g≠w.heap.size+2;omega)).setCell ⟨w.heap.size+3,0,none⟩ _ (fun g hg=>by have:=hsz g hg;show g≠w.heap.size+3;omega)).more (by simp)
   ·rw [←HDL.out]
    exact (cell_same (Below.heap_setCell _ ⟨w.heap.size+3,0,none⟩ _ (w.heap.size+2) (by show w.heap.size+2≠w.heap.size+3;omega)) _).trans (World.cell?_setCell_same' W2 ⟨w.heap.size+2,0,none⟩ _ (by rw [r2];rfl))
   ·exact World.cell?_setCell_same' _ ⟨w.heap.size+3,0,none⟩ _ (by rw [cell_same (Below.heap_setCell W2 ⟨w.heap.size+2,0,none⟩ _ (w.heap.size+3) (by show w.heap.size+3≠w.heap.size+2;omega)),r4];rfl)
  ·have b0:(nm.toList == t.toList)=false:=by rw [beq_eq_false_iff_ne];exact fun h=>e (bytes_inj h)
   gi_wp2
   refine ⟨KeepsFrom.refl _ _,KpF.refl _ _ _ _,fun x hx=>?_,HQ.out⟩
   rcases List.mem_append.1 hx with hx | hx
   ·exact HI.out x hx
   ·rw [List.mem_singleton.1 hx]
    show nmS ns xv≠t
    rw [HNM.out]
    exact e
 case done =>
  rintro D xs W hD hS ⟨hI1,hI2⟩ hK
  obtain ⟨q0,q1,⟨q2,q3⟩,q4,q5⟩:=HC.out W hI2
  have HK:=Lib.hid hK
  have HSL:=Lib.hid (slotO_none_of hS hI1)
  have hbq:Hid (Below w.heap.size w W):=Lib.hid (HB2.out.trans (hI2.mono HB2.out.size))
  clear hI1 hI2
  go_wp2_with fail
  have e1:w.heap.size+1+1=w.heap.size+2:=rfl
  obtain ⟨W3,hW3⟩:∃ W3,W3=(W.setCell ⟨w.heap.size+2,0,none⟩ (.slice none 0 0)).setCell ⟨w.heap.size+3,0,none⟩ (.bool false):=⟨_,rfl⟩
  have hc1:W3.cell? ⟨w.heap.size+2,0,none⟩=some (.slice none 0 0):=by
   rw [hW3]
   exact (cell_same (Below.heap_setCell _ ⟨w.heap.size+3,0,none⟩ _ (w.heap.size+2) (by show w.heap.size+2≠w.heap.size+3;omega)) _).trans (World.cell?_setCell_same' W ⟨w.heap.size+2,0,none⟩ _ (by rw [q2];rfl))
  have hc2:W3.cell? ⟨w.heap.size+3,0,none⟩=some (.bool false):=by
   rw [hW3]
   exact World.cell?_setCell_same' _ ⟨w.heap.size+3,0,none⟩ _ (by rw [cell_same (Below.heap_setCell W ⟨w.heap.size+2,0,none⟩ _ (w.heap.size+3) (by show w.heap.size+3≠w.heap.size+2;omega)),q4];rfl)
  have hk5:W3.heap[D]?=some (.deferred (some [])):=by
   rw [hW3]
   exact (Below.heap_setCell _ ⟨w.heap.size+3,0,none⟩ _ _ (by show D≠w.heap.size+3;omega)).trans ((Below.heap_setCell _ ⟨w.heap.size+2,0,none⟩ _ _ (by show D≠w.heap.size+2;omega)).trans HK.out)
  have hb3:Below w.heap.size w W3:=by
   rw [hW3]
   exact (hbq.out.setCell (p:=⟨w.heap.size+2,0,none⟩) (by show w.heap.size≤w.heap.size+2;omega) _).setCell (p:=⟨w.heap.size+3,0,none⟩) (by show w.heap.size≤w.heap.size+3;omega) _
  have hc3:=cell_kept hc1 (grownBy_putObj' _ D (.deferred none)) (fun r e=>by cases e;exact ⟨_,hk5,rfl⟩)
  have hc4:=cell_kept hc2 (grownBy_putObj' _ D (.deferred none)) (fun r e=>by cases e;exact ⟨_,hk5,rfl⟩)
  have hbb:=hb3.trans (belowK_b (w:=V2) (n₀:=w.heap.size) (by omega) _ D _ (.deferred none) hD hk5 rfl rfl)
  show bodyPostM _ _ _ _ _ _ _ ((W.setCell ⟨w.heap.size+2,0,none⟩ (.slice none 0 0)).setCell ⟨w.heap.size+3,0,none⟩ (.bool false))
  rw [←hW3]
  refine ⟨by simp,.inl ⟨_,_,rfl,run_takeDeferred hk5,?_⟩⟩
  refine ⟨.tuple #[.slice none 0 0,.bool false],by simp [results,Tryz.results19,go_sem,hc3,hc4],hbb,?_⟩
  unfold viewN
  rw [HSL.out]
  rfl
 case stop =>
  rintro D c pre W hD ⟨ys,hys,hpre⟩ ⟨rfl,hb,pre',x,A,k,rfl,hx,hrd,hfr,hc1,hc2⟩ hK
  have hxy:x∈ys:=hpre.subset (by simp)
  have HSL:=Lib.hid (slotO_some_of HN.out hys hxy)
  rw [hx] at HSL
  obtain ⟨xv,hxv⟩:=x
  dsimp only at HSL hc1 hc2 hrd
  have HB:=Lib.hid hb
  have HR:=Lib.hid hrd
  clear hx hys hpre hb hxy hrd
  gi_wp2
  have hc3:=cell_kept hc1 (grownBy_putObj' _ D (.deferred none)) (fun r e=>by cases e;exact ⟨_,hK,rfl⟩)
  have hc4:=cell_kept hc2 (grownBy_putObj' _ D (.deferred none)) (fun r e=>by cases e;exact ⟨_,hK,rfl⟩)
  refine ⟨by simp,.inl ⟨_,_,rfl,run_takeDeferred hK,?_⟩⟩
  have hbb:=HB.out.trans (belowK_b (w:=V2) (n₀:=w.heap.size) (by omega) _ D _ (.deferred none) hD hK rfl rfl)
  refine ⟨.tuple #[.slice A (dataN s (ns.getD xv default)).length k,.bool true],by simp [results,Tryz.results19,go_sem,hc3,hc4],hbb,?_⟩
  unfold viewN
  rw [HSL.out]
  exact ⟨A,k,rfl,(HR.out.turns (grownBy_putObj' _ D (.deferred none)) (fun r e=>by cases e;exact ⟨_,hK,rfl⟩)).more (by simp),hfr⟩
end
end Go.Proofs.YtnedpkhehiijhaaGreat
namespace Go.Proofs.YtnedpkhehiijhaaGreat
open Go.RowKit Go.Shelf
set_option linter.unusedVariables false
set_option linter.unusedSimpArgs false

theorem opIn_of_op {n:Nat} {P:Program} {o:Oper} {a:Act} {w:World} {K:Act→World→Prop} {Q:Exit→Act→World→Prop} (h:Oper.wp P o a w K Q):Oper.wpIn Fence.wide n P o a w K Q:=by
 refine ⟨fun f _=>trivial,?_⟩
 unfold Oper.wp at h
 show o.uponIn Fence.wide n P a K Q ((execOp a.eval o).run P w)
 generalize (execOp a.eval o).run P w=r at *
 cases r with
 | ok x w' =>
  cases x with
  | value v=>exact h
  | skip=>exact h
  | defer d=>exact h
  | enter f args=>exact ⟨fun e=>(nomatch e),callsIn_wide.2 h⟩
  | row row args=>exact ⟨fun e=>(nomatch e),fun c cs _=>let ⟨v,w'',r,st⟩:=h c cs;⟨v,w'',r,stepsIn_wide.2 st⟩⟩
  | _=>exact False.elim h
 | halt x w' =>
  cases x with
  | panic v=>exact h
  | _=>exact False.elim h
theorem anyIn_of_any {n:Nat} {P:Program} {md:Region.Mode} {ops:Array Oper} {Q:Exit→Act→World→Prop} (hq:¬ LetsOut Q):∀ (fuel:Nat) (listed:Array Bool) (a:Act) (w:World),wpAny P md ops Q fuel listed a w→wpAnyIn Fence.wide n P md ops Q fuel listed a w
 | 0,_,_,_,h=>h
 | fuel+1,listed,a,w,h=>⟨h.1,fun i hi=>by
  have h2:=h.2 i hi
  unfold wpOp at h2
  unfold wpOpIn
  cases ho:ops[i]? with
  | none=>rw [ho] at h2;exact anyIn_of_any hq fuel _ _ _ h2
  | some o =>
   rw [ho] at h2
   dsimp only at h2 ⊢
   split
   ·rename_i hw
    rw [if_pos hw] at h2
    exact Oper.wpIn_mono (fun a w h=>anyIn_of_any hq fuel _ a w h) (opIn_of_op (h2.resolve_right fun h3=>hq h3.2))
   ·rename_i hw
    rw [if_neg hw] at h2
    exact ⟨fun f _=>trivial,anyIn_of_any hq fuel _ _ _ h2⟩⟩
def OnlyN (Q:Exit→Act→World→Prop):Exit→Act→World→Prop
 | .normal,a,w=>Q .normal a w
 | _,_,_=>False
theorem OnlyN.normal {Q:Exit→Act→World→Prop} {a:Act} {w:World} (h:Q .normal a w):OnlyN Q .normal a w:=h
/-- A region that draws its order, in a round, walked as outside. -/
theorem wpIn_region_heldR {l n:Nat} {P:Program} {id:Nat} {ops:Array Oper} {Q:Exit→Act→World→Prop} (S:World→Prop) {a:Act} {w:World} (hm:P.follows .mixedOrders=true) (hd:noDefer ops=true) (hS:S w.drew)
  (h:S w.drew→wpAnyH P .any ops (OnlyN Q) S ops.size (Array.replicate ops.size false) a w.drew):(Code.region id ops true).wpIn (Fence.wide.inRound l) n P Q a w :=
 wpIn_mono (wpIn_region_any hm (anyIn_round hd _ _ _ _ (anyIn_of_any (fun ⟨_,_,h⟩=>h) _ _ _ _ (wpAny_of_held _ _ _ _ (h hS))))) fun e a w h=>by
  cases e with
  | normal=>exact h
  | _=>exact False.elim h
/-- A file in memory: its name, where its data lies. -/
structure Fi where
 name:ByteArray
 da:Option Addr
 dc:Nat
 d:List Nat
instance:Inhabited Fi:=⟨⟨⟨#[]⟩,none,0,[]⟩⟩
def fiCells (f:Fi):List Value:=[.string f.name,.slice f.da f.d.length f.dc]
def Fi.v (f:Fi):ByteArray×List Nat:=(f.name,f.d)
theorem info_file:(Tryz.prog.info? 56).map (fun i=>(i.zero,i.size,i.bytes))=some (some (.agg #[.string ByteArray.empty,.slice none 0 0]),2,40):=by kernel_rfl
/-- The slice '.slice A L.length c' reads as these files. -/
def RdFi (w:World) (B:Nat) (A:Option Addr) (c:Nat) (L:List Fi):Prop :=
 L.length≤c∧c≤9223372036854775807∧(∀ f∈L,Rd .u8 w B f.da f.dc f.d) ∧
  (0<L.length→∃ b off,A=some ⟨b,off,none⟩∧b<B∧∀ j (hj:j<L.length),w.cell? ⟨b,off+j*2,none⟩=some (.string L[j].name)∧w.cell? ⟨b,off+j*2+1,none⟩=some (.slice L[j].da L[j].d.length L[j].dc))
theorem RdFi.of_own {w:World} {A:Option Addr} {c:Nat} {L:List Fi} (h:OwnV 56 2 w A c L.length (L.flatMap fiCells)) (hr:∀ f∈L,Rd .u8 w w.heap.size f.da f.dc f.d):RdFi w w.heap.size A c L:=by
 refine ⟨h.le.1,h.le.2,hr,fun hn=>?_⟩
 have at2:∀ j (hj:j<L.length),∀ t,t<2→∀ v,(fiCells L[j])[t]?=some v→∃ g,A=some ⟨g,0,none⟩∧g<w.heap.size∧w.cell? ⟨g,2*j+t,none⟩=some v:=fun j hj t ht v hv=>by
  have f:=flat_at (f:=fiCells) (m:=2) (L:=L) (fun _ _=>rfl) (List.getElem?_eq_getElem hj) (j:=t) ht
  obtain ⟨g,hA,hlt,hc,_⟩:=h.at_ (j:=2*j+t) (v:=v) (by rw [f];exact hv)
  exact ⟨g,hA,hlt,hc⟩
 obtain ⟨g,rfl,hlt,_⟩:=at2 0 hn 0 (by omega) _ rfl
 refine ⟨g,0,rfl,hlt,fun j hj=>?_⟩
 have k:∀ t,t<2→∀ v,(fiCells L[j])[t]?=some v→w.cell? ⟨g,2*j+t,none⟩=some v:=fun t ht v hv=>by
  obtain ⟨g',e,_,hc⟩:=at2 j hj t ht v hv
  injection e with e
  injection e with e
  subst e
  exact hc
 have k0:=k 0 (by omega) _ rfl
 have k1:=k 1 (by omega) _ rfl
 rw [show 0+j*2=2*j+0 by omega]
 exact ⟨k0,k1⟩
theorem RdFi.under {w w':World} {B:Nat} {A:Option Addr} {c:Nat} {L:List Fi} (h:RdFi w B A c L) (hb:Below B w w'):RdFi w' B A c L :=
 ⟨h.1,h.2.1,fun f hf=>(h.2.2.1 f hf).under hb,fun hn=>by
  obtain ⟨b,off,e,hlt,hc⟩:=h.2.2.2 hn
  exact ⟨b,off,e,hlt,fun j hj=>⟨(hb.cell (p:=⟨b,off+j*2,none⟩) hlt).trans (hc j hj).1,(hb.cell (p:=⟨b,off+j*2+1,none⟩) hlt).trans (hc j hj).2⟩⟩⟩
theorem RdFi.more {w:World} {B B':Nat} {A:Option Addr} {c:Nat} {L:List Fi} (h:RdFi w B A c L) (hB:B≤B'):RdFi w B' A c L :=
 ⟨h.1,h.2.1,fun f hf=>(h.2.2.1 f hf).more hB,fun hn=>by
  obtain ⟨b,off,e,hlt,hc⟩:=h.2.2.2 hn
  exact ⟨b,off,e,by omega,hc⟩⟩
theorem OwnV.cells {e:TypeId} {sz:Nat} {w:World} {A:Option Addr} {c n:Nat} {vs:List Value} (h:OwnV e sz w A c n vs) {g:Nat} (hg:blockOf A=some g):∃ cs fr,w.heap[g]?=some (.cells cs e fr):=by
 rcases h.2 with ⟨hv,_⟩ | ⟨g',cap,cur,hv,_,hc,_⟩
 ·injection hv with hA
  rw [hA] at hg
  cases hg
 ·injection hv with hA
  rw [hA] at hg
  injection hg with hg
  subst hg
  exact ⟨_,_,hc⟩
theorem OwnV.stay {e:TypeId} {sz:Nat} {W W':World} {A:Option Addr} {c n:Nat} {vs:List Value} {row:Option Nat} (h:OwnV e sz W A c n vs) (hg:W.grownBy W' row) (hr:∀ q,row=some q→∃ o:Obj,W.heap[q]?=some o∧o.isCells=false):OwnV e sz W' A c n vs :=
 h.keep fun g hgA _=>by
  obtain ⟨cs,fr,hc⟩:=h.cells hgA
  exact cells_stay hg hr hc rfl
end Go.Proofs.YtnedpkhehiijhaaGreat
namespace Go.Proofs.YtnedpkhehiijhaaGreat
open Go.RowKit Go.Shelf
set_option linter.unusedVariables false
set_option linter.unusedSimpArgs false
attribute [local go_sem] Oper.semAt_some

/-- The row of files, as the rounds leave it. -/
structure LiSt (B gl:Nat) (s:Dk) (ns:List Nd) (pre:List (Fin 40)) (A:Option Addr) (c:Nat) (L:List Fi) (W:World):Prop where
 box:Holds W gl 48 #[.slice A pre.length c]
 len:L.length=pre.length
 own:OwnV 56 2 W A c pre.length (L.flatMap fiCells)
 new:∀ g,blockOf A=some g→B≤g
 val:L.map Fi.v=pre.map fun x=>(nmS ns x.val,dataN s (ns.getD x.val default))
 rd:∀ f∈L,Rd .u8 W W.heap.size f.da f.dc f.d∧(0<f.d.length→∀ g,blockOf f.da=some g→B≤g∧blockOf A≠some g)
theorem Rd.onB {k:IntKind} {w w':World} {B:Nat} {A:Option Addr} {c:Nat} {l:List Nat} (h:Rd k w B A c l) (hk:0<l.length→∀ g,blockOf A=some g→g<B→w'.heap[g]?=w.heap[g]?):Rd k w' B A c l :=
 ⟨h.1,h.2.1,fun hn=>by
  obtain ⟨b,off,e,hb,hc⟩:=h.2.2 hn
  exact ⟨b,off,e,hb,fun j hj=>(cell_same (hk hn b (by rw [e];rfl) hb) _).trans (hc j hj)⟩⟩
theorem Rd.block_lt {k:IntKind} {w:World} {B:Nat} {A:Option Addr} {c:Nat} {l:List Nat} (h:Rd k w B A c l) (hn:0<l.length) {g:Nat} (hg:blockOf A=some g):g<B:=by
 obtain ⟨b,off,e,hb,_⟩:=h.2.2 hn
 rw [e] at hg
 injection hg with hg
 have hg:b=g:=hg
 omega
def InvL (w:World) (gf gl B:Nat) (s:Dk) (ns:List Nd) (pre:List (Fin 40)) (W:World):Prop :=
 Below w.heap.size w W∧B≤W.heap.size∧Holds W w.heap.size 27 #[.pointer (some ⟨gf,0,none⟩)]∧∃ A c L,LiSt B gl s ns pre A c L W
theorem LiSt.stay {B gl:Nat} {s:Dk} {ns:List Nd} {pre:List (Fin 40)} {A:Option Addr} {c:Nat} {L:List Fi} {W W':World} {row:Option Nat} (h:LiSt B gl s ns pre A c L W) (hg:W.grownBy W' row) (hr:∀ q,row=some q→∃ o:Obj,W.heap[q]?=some o∧o.isCells=false):LiSt B gl s ns pre A c L W' :=
 ⟨h.box.stay hg hr,h.len,h.own.stay hg hr,h.new,h.val,fun f hf=>⟨((h.rd f hf).1.turns hg hr).more hg.size,(h.rd f hf).2⟩⟩
theorem invL_own {w:World} {gf gl B B':Nat} {s:Dk} {ns:List Nd} (hB:w.heap.size≤B'):OwnFrom B' (InvL w gf gl B s ns):=fun pre W W' row h hg hr=>by
 obtain ⟨h1,h0,h2,A,c,L,h3⟩:=h
 have hr':∀ q,row=some q→∃ o:Obj,W.heap[q]?=some o∧o.isCells=false:=fun q hq=>(hr q hq).2
 exact ⟨h1.grown hg h1.size fun k e=>Nat.le_trans hB (hr k e).1,Nat.le_trans h0 hg.size,h2.stay hg hr',A,c,L,h3.stay hg hr'⟩
theorem noOut_own {B:Nat} (c:Code):OwnFrom B (fun (_:List (Fin 40)) (_:World)=>False):=fun _ _ _ _ h _ _=>h
/-- What List answers. -/
def ListP (w:World) (s:Dk) (ns:List Nd) (e:Ending) (w':World):Prop :=
 Below w.heap.size w w'∧∃ ys A c L,Slots ns ys∧e = .returned (.slice A ys.length c)∧L.length=ys.length∧L.map Fi.v=ys.map (fun x=>(nmS ns x.val,dataN s (ns.getD x.val default)))∧RdFi w' w'.heap.size A c L
section
variable {w:World} {F:Nat→Prop} {gf gd:Nat} {s:Dk} {ns:List Nd}
set_option maxRecDepth 100000 in
set_option maxHeartbeats 8000000 in
theorem list_fs (h:Fsy w F gf gd s ns):Calls Tryz.prog 22 #[.pointer (some ⟨gf,0,none⟩)] w (ListP w s ns):=by
 obtain ⟨V,hV⟩:∃ V,V=(w.alloc (.cells #[.pointer (some ⟨gf,0,none⟩)] 27)).alloc (.cells #[.slice none 0 0] 48):=⟨_,rfl⟩
 have hbV:Below w.heap.size w V:=by rw [hV];exact ((Below.refl _ _).alloc (Nat.le_refl _) _).alloc (by simp) _
 have hzV:V.heap.size=w.heap.size+2:=by rw [hV];simp
 have hh0:Holds V w.heap.size 27 #[.pointer (some ⟨gf,0,none⟩)]:=by rw [hV];exact (Holds.fresh w _ _).alloc _
 have hh1:Holds V (w.heap.size+1) 48 #[.slice none 0 0]:=by
  have:=Holds.fresh (w.alloc (.cells #[.pointer (some ⟨gf,0,none⟩)] 27)) 48 #[.slice none 0 0]
  rw [show (w.alloc (.cells #[.pointer (some ⟨gf,0,none⟩)] 27)).heap.size=w.heap.size+1 by simp] at this
  rw [hV];exact this
 obtain ⟨V2,hV2⟩:∃ V2,V2=V.alloc (.cells #[.pointer (some ⟨gf,0,none⟩)] 27):=⟨_,rfl⟩
 have hb2:Below V.heap.size V V2:=by rw [hV2];exact (Below.refl _ _).alloc (Nat.le_refl _) _
 have hz2:V2.heap.size=w.heap.size+3:=by rw [hV2];simp;omega
 have hbx:Holds V2 V.heap.size 27 #[.pointer (some ⟨gf,0,none⟩)]:=by rw [hV2];exact Holds.fresh _ _ _
 have hbw2:Below w.heap.size w V2:=hbV.trans (hb2.mono hbV.size)
 have hfs2:Fsy V2 F gf gd s ns:=h.under hbw2
 have hgf:gf<w.heap.size:=h.fs.hd.lt
 rw [hzV] at hbx
 have HST:=Lib.hid (files_stops hfs2.fs (w.heap.size+2) hbx)
 have HFI:=Lib.hid (fsfiles_any V gf)
 have HV:=Lib.hid hV
 have HV2:=Lib.hid hV2
 have HB2:=Lib.hid hbw2
 have HFS:=Lib.hid h
 have z0:=hh0.cell 0
 have z1:=hh1.cell 0
 have hi0:InvL w gf (w.heap.size+1) (w.heap.size+3) s ns [] V2:=⟨hbw2,by omega,hh0.under hb2 hh0.lt,none,0,[],hh1.under hb2 hh1.lt,rfl,OwnV.nil _ _ _,(fun g e=>nomatch e),rfl,fun f hf=>nomatch hf⟩
 clear h hV hV2 hh0 hh1 hb2 hbx hfs2 hbV
 refine (callsIn_wide (n:=3)).1 ?_
 refine callsIn_of_wp_marks Tryz.func22 rfl trivial ?_ rfl
 simp only [Tryz.ntmps22,List.size_toArray,List.length_cons,List.length_nil,Nat.reduceAdd,Nat.reduceSub,Array.replicate_succ,Array.replicate_zero,List.push_toArray,List.append_toArray,List.nil_append,List.cons_append]
 refine wpIn_wide.2 ?_
 go_wp2_with (first | (rw [←HV.out]) | (refine HFI.out.mono ?_;rintro e w3 ⟨rfl,rfl⟩;rw [←HV2.out]) | fail)
 refine (wpIn_wide (n:=3)).1 ?_
 refine wpIn_rangeFunc_ownH rfl (by omega) (gf:=99) (lb:=#[.pointer (some ⟨w.heap.size+2,0,none⟩)]) rfl trivial (enters_of Tryz.func99 (by kernel_rfl) rfl) HST.out
  (fun h k=>KpF.trans h k) (fun W l o o' hl ho hc _=>KpF.putObj (n:=V2.heap.size) o' (by omega) (by omega) hl ho hc) (Below.refl _ _) (fun _=>rfl)
  (InvL w gf (w.heap.size+1) (w.heap.size+3) s ns) (fun _ _ _=>False) (invL_own (by omega)) noOut_own hi0
  (AxS (fun x g=>#[.pointer (some ⟨gf,0,none⟩),.pointer (some ⟨w.heap.size,0,none⟩),.slice none 0 0,.pointer (some ⟨w.heap.size+1,0,none⟩),undef,.pointer (some ⟨g,0,none⟩),.pointer (some ⟨gf,0,none⟩),.func (.func 99) #[] #[.pointer (some ⟨w.heap.size+2,0,none⟩)],.int .i64 ((x.val:Nat):Int),.agg (ncell (ns.getD x.val default)).toArray,undef,undef,undef,undef,undef,undef,undef,undef,undef,undef]) ns) (fun x a'=>axS_own x a') ?assign ?body ?done ?stop
 case assign =>
  rintro l pre ⟨xv,hxv⟩ W K ⟨hI1,hI0,hI2,A,c,L,hI3⟩ hK
  have HK:=Lib.hid hK
  have HI1:=Lib.hid hI1
  have HI2:=Lib.hid hI2
  have HI3:=Lib.hid hI3
  clear hK hI1 hI2 hI3
  unfold AxS at HK
  simp only [fsv,ncell] at HK ⊢
  generalize ns.getD xv default=d at HK ⊢
  obtain ⟨nm,z,pa,pc,pl⟩:=d
  obtain ⟨pn,hpn⟩:∃ n,pl.length=n:=⟨_,rfl⟩
  dsimp only at HK ⊢
  rw [hpn] at HK ⊢
  simp
  gi_wp2
  have hba:Below W.heap.size W (W.alloc (.cells #[.string nm,.int .i64 z,.slice pa pn pc] 70)):=(Below.refl _ _).alloc (Nat.le_refl _) _
  have hgb:=World.grownBy_alloc W (.cells #[.string nm,.int .i64 z,.slice pa pn pc] 70) none
  have hlw:=HI2.out.lt
  have hl1:=HI3.out.box.lt
  refine HK.out _ _ (below_keepsFrom hba) (KpF.below (by omega) (by omega) hba) ⟨HI1.out.trans (hba.mono HI1.out.size),by simp;omega,HI2.out.alloc _,A,c,L,HI3.out.stay hgb (fun q e=>nomatch e)⟩ ⟨_,rfl,Holds.fresh W 70 #[.string nm,.int .i64 z,.slice pa pn pc]⟩
 case body =>
  rintro l pre ⟨xv,hxv⟩ a' W hl hr ⟨hI1,hI0,hI2,A,c,L,hI3⟩ ⟨g,rfl,hc⟩ hlt
  have HND:Hid (Holds W g 70 (ncell (ns.getD xv default)).toArray):=Lib.hid hc
  obtain ⟨dl,hdl⟩:∃ dl,dl=dataN s (ns.getD xv default):=⟨_,rfl⟩
  have HDT:Hid (∀ W',Below w.heap.size w W'→Calls Tryz.prog 54 #[.pointer (some ⟨gf,0,none⟩),.agg (ncell (ns.getD xv default)).toArray] W' fun e w'=>∃ A c,e = .returned (.slice A dl.length c)∧Rd .u8 w' w'.heap.size A c dl∧Below W'.heap.size W' w'∧∀ g,blockOf A=some g→W'.heap.size≤g):=Lib.hid fun W' hW'=>by rw [hdl];exact (HFS.out.under hW').data hxv
  have HDL:=Lib.hid hdl
  have HNM:Hid (nmS ns xv=(ns.getD xv default).name):=Lib.hid rfl
  have HI1:=Lib.hid hI1
  have HI2:=Lib.hid hI2
  have HI3:=Lib.hid hI3
  obtain ⟨m,hm⟩:∃ m,m=pre.length:=⟨_,rfl⟩
  have HM:=Lib.hid hm
  have HBX:Hid (Holds W (w.heap.size+1) 48 #[.slice A m c]):=Lib.hid (by rw [hm];exact hI3.box)
  have HOW:Hid (OwnV 56 2 W A c m (L.flatMap fiCells)):=Lib.hid (by rw [hm];exact hI3.own)
  have HNW:=Lib.hid hI3.new
  have hm40:m<40:=by omega
  clear hdl hI1 hI2 hc hI3 hm hr hlt
  simp only [ncell] at HDT HND ⊢
  generalize hdd:ns.getD xv default=d at HNM HDT HND ⊢
  clear hdd
  obtain ⟨nm,z,pa,pc,pl⟩:=d
  obtain ⟨pn,hpn⟩:∃ n,pl.length=n:=⟨_,rfl⟩
  dsimp only at HND HNM HDT ⊢
  rw [hpn] at HND HDT ⊢
  clear hpn
  have HBF:Hid (Holds W w.heap.size 27 #[.pointer (some ⟨gf,0,none⟩)]):=HI2
  have HAB:Hid (∀ k,blockOf A=some k→∃ cs fr,W.heap[k]?=some (.cells cs 56 fr)):=Lib.hid fun k hk=>HOW.out.cells hk
  have HOF:Hid (∀ k T cs,Holds W k T cs→T≠56→T≠48→¬ (blockOf A=some k∨k=w.heap.size+1)):=Lib.hid fun k T cs hk h1 h2 e=>by
   rcases e with e | e
   ·obtain ⟨cs2,fr,h3⟩:=HAB.out k e
    rw [show W.heap[k]?=_ from hk] at h3
    injection h3 with h3
    injection h3 with _ h3
    exact h1 h3
   ·subst e
    have h3:some (Obj.cells cs T (0,0))=some (Obj.cells #[.slice A m c] 48 (0,0)):=(show W.heap[w.heap.size+1]?=_ from hk).symm.trans HBX.out
    injection h3 with h3
    injection h3 with _ h3
    exact h2 h3
  have HNA:Hid (blockOf A≠some (w.heap.size+1)):=Lib.hid fun e=>by have:=HNW.out _ e;omega
  have HSN:Hid (∀ W',Only (fun k=>blockOf A=some k∨k=w.heap.size+1) W W'→W'.cell? ⟨g,0,none⟩=some (.string nm)∧W'.cell? ⟨g,1,none⟩=some (.int .i64 z)∧W'.cell? ⟨g,2,none⟩=some (.slice pa pn pc)∧W'.cell? ⟨w.heap.size,0,none⟩=some (.pointer (some ⟨gf,0,none⟩))∧Below w.heap.size w W'):=Lib.hid fun W' hW=>by
   have a:Holds W' g 70 #[.string nm,.int .i64 z,.slice pa pn pc]:=(hW.block g HND.out.lt (HOF.out g _ _ HND.out (by decide) (by decide))).trans HND.out
   have b:Holds W' w.heap.size 27 #[.pointer (some ⟨gf,0,none⟩)]:=(hW.block _ HBF.out.lt (HOF.out _ _ _ HBF.out (by decide) (by decide))).trans HBF.out
   refine ⟨a.cell 0,a.cell 1,a.cell 2,b.cell 0,HI1.out.trans ⟨hW.os,hW.tape,hW.output,hW.size,fun k hk=>hW.block k (by omega) fun e=>?_⟩⟩
   rcases e with e | e
   ·have:=HNW.out _ e;omega
   ·omega
  gi_wp2
  refine wpIn_region_heldR (fun W'=>Only (fun k=>blockOf A=some k∨k=w.heap.size+1) W W') (by kernel_rfl) (by kernel_rfl) (Only.refl _ W).drew (fun hHeld=>?_)
  refine wpAnyH_take (i:=1) (oi:={ dst:=some 11,op:=Op.fieldAddr 70 (Operand.tmp 5) 0,type:=0,pos:=_,after:=_,guard:=none }) (v:=?_) rfl (by kernel_rfl) (by kernel_rfl) (by kernel_rfl) (fun _ _ _ h=>h) (Or.inl ⟨by rfl,?_⟩) hHeld ?_
  rotate_left 1
  ·(intro W hW;(try dsimp only at hW);go_simp;try with_reducible rfl)
  try simp only [Act.put,List.setIfInBounds_toArray,List.set_cons_zero,List.set_cons_succ]
  refine wpAnyH_take (i:=2) (oi:={ dst:=some 12,op:=Op.load 9 (Operand.tmp 11),type:=9,pos:=_,after:=_,guard:=none }) (v:=?_) rfl (by kernel_rfl) (by kernel_rfl) (by kernel_rfl) (fun _ _ _ h=>h) (Or.inl ⟨by rfl,?_⟩) hHeld ?_
  rotate_left 1
  ·(intro W hW;have k0:=(HSN.out _ hW).1;(try dsimp only at hW);go_simp;try with_reducible rfl)
  try simp only [Act.put,List.setIfInBounds_toArray,List.set_cons_zero,List.set_cons_succ]
  refine wpAnyH_take (i:=3) (oi:={ dst:=some 13,op:=Op.load 27 (Operand.tmp 1),type:=27,pos:=_,after:=_,guard:=none }) (v:=?_) rfl (by kernel_rfl) (by kernel_rfl) (by kernel_rfl) (fun _ _ _ h=>h) (Or.inl ⟨by rfl,?_⟩) hHeld ?_
  rotate_left 1
  ·(intro W hW;have k0:=(HSN.out _ hW).2.2.2.1;(try dsimp only at hW);go_simp;try with_reducible rfl)
  try simp only [Act.put,List.setIfInBounds_toArray,List.set_cons_zero,List.set_cons_succ]
  refine wpAnyH_take (i:=4) (oi:={ dst:=some 14,op:=Op.load 70 (Operand.tmp 5),type:=70,pos:=_,after:=_,guard:=none }) (v:=?_) rfl (by kernel_rfl) (by kernel_rfl) (by kernel_rfl) (fun _ _ _ h=>h) (Or.inl ⟨by rfl,?_⟩) hHeld ?_
  rotate_left 1
  ·(intro W hW;have k0:=(HSN.out _ hW).1;have k1:=(HSN.out _ hW).2.1;have k2:=(HSN.out _ hW).2.2.1;(try dsimp only at hW);go_simp;try with_reducible rfl)
  try simp only [Act.put,List.setIfInBounds_toArray,List.set_cons_zero,List.set_cons_succ]
  refine wpAnyH_ready (rs:=[0,5]) (by kernel_rfl) (by simp) ?_
  refine AllReadyH.cons (o:={ dst:=some 10,op:=Op.load 48 (Operand.tmp 3),type:=48,pos:=_,after:=_,guard:=none }) rfl (fun K hK=>?_) ?_
  have kl:W.drew.cell? ⟨w.heap.size+1,0,none⟩=some (.slice A m c):=(HBX.out:Holds W.drew _ _ _).cell 0
  go_simp
  clear kl
  refine hK.out _ _ (hHeld) (fun hHeld=>?_)
  clear hK K
  try simp only [Act.put,List.setIfInBounds_toArray,List.set_cons_zero,List.set_cons_succ]
  refine wpAnyH_ready (rs:=[5]) (by kernel_rfl) (by simp) ?_
  refine AllReadyH.cons (o:={ dst:=some 15,op:=Op.call { callee:=Callee.value (Operand.func 54),args:=#[Operand.tmp 13,Operand.tmp 14],argTypes:=#[27,70] },type:=44,pos:=_,after:=_,guard:=none }) rfl (fun K hK=>?_) AllReadyH.nil
  go_simp
  refine (HDT.out W.drew (HSN.out _ hHeld).2.2.2.2).mono ?_
  rintro e W5 ⟨A5,c5,rfl,hr5,hb5,hf5⟩
  have HB5:Hid (Below W.heap.size W W5):=Lib.hid ⟨hb5.os,hb5.tape,hb5.output,hb5.size,hb5.block⟩
  have HR5:=Lib.hid hr5
  have HF5:Hid (∀ g,blockOf A5=some g→W.heap.size≤g):=Lib.hid hf5
  have HBX5:Hid (Holds W5 (w.heap.size+1) 48 #[.slice A m c]):=Lib.hid (HBX.out.under HB5.out HBX.out.lt)
  have HO5:Hid (OwnV 56 2 W5 A c m (L.flatMap fiCells)):=Lib.hid (HOW.out.keep fun g _ hg=>HB5.out.block g hg)
  clear hb5 hr5 hf5
  go_simp
  refine hK.out _ _ (Only.of_below HB5.out) (fun hHeld=>?_)
  clear hK K
  try simp only [Act.put,List.setIfInBounds_toArray,List.set_cons_zero,List.set_cons_succ]
  refine wpAnyH_take (i:=6) (oi:={ dst:=some 16,op:=Op.build 56 #[(0,Operand.tmp 12),(1,Operand.tmp 15)],type:=56,pos:=_,after:=_,guard:=none }) (v:=?_) rfl (by kernel_rfl) (by kernel_rfl) (by kernel_rfl) (fun _ _ _ h=>h) (Or.inl ⟨by rfl,?_⟩) hHeld ?_
  rotate_left 1
  ·(intro W hW;(try dsimp only at hW);go_simp;try with_reducible rfl)
  try simp only [Act.put,List.setIfInBounds_toArray,List.set_cons_zero,List.set_cons_succ]
  refine wpAnyH_ready (rs:=[7]) (by kernel_rfl) (by simp) ?_
  refine AllReadyH.cons (o:={ dst:=some 17,op:=Op.buildSlice 48 1 #[(0,Operand.tmp 16)],type:=48,pos:=_,after:=_,guard:=none }) rfl (fun K hK=>?_) AllReadyH.nil
  go_simp
  obtain ⟨W7,hW7⟩:∃ W7,W7=W5.alloc (.cells #[.string nm,.slice A5 dl.length c5] 56):=⟨_,rfl⟩
  rw [←hW7]
  have HB7:Hid (Below W5.heap.size W5 W7):=Lib.hid (by rw [hW7];exact (Below.refl _ _).alloc (Nat.le_refl _) _)
  have HFX:Hid (Holds W7 W5.heap.size 56 (fiCells ⟨nm,A5,c5,dl⟩).toArray):=Lib.hid (by rw [hW7];exact Holds.fresh _ _ _)
  have HZ7:Hid (W7.heap.size=W5.heap.size+1):=Lib.hid (by rw [hW7];simp)
  have HBX7:Hid (Holds W7 (w.heap.size+1) 48 #[.slice A m c]):=Lib.hid (HBX5.out.under HB7.out HBX5.out.lt)
  have HO7:Hid (OwnV 56 2 W7 A c m (L.flatMap fiCells)):=Lib.hid (HO5.out.keep fun g _ hg=>HB7.out.block g hg)
  have HR7:=Lib.hid ((HR5.out.under HB7.out).more HB7.out.size)
  clear hW7
  refine hK.out _ _ ((Only.of_below (HB5.out.trans (HB7.out.mono HB5.out.size)))) (fun hHeld=>?_)
  clear hK K
  try simp only [Act.put,List.setIfInBounds_toArray,List.set_cons_zero,List.set_cons_succ]
  refine wpAnyH_ready (rs:=[8]) (by kernel_rfl) (by simp) ?_
  refine AllReadyH.cons (o:={ dst:=some 18,op:=Op.call { callee:=Callee.builtin Builtin.append,args:=#[Operand.tmp 10,Operand.tmp 17],argTypes:=#[48,48] },type:=48,pos:=_,after:=_,guard:=none }) rfl (fun K hK=>?_) AllReadyH.nil
  refine step_pushV _ rfl (.tmp 10) (.tmp 17) 48 rfl 56 (.agg #[.string ByteArray.empty,.slice none 0 0]) 2 40 Tryz.underlying48 info_file rfl (by omega) (by omega) rfl HO7.out (cs:=fiCells ⟨nm,A5,c5,dl⟩) rfl rfl (by intro u hu;simp [fiCells] at hu;rcases hu with rfl | rfl <;> rfl) HFX.out (by omega) ?_
  intro g8 c8 W8 ho8 hg8 hat8 hlt8
  have HO8:=Lib.hid ho8
  have HG8:=Lib.hid hg8
  have HAT:Hid (blockOf A=some g8∨W7.heap.size≤g8):=Lib.hid (hat8.imp id fun e=>by omega)
  have HBX8:Hid (Holds W8 (w.heap.size+1) 48 #[.slice A m c]):=Lib.hid (HBX7.out.grown hg8 (Ne.symm HNA.out))
  have kl:W8.cell? ⟨w.heap.size+1,0,none⟩=some (.slice A m c):=HBX8.out.cell 0
  have kf:W8.frozen? ⟨w.heap.size+1,0,none⟩=false:=HBX8.out.open_ _
  have HB57:=Lib.hid (HB5.out.trans (HB7.out.mono HB5.out.size))
  have HS8:Hid (Only (fun k=>blockOf A=some k∨k=w.heap.size+1) W W8):=Lib.hid ⟨hg8.os.trans HB57.out.os,hg8.tape.trans HB57.out.tape,hg8.output.trans HB57.out.output,Nat.le_trans HB57.out.size hg8.size,fun k hk hF=>(hg8.block k (Nat.lt_of_lt_of_le hk HB57.out.size) (fun e=>hF (.inl e.symm))).trans (HB57.out.block k hk)⟩
  clear ho8 hg8 hat8 hlt8
  refine hK.out _ _ (HS8.out) (fun hHeld=>?_)
  clear hK K
  try simp only [Act.put,List.setIfInBounds_toArray,List.set_cons_zero,List.set_cons_succ]
  refine wpAnyH_ready (rs:=[9]) (by kernel_rfl) (by simp) ?_
  refine AllReadyH.cons (o:={ dst:=none,op:=Op.store 48 (Operand.tmp 3) (Operand.tmp 18),type:=0,pos:=_,after:=_,guard:=none }) rfl (fun K hK=>?_) AllReadyH.nil
  go_simp
  refine hK.out _ _ (HS8.out.setCell (.inl (.inr rfl)) _) (fun hHeld=>?_)
  clear hK K
  try simp only [Act.put,List.setIfInBounds_toArray,List.set_cons_zero,List.set_cons_succ]
  refine wpAnyH_done (by kernel_rfl) ?_ _
  refine OnlyN.normal ?_
  gi_wp2
  obtain ⟨W9,hW9⟩:∃ W9,W9=W8.setCell ⟨w.heap.size+1,0,none⟩ (.slice (some ⟨g8,0,none⟩) (m+1) c8):=⟨_,rfl⟩
  rw [←hW9]
  have hs9:Only (fun k=>blockOf A=some k∨k=w.heap.size+1) W W9:=by rw [hW9];exact HS8.out.setCell (.inl (.inr rfl)) _
  have h98:∀ k,k≠w.heap.size+1→W9.heap[k]?=W8.heap[k]?:=fun k hk=>by rw [hW9];exact Below.heap_setCell _ ⟨w.heap.size+1,0,none⟩ _ k hk
  have hz9:W9.heap.size=W8.heap.size:=by rw [hW9];simp
  have hA5:0<dl.length→∀ g,blockOf A5=some g→W.heap.size≤g∧g<W5.heap.size:=fun hn g hg=>⟨HF5.out g hg,HR5.out.block_lt hn hg⟩
  have hAl:∀ g,blockOf A=some g→g<W.heap.size:=fun g hg=>HOW.out.lt hg
  have h87:∀ k,k<W7.heap.size→blockOf A≠some k→W8.heap[k]?=W7.heap[k]?:=fun k hk hn=>HG8.out.block k hk (Ne.symm hn)
  have hz5:=HB5.out.size
  have hz7:=HZ7.out
  have hz8:=HG8.out.size
  have hml:(pre ++ [(⟨xv,hxv⟩:Fin 40)]).length=m+1:=by rw [List.length_append,HM.out];rfl
  refine ⟨⟨hs9.size,fun k o _ hk ho=>(hs9.block k (Array.getElem?_eq_some_iff.1 hk).1 fun e=>?_).trans hk⟩,⟨hs9.size,fun k _ ⟨cs,hcs⟩=>hs9.block k (Holds.lt hcs) (HOF.out k _ _ hcs (by decide) (by decide)),hs9.block gf (by omega) fun e=>?_,hs9.block _ (by omega) fun e=>?_⟩,(HSN.out _ hs9).2.2.2.2,by omega,(hs9.block _ HBF.out.lt (HOF.out _ _ _ HBF.out (by decide) (by decide))).trans HBF.out,some ⟨g8,0,none⟩,c8,L ++ [⟨nm,A5,c5,dl⟩],?_,?_,?_,?_,?_,?_⟩
  ·rcases e with e | e
   ·obtain ⟨cs,fr,h3⟩:=HAB.out k e
    rw [hk] at h3
    injection h3 with h3
    rw [h3] at ho
    cases ho
   ·subst e
    have h3:some o=some (Obj.cells #[.slice A m c] 48 (0,0)):=hk.symm.trans HBX.out
    injection h3 with h3
    rw [h3] at ho
    cases ho
  ·rcases e with e | e
   ·have:=HNW.out _ e;omega
   ·omega
  ·rcases e with e | e
   ·have:=HNW.out _ e;omega
   ·omega
  ·rw [hml]
   have h9:=HBX8.out.stored 0 (.slice (some ⟨g8,0,none⟩) (m+1) c8)
   rw [←hW9] at h9
   exact h9
  ·rw [hml,List.length_append,HI3.out.len,HM.out];rfl
  ·rw [hml,List.flatMap_append]
   refine (HO8.out.keep fun g hg _=>h98 g ?_)
   obtain rfl:g8=g:=by simpa [blockOf] using hg
   rcases HAT.out with e | e
   ·have:=HNW.out _ e;omega
   ·omega
  ·intro g hg
   obtain rfl:g8=g:=by simpa [blockOf] using hg
   rcases HAT.out with e | e
   ·exact HNW.out _ e
   ·omega
  ·rw [List.map_append,List.map_append,HI3.out.val]
   show _ ++ [(nm,dl)]=_ ++ [(nmS ns xv,dataN s (ns.getD xv default))]
   rw [HNM.out,←HDL.out]
  ·intro f hf
   rcases List.mem_append.1 hf with hf | hf
   ·obtain ⟨h1,h2⟩:=HI3.out.rd f hf
    refine ⟨(h1.onB fun hn g hg hlt=>hs9.block g hlt fun e=>?_).more (by omega),fun hn g hg=>⟨(h2 hn g hg).1,fun e=>?_⟩⟩
    ·rcases e with e | e
     ·exact (h2 hn g hg).2 e
     ·have:=(h2 hn g hg).1;omega
    ·obtain rfl:g8=g:=by simpa [blockOf] using e
     rcases HAT.out with e2 | e2
     ·exact (h2 hn _ hg).2 e2
     ·have:=h1.block_lt hn hg;omega
   ·rw [List.mem_singleton.1 hf]
    refine ⟨(HR7.out.onB fun hn g hg hlt=>?_).more (by omega),fun hn g hg=>⟨?_,fun e=>?_⟩⟩
    ·have h3:=hA5 hn g hg
     exact (h98 g (by omega)).trans (h87 g (by omega) fun e=>by have:=hAl g e;omega)
    ·have h3:=hA5 hn g hg
     omega
    ·obtain rfl:g8=g:=by simpa [blockOf] using e
     have h3:=hA5 hn _ hg
     rcases HAT.out with e2 | e2
     ·have:=hAl _ e2;omega
     ·omega
  refine AllReadyH.cons (o:={ dst:=some 15,op:=Op.call { callee:=Callee.value (Operand.func 54),args:=#[Operand.tmp 13,Operand.tmp 14],argTypes:=#[27,70] },type:=44,pos:=_,after:=_,guard:=none }) rfl (fun K hK=>?_) AllReadyH.nil
  go_simp
  refine (HDT.out W.drew (HSN.out _ hHeld).2.2.2.2).mono ?_
  rintro e W5 ⟨A5,c5,rfl,hr5,hb5,hf5⟩
  have HB5:Hid (Below W.heap.size W W5):=Lib.hid ⟨hb5.os,hb5.tape,hb5.output,hb5.size,hb5.block⟩
  have HR5:=Lib.hid hr5
  have HF5:Hid (∀ g,blockOf A5=some g→W.heap.size≤g):=Lib.hid hf5
  have HBX5:Hid (Holds W5 (w.heap.size+1) 48 #[.slice A m c]):=Lib.hid (HBX.out.under HB5.out HBX.out.lt)
  have HO5:Hid (OwnV 56 2 W5 A c m (L.flatMap fiCells)):=Lib.hid (HOW.out.keep fun g _ hg=>HB5.out.block g hg)
  clear hb5 hr5 hf5
  go_simp
  refine hK.out _ _ (Only.of_below HB5.out) (fun hHeld=>?_)
  clear hK K
  try simp only [Act.put,List.setIfInBounds_toArray,List.set_cons_zero,List.set_cons_succ]
  refine wpAnyH_take (i:=6) (oi:={ dst:=some 16,op:=Op.build 56 #[(0,Operand.tmp 12),(1,Operand.tmp 15)],type:=56,pos:=_,after:=_,guard:=none }) (v:=?_) rfl (by kernel_rfl) (by kernel_rfl) (by kernel_rfl) (fun _ _ _ h=>h) (Or.inl ⟨by rfl,?_⟩) hHeld ?_
  rotate_left 1
  ·(intro W hW;(try dsimp only at hW);go_simp;try with_reducible rfl)
  try simp only [Act.put,List.setIfInBounds_toArray,List.set_cons_zero,List.set_cons_succ]
  refine wpAnyH_ready (rs:=[0,7]) (by kernel_rfl) (by simp) ?_
  refine AllReadyH.cons (o:={ dst:=some 10,op:=Op.load 48 (Operand.tmp 3),type:=48,pos:=_,after:=_,guard:=none }) rfl (fun K hK=>?_) ?_
  have kl:W5.cell? ⟨w.heap.size+1,0,none⟩=some (.slice A m c):=(HBX5.out:Holds W5 _ _ _).cell 0
  go_simp
  clear kl
  refine hK.out _ _ (hHeld) (fun hHeld=>?_)
  clear hK K
  try simp only [Act.put,List.setIfInBounds_toArray,List.set_cons_zero,List.set_cons_succ]
  refine wpAnyH_ready (rs:=[7]) (by kernel_rfl) (by simp) ?_
  refine AllReadyH.cons (o:={ dst:=some 17,op:=Op.buildSlice 48 1 #[(0,Operand.tmp 16)],type:=48,pos:=_,after:=_,guard:=none }) rfl (fun K hK=>?_) AllReadyH.nil
  go_simp
  obtain ⟨W7,hW7⟩:∃ W7,W7=W5.alloc (.cells #[.string nm,.slice A5 dl.length c5] 56):=⟨_,rfl⟩
  rw [←hW7]
  have HB7:Hid (Below W5.heap.size W5 W7):=Lib.hid (by rw [hW7];exact (Below.refl _ _).alloc (Nat.le_refl _) _)
  have HFX:Hid (Holds W7 W5.heap.size 56 (fiCells ⟨nm,A5,c5,dl⟩).toArray):=Lib.hid (by rw [hW7];exact Holds.fresh _ _ _)
  have HZ7:Hid (W7.heap.size=W5.heap.size+1):=Lib.hid (by rw [hW7];simp)
  have HBX7:Hid (Holds W7 (w.heap.size+1) 48 #[.slice A m c]):=Lib.hid (HBX5.out.under HB7.out HBX5.out.lt)
  have HO7:Hid (OwnV 56 2 W7 A c m (L.flatMap fiCells)):=Lib.hid (HO5.out.keep fun g _ hg=>HB7.out.block g hg)
  have HR7:=Lib.hid ((HR5.out.under HB7.out).more HB7.out.size)
  clear hW7
  refine hK.out _ _ ((Only.of_below (HB5.out.trans (HB7.out.mono HB5.out.size)))) (fun hHeld=>?_)
  clear hK K
  try simp only [Act.put,List.setIfInBounds_toArray,List.set_cons_zero,List.set_cons_succ]
  refine wpAnyH_ready (rs:=[8]) (by kernel_rfl) (by simp) ?_
  refine AllReadyH.cons (o:={ dst:=some 18,op:=Op.call { callee:=Callee.builtin Builtin.append,args:=#[Operand.tmp 10,Operand.tmp 17],argTypes:=#[48,48] },type:=48,pos:=_,after:=_,guard:=none }) rfl (fun K hK=>?_) AllReadyH.nil
  refine step_pushV _ rfl (.tmp 10) (.tmp 17) 48 rfl 56 (.agg #[.string ByteArray.empty,.slice none 0 0]) 2 40 Tryz.underlying48 info_file rfl (by omega) (by omega) rfl HO7.out (cs:=fiCells ⟨nm,A5,c5,dl⟩) rfl rfl (by intro u hu;simp [fiCells] at hu;rcases hu with rfl | rfl <;> rfl) HFX.out (by omega) ?_
  intro g8 c8 W8 ho8 hg8 hat8 hlt8
  have HO8:=Lib.hid ho8
  have HG8:=Lib.hid hg8
  have HAT:Hid (blockOf A=some g8∨W7.heap.size≤g8):=Lib.hid (hat8.imp id fun e=>by omega)
  have HBX8:Hid (Holds W8 (w.heap.size+1) 48 #[.slice A m c]):=Lib.hid (HBX7.out.grown hg8 (Ne.symm HNA.out))
  have kl:W8.cell? ⟨w.heap.size+1,0,none⟩=some (.slice A m c):=HBX8.out.cell 0
  have kf:W8.frozen? ⟨w.heap.size+1,0,none⟩=false:=HBX8.out.open_ _
  have HB57:=Lib.hid (HB5.out.trans (HB7.out.mono HB5.out.size))
  have HS8:Hid (Only (fun k=>blockOf A=some k∨k=w.heap.size+1) W W8):=Lib.hid ⟨hg8.os.trans HB57.out.os,hg8.tape.trans HB57.out.tape,hg8.output.trans HB57.out.output,Nat.le_trans HB57.out.size hg8.size,fun k hk hF=>(hg8.block k (Nat.lt_of_lt_of_le hk HB57.out.size) (fun e=>hF (.inl e.symm))).trans (HB57.out.block k hk)⟩
  clear ho8 hg8 hat8 hlt8
  refine hK.out _ _ (HS8.out) (fun hHeld=>?_)
  clear hK K
  try simp only [Act.put,List.setIfInBounds_toArray,List.set_cons_zero,List.set_cons_succ]
  refine wpAnyH_ready (rs:=[9]) (by kernel_rfl) (by simp) ?_
  refine AllReadyH.cons (o:={ dst:=none,op:=Op.store 48 (Operand.tmp 3) (Operand.tmp 18),type:=0,pos:=_,after:=_,guard:=none }) rfl (fun K hK=>?_) AllReadyH.nil
  go_simp
  refine hK.out _ _ (HS8.out.setCell (.inl (.inr rfl)) _) (fun hHeld=>?_)
  clear hK K
  try simp only [Act.put,List.setIfInBounds_toArray,List.set_cons_zero,List.set_cons_succ]
  refine wpAnyH_done (by kernel_rfl) ?_ _
  refine OnlyN.normal ?_
  gi_wp2
  obtain ⟨W9,hW9⟩:∃ W9,W9=W8.setCell ⟨w.heap.size+1,0,none⟩ (.slice (some ⟨g8,0,none⟩) (m+1) c8):=⟨_,rfl⟩
  rw [←hW9]
  have hs9:Only (fun k=>blockOf A=some k∨k=w.heap.size+1) W W9:=by rw [hW9];exact HS8.out.setCell (.inl (.inr rfl)) _
  have h98:∀ k,k≠w.heap.size+1→W9.heap[k]?=W8.heap[k]?:=fun k hk=>by rw [hW9];exact Below.heap_setCell _ ⟨w.heap.size+1,0,none⟩ _ k hk
  have hz9:W9.heap.size=W8.heap.size:=by rw [hW9];simp
  have hA5:0<dl.length→∀ g,blockOf A5=some g→W.heap.size≤g∧g<W5.heap.size:=fun hn g hg=>⟨HF5.out g hg,HR5.out.block_lt hn hg⟩
  have hAl:∀ g,blockOf A=some g→g<W.heap.size:=fun g hg=>HOW.out.lt hg
  have h87:∀ k,k<W7.heap.size→blockOf A≠some k→W8.heap[k]?=W7.heap[k]?:=fun k hk hn=>HG8.out.block k hk (Ne.symm hn)
  have hz5:=HB5.out.size
  have hz7:=HZ7.out
  have hz8:=HG8.out.size
  have hml:(pre ++ [(⟨xv,hxv⟩:Fin 40)]).length=m+1:=by rw [List.length_append,HM.out];rfl
  refine ⟨⟨hs9.size,fun k o _ hk ho=>(hs9.block k (Array.getElem?_eq_some_iff.1 hk).1 fun e=>?_).trans hk⟩,⟨hs9.size,fun k _ ⟨cs,hcs⟩=>hs9.block k (Holds.lt hcs) (HOF.out k _ _ hcs (by decide) (by decide)),hs9.block gf (by omega) fun e=>?_,hs9.block _ (by omega) fun e=>?_⟩,(HSN.out _ hs9).2.2.2.2,by omega,(hs9.block _ HBF.out.lt (HOF.out _ _ _ HBF.out (by decide) (by decide))).trans HBF.out,some ⟨g8,0,none⟩,c8,L ++ [⟨nm,A5,c5,dl⟩],?_,?_,?_,?_,?_,?_⟩
  ·rcases e with e | e
   ·obtain ⟨cs,fr,h3⟩:=HAB.out k e
    rw [hk] at h3
    injection h3 with h3
    rw [h3] at ho
    cases ho
   ·subst e
    have h3:some o=some (Obj.cells #[.slice A m c] 48 (0,0)):=hk.symm.trans HBX.out
    injection h3 with h3
    rw [h3] at ho
    cases ho
  ·rcases e with e | e
   ·have:=HNW.out _ e;omega
   ·omega
  ·rcases e with e | e
   ·have:=HNW.out _ e;omega
   ·omega
  ·rw [hml]
   have h9:=HBX8.out.stored 0 (.slice (some ⟨g8,0,none⟩) (m+1) c8)
   rw [←hW9] at h9
   exact h9
  ·rw [hml,List.length_append,HI3.out.len,HM.out];rfl
  ·rw [hml,List.flatMap_append]
   refine (HO8.out.keep fun g hg _=>h98 g ?_)
   obtain rfl:g8=g:=by simpa [blockOf] using hg
   rcases HAT.out with e | e
   ·have:=HNW.out _ e;omega
   ·omega
  ·intro g hg
   obtain rfl:g8=g:=by simpa [blockOf] using hg
   rcases HAT.out with e | e
   ·exact HNW.out _ e
   ·omega
  ·rw [List.map_append,List.map_append,HI3.out.val]
   show _ ++ [(nm,dl)]=_ ++ [(nmS ns xv,dataN s (ns.getD xv default))]
   rw [HNM.out,←HDL.out]
  ·intro f hf
   rcases List.mem_append.1 hf with hf | hf
   ·obtain ⟨h1,h2⟩:=HI3.out.rd f hf
    refine ⟨(h1.onB fun hn g hg hlt=>hs9.block g hlt fun e=>?_).more (by omega),fun hn g hg=>⟨(h2 hn g hg).1,fun e=>?_⟩⟩
    ·rcases e with e | e
     ·exact (h2 hn g hg).2 e
     ·have:=(h2 hn g hg).1;omega
    ·obtain rfl:g8=g:=by simpa [blockOf] using e
     rcases HAT.out with e2 | e2
     ·exact (h2 hn _ hg).2 e2
     ·have:=h1.block_lt hn hg;omega
   ·rw [List.mem_singleton.1 hf]
    refine ⟨(HR7.out.onB fun hn g hg hlt=>?_).more (by omega),fun hn g hg=>⟨?_,fun e=>?_⟩⟩
    ·have h3:=hA5 hn g hg
     exact (h98 g (by omega)).trans (h87 g (by omega) fun e=>by have:=hAl g e;omega)
    ·have h3:=hA5 hn g hg
     omega
    ·obtain rfl:g8=g:=by simpa [blockOf] using e
     have h3:=hA5 hn _ hg
     rcases HAT.out with e2 | e2
     ·have:=hAl _ e2;omega
     ·omega
  refine AllReadyH.cons (o:={ dst:=some 17,op:=Op.buildSlice 48 1 #[(0,Operand.tmp 16)],type:=48,pos:=_,after:=_,guard:=none }) rfl (fun K hK=>?_) AllReadyH.nil
  go_simp
  obtain ⟨W7,hW7⟩:∃ W7,W7=W5.alloc (.cells #[.string nm,.slice A5 dl.length c5] 56):=⟨_,rfl⟩
  rw [←hW7]
  have HB7:Hid (Below W5.heap.size W5 W7):=Lib.hid (by rw [hW7];exact (Below.refl _ _).alloc (Nat.le_refl _) _)
  have HFX:Hid (Holds W7 W5.heap.size 56 (fiCells ⟨nm,A5,c5,dl⟩).toArray):=Lib.hid (by rw [hW7];exact Holds.fresh _ _ _)
  have HZ7:Hid (W7.heap.size=W5.heap.size+1):=Lib.hid (by rw [hW7];simp)
  have HBX7:Hid (Holds W7 (w.heap.size+1) 48 #[.slice A m c]):=Lib.hid (HBX5.out.under HB7.out HBX5.out.lt)
  have HO7:Hid (OwnV 56 2 W7 A c m (L.flatMap fiCells)):=Lib.hid (HO5.out.keep fun g _ hg=>HB7.out.block g hg)
  have HR7:=Lib.hid ((HR5.out.under HB7.out).more HB7.out.size)
  clear hW7
  refine hK.out _ _ ((Only.of_below (HB5.out.trans (HB7.out.mono HB5.out.size)))) (fun hHeld=>?_)
  clear hK K
  try simp only [Act.put,List.setIfInBounds_toArray,List.set_cons_zero,List.set_cons_succ]
  refine wpAnyH_ready (rs:=[0]) (by kernel_rfl) (by simp) ?_
  refine AllReadyH.cons (o:={ dst:=some 10,op:=Op.load 48 (Operand.tmp 3),type:=48,pos:=_,after:=_,guard:=none }) rfl (fun K hK=>?_) AllReadyH.nil
  have kl:W7.cell? ⟨w.heap.size+1,0,none⟩=some (.slice A m c):=(HBX7.out:Holds W7 _ _ _).cell 0
  go_simp
  clear kl
  refine hK.out _ _ (hHeld) (fun hHeld=>?_)
  clear hK K
  try simp only [Act.put,List.setIfInBounds_toArray,List.set_cons_zero,List.set_cons_succ]
  refine wpAnyH_ready (rs:=[8]) (by kernel_rfl) (by simp) ?_
  refine AllReadyH.cons (o:={ dst:=some 18,op:=Op.call { callee:=Callee.builtin Builtin.append,args:=#[Operand.tmp 10,Operand.tmp 17],argTypes:=#[48,48] },type:=48,pos:=_,after:=_,guard:=none }) rfl (fun K hK=>?_) AllReadyH.nil
  refine step_pushV _ rfl (.tmp 10) (.tmp 17) 48 rfl 56 (.agg #[.string ByteArray.empty,.slice none 0 0]) 2 40 Tryz.underlying48 info_file rfl (by omega) (by omega) rfl HO7.out (cs:=fiCells ⟨nm,A5,c5,dl⟩) rfl rfl (by intro u hu;simp [fiCells] at hu;rcases hu with rfl | rfl <;> rfl) HFX.out (by omega) ?_
  intro g8 c8 W8 ho8 hg8 hat8 hlt8
  have HO8:=Lib.hid ho8
  have HG8:=Lib.hid hg8
  have HAT:Hid (blockOf A=some g8∨W7.heap.size≤g8):=Lib.hid (hat8.imp id fun e=>by omega)
  have HBX8:Hid (Holds W8 (w.heap.size+1) 48 #[.slice A m c]):=Lib.hid (HBX7.out.grown hg8 (Ne.symm HNA.out))
  have kl:W8.cell? ⟨w.heap.size+1,0,none⟩=some (.slice A m c):=HBX8.out.cell 0
  have kf:W8.frozen? ⟨w.heap.size+1,0,none⟩=false:=HBX8.out.open_ _
  have HB57:=Lib.hid (HB5.out.trans (HB7.out.mono HB5.out.size))
  have HS8:Hid (Only (fun k=>blockOf A=some k∨k=w.heap.size+1) W W8):=Lib.hid ⟨hg8.os.trans HB57.out.os,hg8.tape.trans HB57.out.tape,hg8.output.trans HB57.out.output,Nat.le_trans HB57.out.size hg8.size,fun k hk hF=>(hg8.block k (Nat.lt_of_lt_of_le hk HB57.out.size) (fun e=>hF (.inl e.symm))).trans (HB57.out.block k hk)⟩
  clear ho8 hg8 hat8 hlt8
  refine hK.out _ _ (HS8.out) (fun hHeld=>?_)
  clear hK K
  try simp only [Act.put,List.setIfInBounds_toArray,List.set_cons_zero,List.set_cons_succ]
  refine wpAnyH_ready (rs:=[9]) (by kernel_rfl) (by simp) ?_
  refine AllReadyH.cons (o:={ dst:=none,op:=Op.store 48 (Operand.tmp 3) (Operand.tmp 18),type:=0,pos:=_,after:=_,guard:=none }) rfl (fun K hK=>?_) AllReadyH.nil
  go_simp
  refine hK.out _ _ (HS8.out.setCell (.inl (.inr rfl)) _) (fun hHeld=>?_)
  clear hK K
  try simp only [Act.put,List.setIfInBounds_toArray,List.set_cons_zero,List.set_cons_succ]
  refine wpAnyH_done (by kernel_rfl) ?_ _
  refine OnlyN.normal ?_
  gi_wp2
  obtain ⟨W9,hW9⟩:∃ W9,W9=W8.setCell ⟨w.heap.size+1,0,none⟩ (.slice (some ⟨g8,0,none⟩) (m+1) c8):=⟨_,rfl⟩
  rw [←hW9]
  have hs9:Only (fun k=>blockOf A=some k∨k=w.heap.size+1) W W9:=by rw [hW9];exact HS8.out.setCell (.inl (.inr rfl)) _
  have h98:∀ k,k≠w.heap.size+1→W9.heap[k]?=W8.heap[k]?:=fun k hk=>by rw [hW9];exact Below.heap_setCell _ ⟨w.heap.size+1,0,none⟩ _ k hk
  have hz9:W9.heap.size=W8.heap.size:=by rw [hW9];simp
  have hA5:0<dl.length→∀ g,blockOf A5=some g→W.heap.size≤g∧g<W5.heap.size:=fun hn g hg=>⟨HF5.out g hg,HR5.out.block_lt hn hg⟩
  have hAl:∀ g,blockOf A=some g→g<W.heap.size:=fun g hg=>HOW.out.lt hg
  have h87:∀ k,k<W7.heap.size→blockOf A≠some k→W8.heap[k]?=W7.heap[k]?:=fun k hk hn=>HG8.out.block k hk (Ne.symm hn)
  have hz5:=HB5.out.size
  have hz7:=HZ7.out
  have hz8:=HG8.out.size
  have hml:(pre ++ [(⟨xv,hxv⟩:Fin 40)]).length=m+1:=by rw [List.length_append,HM.out];rfl
  refine ⟨⟨hs9.size,fun k o _ hk ho=>(hs9.block k (Array.getElem?_eq_some_iff.1 hk).1 fun e=>?_).trans hk⟩,⟨hs9.size,fun k _ ⟨cs,hcs⟩=>hs9.block k (Holds.lt hcs) (HOF.out k _ _ hcs (by decide) (by decide)),hs9.block gf (by omega) fun e=>?_,hs9.block _ (by omega) fun e=>?_⟩,(HSN.out _ hs9).2.2.2.2,by omega,(hs9.block _ HBF.out.lt (HOF.out _ _ _ HBF.out (by decide) (by decide))).trans HBF.out,some ⟨g8,0,none⟩,c8,L ++ [⟨nm,A5,c5,dl⟩],?_,?_,?_,?_,?_,?_⟩
  ·rcases e with e | e
   ·obtain ⟨cs,fr,h3⟩:=HAB.out k e
    rw [hk] at h3
    injection h3 with h3
    rw [h3] at ho
    cases ho
   ·subst e
    have h3:some o=some (Obj.cells #[.slice A m c] 48 (0,0)):=hk.symm.trans HBX.out
    injection h3 with h3
    rw [h3] at ho
    cases ho
  ·rcases e with e | e
   ·have:=HNW.out _ e;omega
   ·omega
  ·rcases e with e | e
   ·have:=HNW.out _ e;omega
   ·omega
  ·rw [hml]
   have h9:=HBX8.out.stored 0 (.slice (some ⟨g8,0,none⟩) (m+1) c8)
   rw [←hW9] at h9
   exact h9
  ·rw [hml,List.length_append,HI3.out.len,HM.out];rfl
  ·rw [hml,List.flatMap_append]
   refine (HO8.out.keep fun g hg _=>h98 g ?_)
   obtain rfl:g8=g:=by simpa [blockOf] using hg
   rcases HAT.out with e | e
   ·have:=HNW.out _ e;omega
   ·omega
  ·intro g hg
   obtain rfl:g8=g:=by simpa [blockOf] using hg
   rcases HAT.out with e | e
   ·exact HNW.out _ e
   ·omega
  ·rw [List.map_append,List.map_append,HI3.out.val]
   show _ ++ [(nm,dl)]=_ ++ [(nmS ns xv,dataN s (ns.getD xv default))]
   rw [HNM.out,←HDL.out]
  ·intro f hf
   rcases List.mem_append.1 hf with hf | hf
   ·obtain ⟨h1,h2⟩:=HI3.out.rd f hf
    refine ⟨(h1.onB fun hn g hg hlt=>hs9.block g hlt fun e=>?_).more (by omega),fun hn g hg=>⟨(h2 hn g hg).1,fun e=>?_⟩⟩
    ·rcases e with e | e
     ·exact (h2 hn g hg).2 e
     ·have:=(h2 hn g hg).1;omega
    ·obtain rfl:g8=g:=by simpa [blockOf] using e
     rcases HAT.out with e2 | e2
     ·exact (h2 hn _ hg).2 e2
     ·have:=h1.block_lt hn hg;omega
   ·rw [List.mem_singleton.1 hf]
    refine ⟨(HR7.out.onB fun hn g hg hlt=>?_).more (by omega),fun hn g hg=>⟨?_,fun e=>?_⟩⟩
    ·have h3:=hA5 hn g hg
     exact (h98 g (by omega)).trans (h87 g (by omega) fun e=>by have:=hAl g e;omega)
    ·have h3:=hA5 hn g hg
     omega
    ·obtain rfl:g8=g:=by simpa [blockOf] using e
     have h3:=hA5 hn _ hg
     rcases HAT.out with e2 | e2
     ·have:=hAl _ e2;omega
     ·omega
 case done =>
  rintro D xs W hD hS ⟨hI1,hI0,hI2,A,c,L,hI3⟩ hK
  have HK:=Lib.hid hK
  have HI1:=Lib.hid hI1
  have HI3:=Lib.hid hI3
  have q0:=hI3.box.cell 0
  obtain ⟨n,hn⟩:∃ n,n=xs.length:=⟨_,rfl⟩
  rw [←hn] at q0
  have HN:=Lib.hid hn
  clear hI1 hI2 hI3 hn
  go_wp2_with fail
  refine ⟨by simp,.inl ⟨_,_,rfl,run_takeDeferred HK.out,?_⟩⟩
  have hr:∀ q,some D=some q→∃ o:Obj,W.heap[q]?=some o∧o.isCells=false:=fun r e=>by cases e;exact ⟨_,HK.out,rfl⟩
  have h3:=HI3.out.stay (grownBy_putObj' _ D (.deferred none)) hr
  refine ⟨.slice A n c,by simp [results,Tryz.results22,go_sem],HI1.out.trans (belowK_b (w:=V2) (by omega) _ D _ _ hD HK.out rfl rfl),xs,A,c,L,hS,by rw [HN.out],h3.len,h3.val,?_⟩
  have h4:=h3.own
  rw [←h3.len] at h4
  exact RdFi.of_own h4 fun f hf=>(h3.rd f hf).1
 case stop =>
  rintro D c pre W hD _ h hK
  exact h.elim
end
end Go.Proofs.YtnedpkhehiijhaaGreat
namespace Go.Proofs.YtnedpkhehiijhaaGreat
open Go.RowKit Go.WideMaps Go.Maps
set_option linter.unusedVariables false
set_option linter.unusedSimpArgs false

/-- A fate's cells. -/
structure FV where
 there:Bool
 da:Option Addr
 dn:Nat
 dc:Nat
def FV.val (x:FV):Value:=.agg #[.bool x.there,.slice x.da x.dn x.dc]
def zFV:FV:=⟨false,none,0,0⟩
open Classical in
noncomputable def heldV (v:Value):Option (DataW Value×List MemPlace):=if ∃ x:FV,v=x.val then some (.held v,[]) else none
theorem heldV_val (x:FV):heldV x.val=some (.held x.val,[]):=if_pos ⟨x,rfl⟩
theorem heldV_inv {v:Value} {y:DataW Value×List MemPlace} (h:heldV v=some y):∃ x:FV,v=x.val∧y=(.held x.val,[]):=by
 unfold heldV at h
 split at h
 ·rename_i hx
  obtain ⟨x,rfl⟩:=hx
  injection h with h
  exact ⟨x,rfl,h.symm⟩
 ·cases h
/-- Block b is a map of these. -/
def MapF (W:World) (b n:Nat) (D:DataW Value) (vf:ByteArray→Option FV):Prop :=
 W.ownsMap Tryz.prog 9 heldV b n D∧∀ s:ByteArray,has D (.string s.data.toList)=(vf s).isSome∧∀ x,vf s=some x→∀ z,D.atKey (.string s.data.toList) z = .held x.val
theorem MapF.made (w:World):MapF (w.alloc (.map #[] 0)) w.heap.size 0 (.map []) (fun _=>none):=⟨World.ownsMap_made _ _ _ _,fun s=>⟨rfl,fun x e=>nomatch e⟩⟩
theorem MapF.lt {W:World} {b n:Nat} {D:DataW Value} {vf:ByteArray→Option FV} (h:MapF W b n D vf):b<W.heap.size:=h.1.lt
theorem MapF.keep {W W':World} {b n:Nat} {D:DataW Value} {vf:ByteArray→Option FV} (h:MapF W b n D vf) (hb:W'.heap[b]?=W.heap[b]?):MapF W' b n D vf:=by
 obtain ⟨⟨es,clock,hw,r⟩,hat⟩:=h
 exact ⟨⟨es,clock,hb.trans hw,r⟩,hat⟩
theorem MapF.under {W W':World} {b n B:Nat} {D:DataW Value} {vf:ByteArray→Option FV} (h:MapF W b n D vf) (hb:Below B W W') (hlt:b<B):MapF W' b n D vf:=h.keep (hb.block b hlt)
theorem zeroFate (w:World):(zeroValue 144).run Tryz.prog w = .ok zFV.val w:=by kernel_rfl
theorem MapF.valAt {W:World} {b n:Nat} {D:DataW Value} {vf:ByteArray→Option FV} (h:MapF W b n D vf) (s:ByteArray):D.atKey (.string s.data.toList) (.held zFV.val) = .held ((vf s).getD zFV).val:=by
 cases hv:vf s with
 | some x=>exact (h.2 s).2 x hv _
 | none=>exact atKey_of_not_has (by rw [(h.2 s).1,hv];rfl) _
set_option maxRecDepth 100000 in
theorem MapF.look_ok {W:World} {b n:Nat} {D:DataW Value} {vf:ByteArray→Option FV} (h:MapF W b n D vf) (s:ByteArray) (hs:s.size≤9223372036854775807) :
  (Instr.lookup 93 (.map (some b)) (.string s) true).run Tryz.prog W = .ok (.tuple #[((vf s).getD zFV).val,.bool (vf s).isSome]) W:=by
 obtain ⟨v,ps,hrun,hv⟩:=h.1.look_ok law Tryz.underlying93 (zeroFate W) (zd:=.held zFV.val) (zp:=[]) (heldV_val zFV) (keyOf_string_mk Tryz.underlying9 (s:=s) (by unfold maxLen;omega))
 rw [h.valAt s] at hv
 obtain ⟨x,rfl,hx⟩:=heldV_inv hv
 injection hx with hx _
 injection hx with hx
 rw [←hx] at hrun
 rw [hrun,(h.2 s).1]
set_option maxRecDepth 100000 in
theorem MapF.look {W:World} {b n:Nat} {D:DataW Value} {vf:ByteArray→Option FV} (h:MapF W b n D vf) (s:ByteArray) (hs:s.size≤9223372036854775807) :
  (Instr.lookup 93 (.map (some b)) (.string s) false).run Tryz.prog W = .ok ((vf s).getD zFV).val W:=by
 obtain ⟨v,ps,hrun,hv⟩:=h.1.lookup law Tryz.underlying93 (zeroFate W) (zd:=.held zFV.val) (zp:=[]) (heldV_val zFV) (keyOf_string_mk Tryz.underlying9 (s:=s) (by unfold maxLen;omega))
 rw [h.valAt s] at hv
 obtain ⟨x,rfl,hx⟩:=heldV_inv hv
 injection hx with hx _
 injection hx with hx
 rw [←hx] at hrun
 exact hrun
def setV (vf:ByteArray→Option FV) (s:ByteArray) (x:FV):ByteArray→Option FV:=fun t=>if t=s then some x else vf t
theorem lit_ne {s t:ByteArray} (h:t≠s):(Lit.string t.data.toList)≠.string s.data.toList:=fun e=>by
 injection e with e
 exact h (ByteArray.ext (Array.ext' e))
theorem MapF.put {W W':World} {b n:Nat} {D:DataW Value} {vf:ByteArray→Option FV} (h:MapF W b n D vf) (s:ByteArray) (x:FV) (ho:W'.ownsMap Tryz.prog 9 heldV b (n+1) (D.put (.string s.data.toList) (.held x.val))) :
  MapF W' b (n+1) (D.put (.string s.data.toList) (.held x.val)) (setV vf s x):=by
 refine ⟨ho,fun t=>?_⟩
 have hm:=h.1.isMap
 by_cases e:t=s
 ·subst e
  refine ⟨?_,fun y hy z=>?_⟩
  ·rw [has_put_same hm (k:=.string _) trivial]
   simp [setV]
  ·rw [atKey_put_same hm (k:=.string _) trivial]
   have:some x=some y:=by simpa [setV] using hy
   injection this with this
   rw [this]
 ·have e2:setV vf s x t=vf t:=by simp [setV,e]
  rw [e2]
  refine ⟨?_,fun y hy z=>?_⟩
  ·rw [has_put_other (lit_ne e)];exact (h.2 t).1
  ·rw [atKey_put_other (lit_ne e)];exact (h.2 t).2 y hy z
/-- The map tells these fates. -/
def FateR (W:World) (B:Nat) (fs:FateF) (vf:ByteArray→Option FV):Prop :=
 ∀ s,match fs s with
 | none=>vf s=none
 | some none=>vf s=some zFV
 | some (some d)=>∃ A c,vf s=some ⟨true,A,d.length,c⟩∧Rd .u8 W B A c d
theorem FateR.start (W:World) (B:Nat):FateR W B (fun _=>none) (fun _=>none):=fun s=>rfl
theorem FateR.under {W W':World} {B:Nat} {fs:FateF} {vf:ByteArray→Option FV} (h:FateR W B fs vf) (hb:Below B W W'):FateR W' B fs vf:=fun s=>by
 have:=h s
 revert this
 cases fs s with
 | none=>exact id
 | some x =>
  cases x with
  | none=>exact id
  | some d=>exact fun ⟨A,c,h1,h2⟩=>⟨A,c,h1,h2.under hb⟩
theorem FateR.drop {W:World} {B:Nat} {fs:FateF} {vf:ByteArray→Option FV} (h:FateR W B fs vf) (s:ByteArray):FateR W B (setF fs s none) (setV vf s zFV):=fun t=>by
 by_cases e:t=s
 ·subst e;simp [setF,setV]
 ·have h1:setF fs s none t=fs t:=by simp [setF,e]
  have h2:setV vf s zFV t=vf t:=by simp [setV,e]
  rw [h1,h2]
  exact h t
theorem FateR.put {W:World} {B:Nat} {fs:FateF} {vf:ByteArray→Option FV} (h:FateR W B fs vf) (s:ByteArray) {A:Option Addr} {c:Nat} {d:List Nat} (hr:Rd .u8 W B A c d):FateR W B (setF fs s (some d)) (setV vf s ⟨true,A,d.length,c⟩):=fun t=>by
 by_cases e:t=s
 ·subst e
  have h1:setF fs t (some d) t=some (some d):=by simp [setF]
  rw [h1]
  exact ⟨A,c,by simp [setV],hr⟩
 ·have h1:setF fs s (some d) t=fs t:=by simp [setF,e]
  have h2:setV vf s ⟨true,A,d.length,c⟩ t=vf t:=by simp [setV,e]
  rw [h1,h2]
  exact h t
/-- What is asked, in memory. -/
structure OpA where
 drop:Bool
 name:ByteArray
 da:Option Addr
 dc:Nat
 d:List Nat
instance:Inhabited OpA:=⟨⟨false,⟨#[]⟩,none,0,[]⟩⟩
def OpA.v (o:OpA):OpV:=⟨o.drop,o.name,o.d⟩
def opCells (o:OpA):List Value:=[.bool o.drop,.string o.name,.slice o.da o.d.length o.dc]
/-- The slice '.slice A L.length c' reads as these. -/
def RdOp (w:World) (B:Nat) (A:Option Addr) (c:Nat) (L:List OpA):Prop :=
 L.length≤c∧c≤9223372036854775807∧(∀ o∈L,Rd .u8 w B o.da o.dc o.d∧o.name.size≤9223372036854775807) ∧
  (0<L.length→∃ b off,A=some ⟨b,off,none⟩∧b<B∧∀ j (hj:j<L.length),w.cell? ⟨b,off+j*3,none⟩=some (.bool L[j].drop)∧w.cell? ⟨b,off+j*3+1,none⟩=some (.string L[j].name)∧w.cell? ⟨b,off+j*3+1+1,none⟩=some (.slice L[j].da L[j].d.length L[j].dc))
theorem RdOp.under {w w':World} {B:Nat} {A:Option Addr} {c:Nat} {L:List OpA} (h:RdOp w B A c L) (hb:Below B w w'):RdOp w' B A c L :=
 ⟨h.1,h.2.1,fun o ho=>⟨(h.2.2.1 o ho).1.under hb,(h.2.2.1 o ho).2⟩,fun hn=>by
  obtain ⟨b,off,e,hlt,hc⟩:=h.2.2.2 hn
  exact ⟨b,off,e,hlt,fun j hj=>⟨(hb.cell (p:=⟨b,off+j*3,none⟩) hlt).trans (hc j hj).1,(hb.cell (p:=⟨b,off+j*3+1,none⟩) hlt).trans (hc j hj).2.1,(hb.cell (p:=⟨b,off+j*3+1+1,none⟩) hlt).trans (hc j hj).2.2⟩⟩⟩
theorem RdOp.more {w:World} {B B':Nat} {A:Option Addr} {c:Nat} {L:List OpA} (h:RdOp w B A c L) (hB:B≤B'):RdOp w B' A c L :=
 ⟨h.1,h.2.1,fun o ho=>⟨(h.2.2.1 o ho).1.more hB,(h.2.2.1 o ho).2⟩,fun hn=>by
  obtain ⟨b,off,e,hlt,hc⟩:=h.2.2.2 hn
  exact ⟨b,off,e,by omega,hc⟩⟩
end Go.Proofs.YtnedpkhehiijhaaGreat
