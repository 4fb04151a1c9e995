/- Words and laws for the statement, part 11. -/
import Derived.Shelf.SlIter.Nil
import Derived.Shelf.SortM.Plain
import Derived.Shelf.SortM.SortNone
import Derived.Test.YtnedpkhehiijhaaGreatQ05
import Derived.Test.YtnedpkhehiijhaaGreatQ10
namespace Go.Proofs.YtnedpkhehiijhaaGreat
open Go.RowKit
set_option linter.unusedVariables false

/-- How a plan stands when the names D have been dropped. -/
structure DInv (ov:Nat→V3) (p0:Pln) (D:List ByteArray) (p:Pln):Prop where
 gone:∀ i,i<40→usedV (ov i)=true→(ov i).1∈D→p.nv i=zV
 rest:∀ i,i<40→¬ (usedV (ov i)=true∧(ov i).1∈D)→p.nv i=p0.nv i
 ws:∃ zs,p.ws=p0.ws ++ zs∧(zs.map (·.1)).Nodup∧(∀ q∈zs,∃ i:Nat,i<40∧q=((i:Int),zsec)∧usedV (ov i)=true∧(ov i).1∈D)∧∀ i:Nat,i<40→usedV (ov i)=true→(ov i).1∈D→((i:Int),zsec)∈zs
theorem DInv.start (ov:Nat→V3) (p0:Pln):DInv ov p0 [] p0 :=
 ⟨(fun _ _ _ h=>nomatch h),fun _ _ _=>rfl,[],(List.append_nil _).symm,List.nodup_nil,(fun _ h=>nomatch h),fun _ _ _ h=>nomatch h⟩
theorem DInv.all {ov:Nat→V3} {m:Nat} {fs:FateF} {p0:Pln} (hov:NvOk ov m):∀ {l D:List ByteArray} {p:Pln},DInv ov p0 D p→l.Nodup→(∀ s∈l,s ∉ D) →
  ∃ D',DInv ov p0 D' (dropAll ov fs l p)∧(∀ s∈D',s∈D∨fs s=some none)∧(∀ s∈D,s∈D')∧∀ s∈l,fs s=some none→s∈D'
 | [],D,p,h,_,_=>⟨D,h,fun s hs=>.inl hs,fun s hs=>hs,fun s hs=>by cases hs⟩
 | s :: l,D,p,h,hnd,hD=>by
  rw [List.nodup_cons] at hnd
  have hsD:=hD s (List.mem_cons_self ..)
  have next:∀ {p':Pln},fs s=some none→DInv ov p0 (s :: D) p'→∃ D',DInv ov p0 D' (dropAll ov fs l p')∧(∀ t∈D',t∈D∨fs t=some none)∧(∀ t∈D,t∈D')∧∀ t∈s :: l,fs t=some none→t∈D':=fun hf h'=>by
   obtain ⟨D',a,b,c,e⟩:=DInv.all hov h' hnd.2 (fun t ht hk=>by
    rcases List.mem_cons.1 hk with rfl | hk
    ·exact hnd.1 ht
    ·exact hD t (List.mem_cons_of_mem _ ht) hk)
   refine ⟨D',a,fun t ht=>?_,fun t ht=>c t (List.mem_cons_of_mem _ ht),fun t ht hft=>?_⟩
   ·rcases b t ht with hb | hb
    ·rcases List.mem_cons.1 hb with rfl | hb
     ·exact .inr hf
     ·exact .inl hb
    ·exact .inr hb
   ·rcases List.mem_cons.1 ht with rfl | ht
    ·exact c t (List.mem_cons_self ..)
    ·exact e t ht hft
  have skip:fs s≠some none→∃ D',DInv ov p0 D' (dropAll ov fs l p)∧(∀ t∈D',t∈D∨fs t=some none)∧(∀ t∈D,t∈D')∧∀ t∈s :: l,fs t=some none→t∈D':=fun hf=>by
   obtain ⟨D',a,b,c,e⟩:=DInv.all hov h hnd.2 (fun t ht=>hD t (List.mem_cons_of_mem _ ht))
   refine ⟨D',a,b,c,fun t ht hft=>?_⟩
   rcases List.mem_cons.1 ht with rfl | ht
   ·exact absurd hft hf
   ·exact e t ht hft
  obtain ⟨zs,z1,z2,z3,z4⟩:=h.ws
  unfold dropAll
  split
  ·rename_i i hf hsl
   obtain ⟨a,b,c⟩:=slotO_some hsl
   refine next hf ⟨fun j hj hu hm=>?_,fun j hj hn=>?_,zs ++ [((i:Int),zsec)],?_,?_,fun q hq=>?_,fun j hj hu hm=>?_⟩
   ·show updV p.nv i zV j=zV
    by_cases e:j=i
    ·subst e;exact updV_same _ _ _
    ·rw [updV_ne _ _ e]
     rcases List.mem_cons.1 hm with hm | hm
     ·exact absurd (hm.trans c.symm) (hov.name j i hj a e hu b)
     ·exact h.gone j hj hu hm
   ·show updV p.nv i zV j=_
    by_cases e:j=i
    ·subst e;exact absurd ⟨b,by rw [c];exact List.mem_cons_self ..⟩ hn
    ·rw [updV_ne _ _ e]
     exact h.rest j hj fun hh=>hn ⟨hh.1,List.mem_cons_of_mem _ hh.2⟩
   ·show p.ws ++ [((i:Int),zsec)]=_
    rw [z1,List.append_assoc]
   ·rw [List.map_append,List.nodup_append]
    refine ⟨z2,by simp,fun x hx y hy=>?_⟩
    obtain ⟨q,hq,rfl⟩:=List.mem_map.1 hx
    obtain ⟨i',h1,rfl,h3,h4⟩:=z3 q hq
    have hy:y=(i:Int):=by simpa using hy
    rw [hy]
    intro e
    have e:i'=i:=by dsimp only at e;omega
    subst e
    rw [c] at h4
    exact hsD h4
   ·rcases List.mem_append.1 hq with hq | hq
    ·obtain ⟨i',h1,h2,h3,h4⟩:=z3 q hq
     exact ⟨i',h1,h2,h3,List.mem_cons_of_mem _ h4⟩
    ·rw [List.mem_singleton.1 hq]
     exact ⟨i,a,rfl,b,by rw [c];exact List.mem_cons_self ..⟩
   ·rcases List.mem_cons.1 hm with hm | hm
    ·by_cases e:j=i
     ·subst e;simp
     ·exact absurd (hm.trans c.symm) (hov.name j i hj a e hu b)
    ·exact List.mem_append_left _ (z4 j hj hu hm)
  ·rename_i hno
   by_cases hf:fs s=some none
   ·have hsl:slotO ov s=none:=by
     cases hq:slotO ov s with
     | none=>rfl
     | some i=>exact (hno i hf hq).elim
    refine next hf ⟨fun j hj hu hm=>?_,fun j hj hn=>?_,zs,z1,z2,fun q hq=>?_,fun j hj hu hm=>?_⟩
    ·rcases List.mem_cons.1 hm with hm | hm
     ·exact absurd hm (slotO_none hsl hj hu)
     ·exact h.gone j hj hu hm
    ·exact h.rest j hj fun hh=>hn ⟨hh.1,List.mem_cons_of_mem _ hh.2⟩
    ·obtain ⟨i',h1,h2,h3,h4⟩:=z3 q hq
     exact ⟨i',h1,h2,h3,List.mem_cons_of_mem _ h4⟩
    ·rcases List.mem_cons.1 hm with hm | hm
     ·exact absurd hm (slotO_none hsl hj hu)
     ·exact z4 j hj hu hm
   ·exact skip hf
/-- All is done, plainly. -/
structure Done (ov:Nat→V3) (m:Nat) (fs:FateF) (p:Pln):Prop where
 nok:NvOk p.nv m
 wr:∀ q∈p.ws,0≤q.1∧q.1<(m:Int)∧q.2.length=64
 wd:(p.ws.map (·.1)).Nodup
 slot:∀ i:Nat,i<40→(p.nv i=ov i∧∀ q∈p.ws,q.1≠(i:Int))∨(p.nv i=zV∧((i:Int),zsec)∈p.ws)∨∃ s d,NameOk s∧PutAt p i s d
 plc:∀ i,i<40→∀ x∈(ov i).2.2,∀ q∈p.ws,q.1≠x
 put:∀ s d,fs s=some (some d)→NameOk s∧∃ i,i<40∧PutAt p i s d
 gone:∀ s,fs s=some none→∀ i,i<40→usedV (p.nv i)=true→(p.nv i).1≠s
 same:∀ i,i<40→usedV (p.nv i)=true→fs (p.nv i).1=none→p.nv i=ov i
 kept:∀ i,i<40→usedV (ov i)=true→fs (ov i).1=none→p.nv i=ov i
theorem Done.of {ov:Nat→V3} {m:Nat} {fs:FateF} {K D:List ByteArray} {p0 p:Pln} (hov:NvOk ov m) (hm:40≤m) (h:PInv ov m fs K p0) (hK:∀ s d,fs s=some (some d)→s∈K) (hd:DInv ov p0 D p) (hD:∀ s,s∈D↔fs s=some none):Done ov m fs p:=by
 obtain ⟨zs,z1,z2,z3,z4⟩:=hd.ws
 have kd:∀ s,s∈K→s ∉ D:=fun s h1 h2=>by
  obtain ⟨_,d,_,h3,_⟩:=h.put s h1
  rw [(hD s).1 h2] at h3
  cases h3
 have wsm:∀ q,q∈p.ws→q∈p0.ws∨∃ i:Nat,i<40∧q=((i:Int),zsec)∧usedV (ov i)=true∧(ov i).1∈D:=fun q hq=>by
  rw [z1] at hq
  rcases List.mem_append.1 hq with hq | hq
  ·exact .inl hq
  ·exact .inr (z3 q hq)
 have us:∀ i,i<40→usedV (p.nv i)=true→¬ (usedV (ov i)=true∧(ov i).1∈D):=fun i hi hu hh=>by
  rw [hd.gone i hi hh.1 hh.2,zV_not] at hu
  cases hu
 have ue:∀ i,i<40→usedV (p.nv i)=true→p.nv i=p0.nv i:=fun i hi hu=>hd.rest i hi (us i hi hu)
 have put:∀ s∈K,NameOk s∧∃ d i,fs s=some (some d)∧i<40∧(p0.nv i).1=s∧PutAt p i s d:=fun s hs=>by
  obtain ⟨h0,d,i,h1,h2,pl,h3,h4,h5,h6,h7⟩:=h.put s hs
  have e0:(p0.nv i).1=s:=by rw [h3]
  have e:p.nv i=p0.nv i:=hd.rest i h2 fun hh=>by
   rw [h.keep i h2 hh.1] at e0
   exact kd s hs (e0 ▸ hh.2)
  exact ⟨h0,d,i,h1,h2,e0,pl,by rw [e];exact h3,h4,h5,by rw [z1];exact List.mem_append_left _ h6,fun k hk=>by rw [z1];exact List.mem_append_left _ (h7 k hk)⟩
 refine ⟨⟨fun i hi hu=>?_,fun i hi hu=>?_,fun i j hi hj hij hu hv=>?_,fun i j hi hj hij hu hv=>?_,fun i hi hu=>?_⟩,fun q hq=>?_,?_,fun i hi=>?_,fun i hi x hx q hq=>?_,fun s d hf=>?_,fun s hf i hi hu e=>?_,fun i hi hu hf=>?_,fun i hi hu hf=>?_⟩
 ·have e:=ue i hi hu
  rw [e] at hu ⊢
  exact h.nok.node i hi hu
 ·have e:=ue i hi hu
  rw [e] at hu ⊢
  exact h.nok.rng i hi hu
 ·have e:=ue i hi hu
  have e':=ue j hj hv
  rw [e] at hu ⊢
  rw [e'] at hv ⊢
  exact h.nok.name i j hi hj hij hu hv
 ·have e:=ue i hi hu
  have e':=ue j hj hv
  rw [e] at hu ⊢
  rw [e'] at hv ⊢
  exact h.nok.plc i j hi hj hij hu hv
 ·by_cases hh:usedV (ov i)=true∧(ov i).1∈D
  ·exact hd.gone i hi hh.1 hh.2
  ·have e:=hd.rest i hi hh
   rw [e] at hu ⊢
   exact h.nok.none i hi hu
 ·rcases wsm q hq with hq | ⟨i,h1,rfl,_⟩
  ·exact h.wr q hq
  ·exact ⟨by dsimp only;omega,by dsimp only;omega,List.length_replicate⟩
 ·rw [z1,List.map_append,List.nodup_append]
  refine ⟨h.wd,z2,fun a ha b hb e=>?_⟩
  obtain ⟨q,hq,rfl⟩:=List.mem_map.1 ha
  obtain ⟨r,hr,rfl⟩:=List.mem_map.1 hb
  obtain ⟨i,h1,rfl,h3,h4⟩:=z3 r hr
  dsimp only at e
  obtain ⟨h5,_⟩:=h.wlo q hq (by omega)
  rw [e,Int.toNat_natCast,h.keep i h1 h3] at h5
  exact kd _ h5 h4
 ·by_cases hh:usedV (ov i)=true∧(ov i).1∈D
  ·exact .inr (.inl ⟨hd.gone i hi hh.1 hh.2,by rw [z1];exact List.mem_append_right _ (z4 i hi hh.1 hh.2)⟩)
  ·have e:=hd.rest i hi hh
   by_cases hk:(p0.nv i).1∈K
   ·obtain ⟨h0,d,i',h1,h2,h3,h4⟩:=put _ hk
    have ui:usedV (p0.nv i)=true:=name_used (z:=(p0.nv i).2.1) (l:=(p0.nv i).2.2) h0
    have ui':usedV (p0.nv i')=true:=usedV_iff.2 fun e=>by
     rw [h3] at e
     exact usedV_iff.1 ui e
    have hii:i'=i:=Classical.byContradiction fun hne=>h.nok.name i' i h2 hi hne ui' ui h3
    subst hii
    exact .inr (.inr ⟨_,d,h0,h4⟩)
   ·refine .inl ⟨e.trans (h.old i hi hk),fun q hq e2=>?_⟩
    rcases wsm q hq with hq | ⟨i',h1,rfl,h3,h4⟩
    ·have:=(h.wlo q hq (by omega)).1
     rw [e2,Int.toNat_natCast] at this
     exact hk this
    ·dsimp only at e2
     have e2:i'=i:=by omega
     subst e2
     exact hh ⟨h3,h4⟩
 ·have hu:usedV (ov i)=true:=by
   cases hq:usedV (ov i) with
   | true=>rfl
   | false=>rw [hov.none i hi hq] at hx;cases hx
  have h40:=(hov.rng i hi hu x hx).1
  intro e
  rcases wsm q hq with hq | ⟨i',h1,rfl,h3,h4⟩
  ·exact (h.whi q hq (by omega)).2 i hi (e ▸ hx)
  ·dsimp only at e
   omega
 ·obtain ⟨h0,d',i,h1,h2,_,h4⟩:=put s (hK s d hf)
  rw [hf] at h1
  injection h1 with h1
  injection h1 with h1
  subst h1
  exact ⟨h0,i,h2,h4⟩
 ·have hk:s ∉ K:=fun hk=>kd s hk ((hD s).2 hf)
  have e2:=ue i hi hu
  have e3:=h.old i hi (by rw [←e2,e];exact hk)
  have:ov i=p.nv i:=by rw [e2,e3]
  exact us i hi hu ⟨by rw [this];exact hu,by rw [this,e];exact (hD s).2 hf⟩
 ·have e2:=ue i hi hu
  have hk:(p.nv i).1 ∉ K:=fun hk=>by
   obtain ⟨_,d,_,h3,_⟩:=h.put _ hk
   rw [hf] at h3
   cases h3
  rw [e2] at hk ⊢
  exact h.old i hi hk
 ·have e2:p.nv i=p0.nv i:=hd.rest i hi fun hh=>by
   rw [(hD _).1 hh.2] at hf
   cases hf
  rw [e2]
  refine h.old i hi ?_
  rw [h.keep i hi hu]
  intro hk
  obtain ⟨_,d,_,h3,_⟩:=h.put _ hk
  rw [hf] at h3
  cases h3
/-- What a commit leaves. -/
structure After (s s':Dk) (ws:List (Int×List Nat)):Prop where
 many:s'.many=s.many
 on:∀ q∈ws,s'.read (157+q.1)=q.2
 off:∀ i:Int,0≤i→(∀ q∈ws,q.1≠i)→s'.read (157+i)=s.read (157+i)
theorem After.of_now {s s':Dk} {ws:List (Int×List Nat)} (hm:0<s.many) (hmay:mayJ s.many ws=true) (hn:s'.now=setAll s.now (commitW ws)) (h150:ws.length≤150):After s s' ws:=by
 have hl:s'.now.length=s.now.length:=by rw [hn,setAll_length]
 unfold mayJ at hmay
 rw [decide_eq_true_eq] at hmay
 have hml:s.now.length=s.many+157:=by unfold Dk.many at hm ⊢;omega
 have rd:∀ (t:Dk) (i:Int),0≤i→t.read (157+i)=t.now.getD (157+i).toNat []:=fun t i hi=>by unfold Dk.read;rw [if_pos (by omega)]
 refine ⟨by unfold Dk.many;rw [hl],fun q hq=>?_,fun i hi hno=>?_⟩
 ·obtain ⟨k,hk,rfl⟩:=List.getElem_of_mem hq
  have hp:=hmay.1 _ (List.getElem_mem hk)
  rw [rd _ _ hp.1,hn]
  exact commitW_place (List.getElem?_eq_getElem hk) ⟨hp.1,by omega⟩ (fun q hq=>(hmay.1 q hq).1) hmay.2
 ·rw [rd _ _ hi,rd _ _ hi,hn]
  have hsh:sheetsN ws.length≤5:=by unfold sheetsN;omega
  refine setAll_off fun q hq=>?_
  unfold commitW at hq
  rcases List.mem_append.1 hq with hq | hq
  ·rcases List.mem_append.1 hq with hq | hq
   ·obtain ⟨j,hj,rfl⟩:=List.mem_mapIdx.1 hq
    dsimp only
    omega
   ·obtain ⟨t,ht,rfl⟩:=List.mem_map.1 hq
    have:=List.mem_range.1 ht
    dsimp only
    omega
  ·rcases List.mem_append.1 hq with hq | hq
   ·rw [List.mem_singleton.1 hq]
    dsimp only
    omega
   ·rcases List.mem_append.1 hq with hq | hq
    ·obtain ⟨q',hq',rfl⟩:=List.mem_map.1 hq
     have:=hno q' hq'
     have:=(hmay.1 q' hq').1
     dsimp only
     omega
    ·rw [List.mem_singleton.1 hq]
     dsimp only
     omega
theorem After.nil (s:Dk):After s s []:=⟨rfl,(fun _ h=>nomatch h),fun _ _ _=>rfl⟩
end Go.Proofs.YtnedpkhehiijhaaGreat
namespace Go.Proofs.YtnedpkhehiijhaaGreat
open Go.RowKit Go.Maps Go.Sort Go.Shelf
set_option linter.unusedVariables false
def layKeys_ren:Go.Shelf.Ren:=⟨fun | 7=>85 | 10=>113 | n=>n,fun | 23=>93 | 26=>9 | 3=>144 | 28=>152 | 0=>0 | 27=>151 | 33=>158 | 4=>4 | n=>n,fun | n=>n⟩
theorem layKeys:Go.Proofs.SlLaysZ.n7 Tryz.prog layKeys_ren:={
 mixed:=by kernel_rfl
 f7 := ⟨"maps.Keys[map[string]apostille/fs.fate,string,apostille/fs.fate]", by decide, Tryz.func85.trans (congrArg some (by kernel_rfl))⟩
 f10 := ⟨"maps.Keys[map[string]apostille/fs.fate,string,apostille/fs.fate]$1", by decide, Tryz.func113.trans (congrArg some (by kernel_rfl))⟩
 t0:=Tryz.underlying0
 a0:=Tryz.isAgg0
 z0:=Tryz.sizeOf0
 v0:=Tryz.zeroValue0
 t4:=Tryz.underlying4
 a4:=Tryz.isAgg4
 z4:=Tryz.sizeOf4
 v4:=Tryz.zeroValue4
 t23:=Tryz.underlying93
 a23:=Tryz.isAgg93
 z23:=Tryz.sizeOf93
 v23:=Tryz.zeroValue93
 t26:=Tryz.underlying9
 a26:=Tryz.isAgg9
 z26:=Tryz.sizeOf9
 v26:=Tryz.zeroValue9
 t27:=Tryz.underlying151
 a27:=Tryz.isAgg151
 z27:=Tryz.sizeOf151
 v27:=Tryz.zeroValue151
 t28:=Tryz.underlying152
 a28:=Tryz.isAgg152
 z28:=Tryz.sizeOf152
 v28:=Tryz.zeroValue152
 t33:=Tryz.underlying158
 a33:=Tryz.isAgg158
 z33:=Tryz.sizeOf158
 v33:=Tryz.zeroValue158
}
def laySorted_ren:Go.Shelf.Ren:=⟨fun | 6=>84 | 8=>111 | 9=>112 | 11=>124 | 13=>119 | 12=>125 | 23=>136 | 24=>137 | 14=>138 | 15=>139 | 16=>140 | 17=>141 | 18=>142 | 19=>143 | 20=>144 | 21=>145 | 22=>146 | 25=>152 | 26=>148 | 27=>149 | 28=>153 | 29=>154 | 30=>120 | 31=>156 | n=>n,fun | 26=>9 | 28=>152 | 24=>149 | 0=>0 | 3=>3 | 37=>176 | 48=>196 | 50=>198 | 4=>4 | 40=>190 | 39=>189 | 45=>126 | 5=>5 | 9=>9 | 51=>205 | 55=>209 | 57=>213 | 58=>214 | 33=>158 | n=>n,fun | n=>n⟩
theorem laySorted:Go.Proofs.SlLaysZ.n6 Tryz.prog laySorted_ren:={
 mixed:=by kernel_rfl
 f6 := ⟨"slices.Sorted[string]", by decide, Tryz.func84.trans (congrArg some (by kernel_rfl))⟩
 f8 := ⟨"slices.Collect[string]", by decide, Tryz.func111.trans (congrArg some (by kernel_rfl))⟩
 f11 := ⟨"slices.AppendSeq[[]string,string]", by decide, Tryz.func124.trans (congrArg some (by kernel_rfl))⟩
 t0:=Tryz.underlying0
 a0:=Tryz.isAgg0
 z0:=Tryz.sizeOf0
 v0:=Tryz.zeroValue0
 t24:=Tryz.underlying149
 a24:=Tryz.isAgg149
 z24:=Tryz.sizeOf149
 v24:=Tryz.zeroValue149
 t26:=Tryz.underlying9
 a26:=Tryz.isAgg9
 z26:=Tryz.sizeOf9
 v26:=Tryz.zeroValue9
 t28:=Tryz.underlying152
 a28:=Tryz.isAgg152
 z28:=Tryz.sizeOf152
 v28:=Tryz.zeroValue152
 i26:=by kernel_rfl
}
def laySort_ren:Go.Shelf.Ren:=⟨fun | 6=>112 | 8=>119 | 9=>125 | 19=>136 | 20=>137 | 21=>138 | 22=>139 | 23=>140 | 24=>141 | 25=>142 | 26=>143 | 27=>144 | 28=>145 | 29=>146 | 36=>152 | 31=>148 | 32=>149 | 37=>153 | 38=>154 | 39=>120 | 41=>156 | n=>n,fun | 27=>149 | 29=>9 | 3=>3 | 32=>176 | 26=>149 | 0=>0 | 44=>196 | 46=>198 | 4=>4 | 36=>190 | 35=>189 | 41=>126 | 5=>5 | 9=>9 | 53=>205 | 57=>209 | 63=>213 | 64=>214 | n=>n,fun | n=>n⟩
theorem laySort:Go.Proofs.SlLaysM.n6 Tryz.prog laySort_ren:={
 mixed:=by kernel_rfl
 f6 := ⟨"slices.Sort[[]string,string]", by decide, Tryz.func112.trans (congrArg some (by kernel_rfl))⟩
 f8:=Tryz.func119.trans (congrArg some (by kernel_rfl))
 f9 := ⟨"slices.pdqsortOrdered[string]", by decide, Tryz.func125.trans (congrArg some (by kernel_rfl))⟩
 f19:=Tryz.func136.trans (congrArg some (by kernel_rfl))
 f20:=Tryz.func137.trans (congrArg some (by kernel_rfl))
 f21 := ⟨"slices.insertionSortOrdered[string]", by decide, Tryz.func138.trans (congrArg some (by kernel_rfl))⟩
 f22 := ⟨"slices.heapSortOrdered[string]", by decide, Tryz.func139.trans (congrArg some (by kernel_rfl))⟩
 f23 := ⟨"slices.breakPatternsOrdered[string]", by decide, Tryz.func140.trans (congrArg some (by kernel_rfl))⟩
 f24 := ⟨"slices.choosePivotOrdered[string]", by decide, Tryz.func141.trans (congrArg some (by kernel_rfl))⟩
 f25 := ⟨"slices.reverseRangeOrdered[string]", by decide, Tryz.func142.trans (congrArg some (by kernel_rfl))⟩
 f26 := ⟨"slices.partialInsertionSortOrdered[string]", by decide, Tryz.func143.trans (congrArg some (by kernel_rfl))⟩
 f27 := ⟨"cmp.Less[string]", by decide, Tryz.func144.trans (congrArg some (by kernel_rfl))⟩
 f28 := ⟨"slices.partitionEqualOrdered[string]", by decide, Tryz.func145.trans (congrArg some (by kernel_rfl))⟩
 f29 := ⟨"slices.partitionOrdered[string]", by decide, Tryz.func146.trans (congrArg some (by kernel_rfl))⟩
 f31:=Tryz.func148.trans (congrArg some (by kernel_rfl))
 f32:=Tryz.func149.trans (congrArg some (by kernel_rfl))
 f36 := ⟨"slices.siftDownOrdered[string]", by decide, Tryz.func152.trans (congrArg some (by kernel_rfl))⟩
 f37 := ⟨"slices.medianAdjacentOrdered[string]", by decide, Tryz.func153.trans (congrArg some (by kernel_rfl))⟩
 f38 := ⟨"slices.medianOrdered[string]", by decide, Tryz.func154.trans (congrArg some (by kernel_rfl))⟩
 f39 := ⟨"cmp.isNaN[string]", by decide, Tryz.func120.trans (congrArg some (by kernel_rfl))⟩
 f41 := ⟨"slices.order2Ordered[string]", by decide, Tryz.func156.trans (congrArg some (by kernel_rfl))⟩
 t0:=Tryz.underlying0
 a0:=Tryz.isAgg0
 z0:=Tryz.sizeOf0
 v0:=Tryz.zeroValue0
 t3:=Tryz.underlying3
 a3:=Tryz.isAgg3
 z3:=Tryz.sizeOf3
 v3:=Tryz.zeroValue3
 t4:=Tryz.underlying4
 a4:=Tryz.isAgg4
 z4:=Tryz.sizeOf4
 v4:=Tryz.zeroValue4
 t5:=Tryz.underlying5
 a5:=Tryz.isAgg5
 z5:=Tryz.sizeOf5
 v5:=Tryz.zeroValue5
 t9:=Tryz.underlying9
 a9:=Tryz.isAgg9
 z9:=Tryz.sizeOf9
 v9:=Tryz.zeroValue9
 t26:=Tryz.underlying149
 a26:=Tryz.isAgg149
 z26:=Tryz.sizeOf149
 v26:=Tryz.zeroValue149
 t27:=Tryz.underlying149
 a27:=Tryz.isAgg149
 z27:=Tryz.sizeOf149
 v27:=Tryz.zeroValue149
 t29:=Tryz.underlying9
 a29:=Tryz.isAgg9
 z29:=Tryz.sizeOf9
 v29:=Tryz.zeroValue9
 t32:=Tryz.underlying176
 a32:=Tryz.isAgg176
 z32:=Tryz.sizeOf176
 v32:=Tryz.zeroValue176
 t35:=Tryz.underlying189
 a35:=Tryz.isAgg189
 z35:=Tryz.sizeOf189
 v35:=Tryz.zeroValue189
 t36:=Tryz.underlying190
 a36:=Tryz.isAgg190
 z36:=Tryz.sizeOf190
 v36:=Tryz.zeroValue190
 t41:=Tryz.underlying126
 a41:=Tryz.isAgg126
 z41:=Tryz.sizeOf126
 v41:=Tryz.zeroValue126
 t44:=Tryz.underlying196
 a44:=Tryz.isAgg196
 z44:=Tryz.sizeOf196
 v44:=Tryz.zeroValue196
 t46:=Tryz.underlying198
 a46:=Tryz.isAgg198
 z46:=Tryz.sizeOf198
 v46:=Tryz.zeroValue198
 t53:=Tryz.underlying205
 a53:=Tryz.isAgg205
 z53:=Tryz.sizeOf205
 v53:=Tryz.zeroValue205
 t57:=Tryz.underlying209
 a57:=Tryz.isAgg209
 z57:=Tryz.sizeOf209
 v57:=Tryz.zeroValue209
 t63:=Tryz.underlying213
 a63:=Tryz.isAgg213
 z63:=Tryz.sizeOf213
 v63:=Tryz.zeroValue213
 t64:=Tryz.underlying214
 a64:=Tryz.isAgg214
 z64:=Tryz.sizeOf214
 v64:=Tryz.zeroValue214
}
theorem sortsK (m:Nat):AnyZ.SortsIn Tryz.prog laySorted_ren Fence.wide m :=
 ⟨fun blk off cap ss W hH hblk hsz=>callsIn_wide.2 (AnyM.slices_Sort_string laySort blk off cap ss W hH hblk hsz),
  fun p cap W=>callsIn_wide.2 (AnyM.slices_Sort_string_none laySort p cap W)⟩

theorem keys_laid (mb:Option Nat) (W:World):CallsIn Fence.wide 5 Tryz.prog 85 #[.map mb] W fun e w'=>e = .returned (.func (.func 113) #[] #[.pointer (some ⟨W.heap.size,0,none⟩)])∧w'=W.alloc (.cells #[.map mb] 93) :=
 AnyZ.keys_in layKeys Fence.wide 5 trivial rfl mb W

set_option maxHeartbeats 1000000 in
theorem sorted_laid {H:Type} (b nn:Nat) (D0:DataW H) (R:Value→Option (DataW H×List MemPlace)) (w:World) (hown:w.ownsMap Tryz.prog 9 R b nn D0) (hmax:Maps.size D0≤maxLen) (hbytes:Maps.size D0*16≤140737488355328) :
  CallsIn Fence.wide 5 Tryz.prog 84 #[.func (.func 113) #[] #[.pointer (some ⟨w.heap.size,0,none⟩)]] (w.alloc (.cells #[.map (some b)] 93)) fun e w'=>∃ (v:Value) (ss:List (List UInt8)),e = .returned v∧ss.Perm (strKeys D0) ∧
   w'.ownsRow (w.alloc (.cells #[.map (some b)] 93)).heap.size 9 1 v ss.length ((ss.mergeSort (fun x y=>decide (x≤y))).map encStr)∧(v = .slice none 0 0↔ss=[])∧Below (w.alloc (.cells #[.map (some b)] 93)).heap.size (w.alloc (.cells #[.map (some b)] 93)) w':=by
 have hbl:=hown.lt
 have hseq:SeqGives Fence.wide 2 Tryz.prog 113 #[.pointer (some ⟨w.heap.size,0,none⟩)] encStr (fun ss=>ss.Perm (strKeys D0)) (Maps.size D0) (w.alloc (.cells #[.map (some b)] 93)) :=
  AnyZ.keys_gives (ρ:=layKeys_ren) { layKeys with } Fence.wide _ trivial rfl (by omega) w.heap.size b nn D0 _ (by simp) (by simp) (by
   obtain ⟨es,clock,hb,Ft,hs,hD⟩:=hown
   exact ⟨es,clock,(Below.heap_alloc _ _ b hbl).trans hb,Ft,hs,hD⟩)
 exact AnyZ.sorted_in laySorted Fence.wide 5 trivial trivial trivial trivial rfl (by omega) (sortsK _) (enters_of Tryz.func112 (by kernel_rfl) rfl) 113 #[.pointer (some ⟨w.heap.size,0,none⟩)] trivial (enters_of Tryz.func113 (by kernel_rfl) rfl) _ _ hmax hbytes _ hseq

end Go.Proofs.YtnedpkhehiijhaaGreat
namespace Go.Proofs.YtnedpkhehiijhaaGreat
open Go.RowKit
set_option linter.unusedVariables false

theorem partK_len (d:List Nat) (k:Nat):(partK d k).length=64:=secOf_length _
theorem partK_at {d:List Nat} {k j:Nat} (hj:j<64) (h:64*k+j<d.length):(partK d k)[j]?=d[64*k+j]?:=by
 unfold partK
 rw [secOf_short (by rw [List.length_take];omega)]
 rw [List.getElem?_append_left (by rw [List.length_take,List.length_drop];omega),List.getElem?_take_of_lt hj,List.getElem?_drop]
theorem parts_all (d:List Nat):((List.range (needN d)).flatMap (partK d)).take d.length=d:=by
 apply List.ext_getElem?
 intro t
 by_cases ht:t<d.length
 ·rw [List.getElem?_take_of_lt ht]
  have hk:t / 64<needN d:=by unfold needN;omega
  have h:=flat_at (f:=partK d) (m:=64) (L:=List.range (needN d)) (fun x _=>partK_len d x) (i:=t / 64) (j:=t % 64) (x:=t / 64) (by rw [List.getElem?_range hk]) (by omega)
  rw [show 64*(t / 64)+t % 64=t by omega] at h
  rw [h,partK_at (by omega) (by omega),show 64*(t / 64)+t % 64=t by omega]
 ·rw [List.getElem?_eq_none (by rw [List.length_take];omega),List.getElem?_eq_none (by omega)]
theorem NdOf.of_v {b:List Nat} {d d':Nd} (h:NdOf b d) (e:d.v=d'.v):NdOf b d':=by
 unfold Nd.v at e
 injection e with e1 e
 injection e with e2 e3
 obtain ⟨z,p,f,hr,h1,h2⟩:=h
 exact ⟨z,p,f,by rw [←e1];exact hr,by rw [←e2];exact h1,by rw [←e3];exact h2⟩
theorem NdOf.free {d:Nd} (e:d.v=zV):NdOf zsec d:=by
 unfold Nd.v zV at e
 injection e with e1 e
 injection e with e2 e3
 exact ⟨0,[],true,.free e1 rfl rfl rfl,e2,e3⟩
theorem NdOf.node {d:Nd} {s:ByteArray} {z:Nat} {pl:List Nat} (e:d.v=(s,(z:Int),pl.map fun x:Nat=>(x:Int))) (hok:NodeOk s z (pl.map fun x:Nat=>(x:Int))) (hs:∀ x∈pl,x≤65535):NdOf (enc s z pl) d:=by
 unfold Nd.v at e
 injection e with e1 e
 injection e with e2 e3
 exact ⟨z,pl,false,.node (by rw [e1];exact ⟨hok,hs,rfl⟩),e2,e3⟩
section
variable {s s':Dk} {ns ns':List Nd} {fs:FateF} {p:Pln}
theorem Done.mounts (hm:Mounts s ns) (hd:Done (nvOf ns) s.many fs p) (ha:After s s' p.ws) (hn:ns'.length=40) (he:∀ i,i<40→nvOf ns' i=p.nv i):Mounts s' ns':=by
 refine ⟨hn,by rw [ha.many];exact hm.many,fun i hi=>?_,?_⟩
 ·have e:=he i hi
  rcases hd.slot i hi with ⟨h1,h2⟩ | ⟨h1,h2⟩ | ⟨t,d,h0,pl,h1,h2,h3,h4,h5⟩
  ·rw [ha.off i (by omega) h2]
   exact (hm.rd i hi).of_v (by rw [show (ns'.getD i default).v=nvOf ns' i from rfl,e,h1];rfl)
  ·rw [show s'.read (157+(i:Int))=zsec from ha.on _ h2]
   exact NdOf.free (e.trans h1)
  ·rw [show s'.read (157+(i:Int))=enc t d.length pl from ha.on _ h4]
   refine NdOf.node (e.trans h1) ?_ h3
   have:=hd.nok.node i hi (by rw [h1];exact name_used h0)
   rw [h1] at this
   exact this
 ·rw [ha.many]
  exact NvOk.roomOk (m:=s.many) ⟨fun i hi hu=>by rw [he i hi] at hu ⊢;exact hd.nok.node i hi hu,fun i hi hu=>by rw [he i hi] at hu ⊢;exact hd.nok.rng i hi hu,
   fun i j hi hj hij hu hv=>by rw [he i hi] at hu ⊢;rw [he j hj] at hv ⊢;exact hd.nok.name i j hi hj hij hu hv,
   fun i j hi hj hij hu hv=>by rw [he i hi] at hu ⊢;rw [he j hj] at hv ⊢;exact hd.nok.plc i j hi hj hij hu hv,
   fun i hi hu=>by rw [he i hi] at hu ⊢;exact hd.nok.none i hi hu⟩ hn (by have:=hm.room.m1;omega)
theorem Done.data_put (ha:After s s' p.ws) {i:Nat} {t:ByteArray} {d:List Nat} (h:PutAt p i t d) (he:nvOf ns' i=p.nv i):dataN s' (ns'.getD i default)=d:=by
 obtain ⟨pl,h1,h2,h3,h4,h5⟩:=h
 have e:(ns'.getD i default).v=(t,(d.length:Int),pl.map fun x:Nat=>(x:Int)):=he.trans h1
 unfold Nd.v at e
 injection e with e1 e
 injection e with e2 e3
 unfold dataN secsN
 rw [e2,e3,Int.toNat_natCast]
 have e4:((pl.map fun x:Nat=>(x:Int)).flatMap fun p=>s'.read (157+p))=(List.range (needN d)).flatMap (partK d):=by
  rw [List.flatMap_map]
  unfold List.flatMap
  congr 1
  apply List.ext_getElem
  ·simp [h2]
  ·intro k hk1 hk2
   have hk:k<needN d:=by simpa using hk2
   have hk':k<pl.length:=by omega
   simp only [List.getElem_map,List.getElem_range]
   have:=ha.on _ (h5 k hk)
   have e5:pl.getD k 0=pl[k]:=by simp [List.getD,hk']
   rw [e5] at this
   exact this
 rw [e4]
 exact parts_all d
theorem Done.data_kept (hd:Done (nvOf ns) s.many fs p) (hm:Mounts s ns) (ha:After s s' p.ws) {i:Nat} (hi:i<40) (he:nvOf ns' i=nvOf ns i):dataN s' (ns'.getD i default)=dataN s (ns.getD i default):=by
 have e:(ns'.getD i default).v=(ns.getD i default).v:=he
 unfold Nd.v at e
 injection e with e1 e
 injection e with e2 e3
 unfold dataN secsN
 rw [e2,e3]
 congr 1
 unfold List.flatMap
 congr 1
 refine List.map_congr_left fun x hx=>?_
 refine ha.off x ?_ fun q hq=>hd.plc i hi x hx q hq
 have hov:=hm.nvOk
 cases hu:usedV (nvOf ns i) with
 | true=>have:=(hov.rng i hi hu x hx).1;omega
 | false =>
  have h0:=hov.none i hi hu
  have:(ns.getD i default).pl=[]:=congrArg (fun v:V3=>v.2.2) h0
  rw [this] at hx
  cases hx
/-- What the file of this name holds. -/
def viewN (s:Dk) (ns:List Nd) (t:ByteArray):Option (List Nat):=(slotO (nvOf ns) t).map fun i=>dataN s (ns.getD i default)
theorem slotO_ext {a b:Nat→V3} (h:∀ i,i<40→a i=b i) (t:ByteArray):slotO a t=slotO b t:=by
 unfold slotO
 have:∀ l:List Nat,(∀ i∈l,i<40)→l.find? (fun i=>usedV (a i) && decide ((a i).1=t))=l.find? (fun i=>usedV (b i) && decide ((b i).1=t)):=fun l hl=>by
  induction l with
  | nil=>rfl
  | cons x l ih=>rw [List.find?_cons,List.find?_cons,h x (hl x (List.mem_cons_self ..)),ih fun i hi=>hl i (List.mem_cons_of_mem _ hi)]
 exact this _ fun i hi=>List.mem_range.1 hi
theorem Done.view (hm:Mounts s ns) (hd:Done (nvOf ns) s.many fs p) (ha:After s s' p.ws) (he:∀ i,i<40→nvOf ns' i=p.nv i) (t:ByteArray) :
  viewN s' ns' t=match fs t with | some x=>x | none=>viewN s ns t:=by
 have hov:=hm.nvOk
 unfold viewN
 rw [slotO_ext he]
 cases hf:fs t with
 | some x =>
  cases x with
  | some d =>
   obtain ⟨h0,i,hi,hp⟩:=hd.put t d hf
   have e1:(p.nv i).1=t:=by obtain ⟨pl,h1,_⟩:=hp;rw [h1]
   have hu:usedV (p.nv i)=true:=name_used (z:=(p.nv i).2.1) (l:=(p.nv i).2.2) (by rw [e1];exact h0)
   have hs:=slotO_is hd.nok hi hu
   rw [e1] at hs
   rw [hs]
   show some _=some d
   exact congrArg some (Done.data_put ha hp (he i hi))
  | none =>
   cases hs:slotO p.nv t with
   | none=>rfl
   | some i =>
    obtain ⟨a,b,c⟩:=slotO_some hs
    exact absurd c (hd.gone t hf i a b)
 | none =>
  cases hs:slotO p.nv t with
  | some i =>
   obtain ⟨a,b,c⟩:=slotO_some hs
   have e:=hd.same i a b (by rw [c];exact hf)
   have hs2:=slotO_is hov a (by rw [←e];exact b)
   rw [←e,c] at hs2
   rw [hs2]
   show some _=some _
   exact congrArg some (hd.data_kept hm ha a (by rw [he i a,e]))
  | none =>
   cases hs2:slotO (nvOf ns) t with
   | none=>rfl
   | some i =>
    obtain ⟨a,b,c⟩:=slotO_some hs2
    have e:=hd.kept i a b (by rw [c];exact hf)
    exact absurd (by rw [e];exact c) (slotO_none hs a (by rw [e];exact b))
end
end Go.Proofs.YtnedpkhehiijhaaGreat
namespace Go.Proofs.YtnedpkhehiijhaaGreat
open Go.RowKit Go.Shelf
set_option linter.unusedVariables false
set_option linter.unusedSimpArgs false
attribute [local go_sem] Oper.semAt_some

theorem Disk.sec64 {w:World} {F:Nat→Prop} {gd:Nat} {s:Dk} (h:Disk w F gd s) {i:Int} (h0:0≤i) (h1:i<(s.many:Int)):(s.read (157+i)).length=64:=by
 obtain ⟨gn,gl,A,cw,K,ck,hd,_⟩:=h
 unfold Dk.read
 rw [if_pos (by omega)]
 have hl:(157+i).toNat<s.now.length:=by unfold Dk.many at h1;omega
 have e:s.now.getD (157+i).toNat []=s.now[(157+i).toNat]:=by simp [List.getD,hl]
 rw [e]
 exact hd.hn.len (List.getElem?_eq_getElem hl)
section
variable {w:World} {F:Nat→Prop} {gf gd:Nat} {s:Dk} {ns:List Nd}
/-- The data of a file's node. -/
theorem Fsy.data (h:Fsy w F gf gd s ns) {x:Nat} (hx:x<40) :
  Calls Tryz.prog 54 #[.pointer (some ⟨gf,0,none⟩),.agg (ncell (ns.getD x default)).toArray] w fun e w'=>∃ A c,e = .returned (.slice A (dataN s (ns.getD x default)).length c)∧Rd .u8 w' w'.heap.size A c (dataN s (ns.getD x default))∧Below w.heap.size w w'∧∀ g,blockOf A=some g→w.heap.size≤g:=by
 have hov:=h.mt.nvOk
 have hm:ns.getD x default∈ns:=by
  have:ns.getD x default=ns[x]'(by rw [h.fs.n40];exact hx):=by simp [List.getD,h.fs.n40,hx]
  rw [this]
  exact List.getElem_mem _
 have hz:0≤(ns.getD x default).size∧(ns.getD x default).size≤64*((ns.getD x default).pl.length:Int)∧(ns.getD x default).pl.length≤10∧∀ p∈(ns.getD x default).pl,0≤p∧p<(s.many:Int):=by
  cases hu:usedV (nvOf ns x) with
  | true =>
   have hn:=hov.node x hx hu
   have hr:=hov.rng x hx hu
   have hlen:((ns.getD x default).pl.length:Int)=needI (ns.getD x default).size:=hn.len
   have hz0:0≤(ns.getD x default).size:=hn.z0
   have hz6:(ns.getD x default).size≤600:=hn.z600
   have hr':∀ p∈(ns.getD x default).pl,40≤p∧p<(s.many:Int):=hr
   exact ⟨hz0,by rw [hlen];unfold needI;split <;> omega,by have:=needI_le hz6;omega,fun p hp=>⟨by have:=(hr' p hp).1;omega,(hr' p hp).2⟩⟩
  | false =>
   have h0:=hov.none x hx hu
   have e1:(ns.getD x default).size=0:=congrArg (fun v:V3=>v.2.1) h0
   have e2:(ns.getD x default).pl=[]:=congrArg (fun v:V3=>v.2.2) h0
   rw [e1,e2]
   exact ⟨by omega,by simp,by simp,fun p hp=>nomatch hp⟩
 refine (data_any h.dk gf _ h.fs.hd rfl (ns.getD x default) _ rfl (h.fs.rd _ hm) hz.2.2.2 (fun p hp=>h.dk.sec64 (hz.2.2.2 p hp).1 (hz.2.2.2 p hp).2) hz.1 hz.2.1 hz.2.2.1).mono ?_
 rintro e w' ⟨A,m,c,rfl,hm2,h1,h2,h3⟩
 exact ⟨A,c,by rw [hm2],h1,h2,h3⟩
theorem Rd.turns {k:IntKind} {W W':World} {B:Nat} {A:Option Addr} {c:Nat} {l:List Nat} {row:Option Nat} (h:Rd k W B A c l) (hg:W.grownBy W' row) (hr:∀ q,row=some q→∃ o:Obj,W.heap[q]?=some o∧o.isCells=false):Rd k W' B A c l :=
 ⟨h.1,h.2.1,fun hn=>by
  obtain ⟨b,off,e,hb,hc⟩:=h.2.2 hn
  exact ⟨b,off,e,hb,fun j hj=>cell_kept (hc j hj) hg hr⟩⟩
theorem Rd.setCell {k:IntKind} {W:World} {B:Nat} {A:Option Addr} {c:Nat} {l:List Nat} (h:Rd k W B A c l) (p:Addr) (v:Value) (hne:∀ g,blockOf A=some g→g≠p.block):Rd k (W.setCell p v) B A c l :=
 ⟨h.1,h.2.1,fun hn=>by
  obtain ⟨b,off,e,hb,hc⟩:=h.2.2 hn
  exact ⟨b,off,e,hb,fun j hj=>(cell_same (Below.heap_setCell _ p _ b (hne b (by rw [e];rfl))) _).trans (hc j hj)⟩⟩
/-- What Get answers. -/
def GetP (w:World) (x:Option (List Nat)) (e:Ending) (w':World):Prop :=
 Below w.heap.size w w'∧match x with
 | some l=>∃ A c,e = .returned (.tuple #[.slice A l.length c,.bool true])∧Rd .u8 w' w'.heap.size A c l∧∀ g,blockOf A=some g→w.heap.size≤g
 | none=>e = .returned (.tuple #[.slice none 0 0,.bool false])
def OutG (w:World) (s:Dk) (ns:List Nd) (t:ByteArray) (g1 g2:Nat) (c:Code) (pre:List (Fin 40)) (W:World):Prop :=
 c = .ret∧Below w.heap.size w W∧∃ pre' x A k,pre=pre' ++ [x]∧nmS ns x.val=t∧Rd .u8 W W.heap.size A k (dataN s (ns.getD x.val default))∧(∀ g,blockOf A=some g→w.heap.size≤g)∧W.cell? ⟨g1,0,none⟩=some (.slice A (dataN s (ns.getD x.val default)).length k)∧W.cell? ⟨g2,0,none⟩=some (.bool true)
end
end Go.Proofs.YtnedpkhehiijhaaGreat
namespace Go.Proofs.YtnedpkhehiijhaaGreat
open Go.RowKit Go.Shelf
set_option linter.unusedVariables false
set_option linter.unusedSimpArgs false

theorem opIn_of_op {n:Nat} {P:Program} {o:Oper} {a:Act} {w:World} {K:Act→World→Prop} {Q:Exit→Act→World→Prop} (h:Oper.wp P o a w K Q):Oper.wpIn Fence.wide n P o a w K Q:=by
 refine ⟨fun f _=>trivial,?_⟩
 unfold Oper.wp at h
 show o.uponIn Fence.wide n P a K Q ((execOp a.eval o).run P w)
 generalize (execOp a.eval o).run P w=r at *
 cases r with
 | ok x w' =>
  cases x with
  | value v=>exact h
  | skip=>exact h
  | defer d=>exact h
  | enter f args=>exact ⟨fun e=>(nomatch e),callsIn_wide.2 h⟩
  | row row args=>exact ⟨fun e=>(nomatch e),fun c cs _=>let ⟨v,w'',r,st⟩:=h c cs;⟨v,w'',r,stepsIn_wide.2 st⟩⟩
  | _=>exact False.elim h
 | halt x w' =>
  cases x with
  | panic v=>exact h
  | _=>exact False.elim h
theorem anyIn_of_any {n:Nat} {P:Program} {md:Region.Mode} {ops:Array Oper} {Q:Exit→Act→World→Prop} (hq:¬ LetsOut Q):∀ (fuel:Nat) (listed:Array Bool) (a:Act) (w:World),wpAny P md ops Q fuel listed a w→wpAnyIn Fence.wide n P md ops Q fuel listed a w
 | 0,_,_,_,h=>h
 | fuel+1,listed,a,w,h=>⟨h.1,fun i hi=>by
  have h2:=h.2 i hi
  unfold wpOp at h2
  unfold wpOpIn
  cases ho:ops[i]? with
  | none=>rw [ho] at h2;exact anyIn_of_any hq fuel _ _ _ h2
  | some o =>
   rw [ho] at h2
   dsimp only at h2 ⊢
   split
   ·rename_i hw
    rw [if_pos hw] at h2
    exact Oper.wpIn_mono (fun a w h=>anyIn_of_any hq fuel _ a w h) (opIn_of_op (h2.resolve_right fun h3=>hq h3.2))
   ·rename_i hw
    rw [if_neg hw] at h2
    exact ⟨fun f _=>trivial,anyIn_of_any hq fuel _ _ _ h2⟩⟩
def OnlyN (Q:Exit→Act→World→Prop):Exit→Act→World→Prop
 | .normal,a,w=>Q .normal a w
 | _,_,_=>False
theorem OnlyN.normal {Q:Exit→Act→World→Prop} {a:Act} {w:World} (h:Q .normal a w):OnlyN Q .normal a w:=h
/-- A region that draws its order, in a round, walked as outside. -/
theorem wpIn_region_heldR {l n:Nat} {P:Program} {id:Nat} {ops:Array Oper} {Q:Exit→Act→World→Prop} (S:World→Prop) {a:Act} {w:World} (hm:P.follows .mixedOrders=true) (hd:noDefer ops=true) (hS:S w.drew)
  (h:S w.drew→wpAnyH P .any ops (OnlyN Q) S ops.size (Array.replicate ops.size false) a w.drew):(Code.region id ops true).wpIn (Fence.wide.inRound l) n P Q a w :=
 wpIn_mono (wpIn_region_any hm (anyIn_round hd _ _ _ _ (anyIn_of_any (fun ⟨_,_,h⟩=>h) _ _ _ _ (wpAny_of_held _ _ _ _ (h hS))))) fun e a w h=>by
  cases e with
  | normal=>exact h
  | _=>exact False.elim h
/-- A file in memory: its name, where its data lies. -/
structure Fi where
 name:ByteArray
 da:Option Addr
 dc:Nat
 d:List Nat
instance:Inhabited Fi:=⟨⟨⟨#[]⟩,none,0,[]⟩⟩
def fiCells (f:Fi):List Value:=[.string f.name,.slice f.da f.d.length f.dc]
def Fi.v (f:Fi):ByteArray×List Nat:=(f.name,f.d)
theorem info_file:(Tryz.prog.info? 56).map (fun i=>(i.zero,i.size,i.bytes))=some (some (.agg #[.string ByteArray.empty,.slice none 0 0]),2,40):=by kernel_rfl
/-- The slice '.slice A L.length c' reads as these files. -/
def RdFi (w:World) (B:Nat) (A:Option Addr) (c:Nat) (L:List Fi):Prop :=
 L.length≤c∧c≤9223372036854775807∧(∀ f∈L,Rd .u8 w B f.da f.dc f.d) ∧
  (0<L.length→∃ b off,A=some ⟨b,off,none⟩∧b<B∧∀ j (hj:j<L.length),w.cell? ⟨b,off+j*2,none⟩=some (.string L[j].name)∧w.cell? ⟨b,off+j*2+1,none⟩=some (.slice L[j].da L[j].d.length L[j].dc))
theorem RdFi.of_own {w:World} {A:Option Addr} {c:Nat} {L:List Fi} (h:OwnV 56 2 w A c L.length (L.flatMap fiCells)) (hr:∀ f∈L,Rd .u8 w w.heap.size f.da f.dc f.d):RdFi w w.heap.size A c L:=by
 refine ⟨h.le.1,h.le.2,hr,fun hn=>?_⟩
 have at2:∀ j (hj:j<L.length),∀ t,t<2→∀ v,(fiCells L[j])[t]?=some v→∃ g,A=some ⟨g,0,none⟩∧g<w.heap.size∧w.cell? ⟨g,2*j+t,none⟩=some v:=fun j hj t ht v hv=>by
  have f:=flat_at (f:=fiCells) (m:=2) (L:=L) (fun _ _=>rfl) (List.getElem?_eq_getElem hj) (j:=t) ht
  obtain ⟨g,hA,hlt,hc,_⟩:=h.at_ (j:=2*j+t) (v:=v) (by rw [f];exact hv)
  exact ⟨g,hA,hlt,hc⟩
 obtain ⟨g,rfl,hlt,_⟩:=at2 0 hn 0 (by omega) _ rfl
 refine ⟨g,0,rfl,hlt,fun j hj=>?_⟩
 have k:∀ t,t<2→∀ v,(fiCells L[j])[t]?=some v→w.cell? ⟨g,2*j+t,none⟩=some v:=fun t ht v hv=>by
  obtain ⟨g',e,_,hc⟩:=at2 j hj t ht v hv
  injection e with e
  injection e with e
  subst e
  exact hc
 have k0:=k 0 (by omega) _ rfl
 have k1:=k 1 (by omega) _ rfl
 rw [show 0+j*2=2*j+0 by omega]
 exact ⟨k0,k1⟩
theorem RdFi.under {w w':World} {B:Nat} {A:Option Addr} {c:Nat} {L:List Fi} (h:RdFi w B A c L) (hb:Below B w w'):RdFi w' B A c L :=
 ⟨h.1,h.2.1,fun f hf=>(h.2.2.1 f hf).under hb,fun hn=>by
  obtain ⟨b,off,e,hlt,hc⟩:=h.2.2.2 hn
  exact ⟨b,off,e,hlt,fun j hj=>⟨(hb.cell (p:=⟨b,off+j*2,none⟩) hlt).trans (hc j hj).1,(hb.cell (p:=⟨b,off+j*2+1,none⟩) hlt).trans (hc j hj).2⟩⟩⟩
theorem RdFi.more {w:World} {B B':Nat} {A:Option Addr} {c:Nat} {L:List Fi} (h:RdFi w B A c L) (hB:B≤B'):RdFi w B' A c L :=
 ⟨h.1,h.2.1,fun f hf=>(h.2.2.1 f hf).more hB,fun hn=>by
  obtain ⟨b,off,e,hlt,hc⟩:=h.2.2.2 hn
  exact ⟨b,off,e,by omega,hc⟩⟩
theorem OwnV.cells {e:TypeId} {sz:Nat} {w:World} {A:Option Addr} {c n:Nat} {vs:List Value} (h:OwnV e sz w A c n vs) {g:Nat} (hg:blockOf A=some g):∃ cs fr,w.heap[g]?=some (.cells cs e fr):=by
 rcases h.2 with ⟨hv,_⟩ | ⟨g',cap,cur,hv,_,hc,_⟩
 ·injection hv with hA
  rw [hA] at hg
  cases hg
 ·injection hv with hA
  rw [hA] at hg
  injection hg with hg
  subst hg
  exact ⟨_,_,hc⟩
theorem OwnV.stay {e:TypeId} {sz:Nat} {W W':World} {A:Option Addr} {c n:Nat} {vs:List Value} {row:Option Nat} (h:OwnV e sz W A c n vs) (hg:W.grownBy W' row) (hr:∀ q,row=some q→∃ o:Obj,W.heap[q]?=some o∧o.isCells=false):OwnV e sz W' A c n vs :=
 h.keep fun g hgA _=>by
  obtain ⟨cs,fr,hc⟩:=h.cells hgA
  exact cells_stay hg hr hc rfl
end Go.Proofs.YtnedpkhehiijhaaGreat
namespace Go.Proofs.YtnedpkhehiijhaaGreat
open Go.RowKit Go.Shelf
set_option linter.unusedVariables false
set_option linter.unusedSimpArgs false
attribute [local go_sem] Oper.semAt_some

/-- The row of files, as the rounds leave it. -/
structure LiSt (B gl:Nat) (s:Dk) (ns:List Nd) (pre:List (Fin 40)) (A:Option Addr) (c:Nat) (L:List Fi) (W:World):Prop where
 box:Holds W gl 48 #[.slice A pre.length c]
 len:L.length=pre.length
 own:OwnV 56 2 W A c pre.length (L.flatMap fiCells)
 new:∀ g,blockOf A=some g→B≤g
 val:L.map Fi.v=pre.map fun x=>(nmS ns x.val,dataN s (ns.getD x.val default))
 rd:∀ f∈L,Rd .u8 W W.heap.size f.da f.dc f.d∧(0<f.d.length→∀ g,blockOf f.da=some g→B≤g∧blockOf A≠some g)
theorem Rd.onB {k:IntKind} {w w':World} {B:Nat} {A:Option Addr} {c:Nat} {l:List Nat} (h:Rd k w B A c l) (hk:0<l.length→∀ g,blockOf A=some g→g<B→w'.heap[g]?=w.heap[g]?):Rd k w' B A c l :=
 ⟨h.1,h.2.1,fun hn=>by
  obtain ⟨b,off,e,hb,hc⟩:=h.2.2 hn
  exact ⟨b,off,e,hb,fun j hj=>(cell_same (hk hn b (by rw [e];rfl) hb) _).trans (hc j hj)⟩⟩
theorem Rd.block_lt {k:IntKind} {w:World} {B:Nat} {A:Option Addr} {c:Nat} {l:List Nat} (h:Rd k w B A c l) (hn:0<l.length) {g:Nat} (hg:blockOf A=some g):g<B:=by
 obtain ⟨b,off,e,hb,_⟩:=h.2.2 hn
 rw [e] at hg
 injection hg with hg
 have hg:b=g:=hg
 omega
def InvL (w:World) (gf gl B:Nat) (s:Dk) (ns:List Nd) (pre:List (Fin 40)) (W:World):Prop :=
 Below w.heap.size w W∧B≤W.heap.size∧Holds W w.heap.size 27 #[.pointer (some ⟨gf,0,none⟩)]∧∃ A c L,LiSt B gl s ns pre A c L W
theorem LiSt.stay {B gl:Nat} {s:Dk} {ns:List Nd} {pre:List (Fin 40)} {A:Option Addr} {c:Nat} {L:List Fi} {W W':World} {row:Option Nat} (h:LiSt B gl s ns pre A c L W) (hg:W.grownBy W' row) (hr:∀ q,row=some q→∃ o:Obj,W.heap[q]?=some o∧o.isCells=false):LiSt B gl s ns pre A c L W' :=
 ⟨h.box.stay hg hr,h.len,h.own.stay hg hr,h.new,h.val,fun f hf=>⟨((h.rd f hf).1.turns hg hr).more hg.size,(h.rd f hf).2⟩⟩
theorem invL_own {w:World} {gf gl B B':Nat} {s:Dk} {ns:List Nd} (hB:w.heap.size≤B'):OwnFrom B' (InvL w gf gl B s ns):=fun pre W W' row h hg hr=>by
 obtain ⟨h1,h0,h2,A,c,L,h3⟩:=h
 have hr':∀ q,row=some q→∃ o:Obj,W.heap[q]?=some o∧o.isCells=false:=fun q hq=>(hr q hq).2
 exact ⟨h1.grown hg h1.size fun k e=>Nat.le_trans hB (hr k e).1,Nat.le_trans h0 hg.size,h2.stay hg hr',A,c,L,h3.stay hg hr'⟩
theorem noOut_own {B:Nat} (c:Code):OwnFrom B (fun (_:List (Fin 40)) (_:World)=>False):=fun _ _ _ _ h _ _=>h
/-- All of it lies in new memory. -/
def NewFi (B:Nat) (A:Option Addr) (L:List Fi):Prop:=(∀ g,blockOf A=some g→B≤g)∧∀ f∈L,0<f.d.length→∀ g,blockOf f.da=some g→B≤g
/-- What List answers. -/
def ListP (w:World) (s:Dk) (ns:List Nd) (e:Ending) (w':World):Prop :=
 Below w.heap.size w w'∧∃ ys A c L,Slots ns ys∧e = .returned (.slice A ys.length c)∧L.length=ys.length∧L.map Fi.v=ys.map (fun x=>(nmS ns x.val,dataN s (ns.getD x.val default)))∧RdFi w' w'.heap.size A c L∧NewFi w.heap.size A L
section
variable {w:World} {F:Nat→Prop} {gf gd:Nat} {s:Dk} {ns:List Nd}
set_option maxRecDepth 100000 in
set_option maxHeartbeats 8000000 in
theorem list_fs (h:Fsy w F gf gd s ns):Calls Tryz.prog 22 #[.pointer (some ⟨gf,0,none⟩)] w (ListP w s ns):=by
 obtain ⟨V,hV⟩:∃ V,V=(w.alloc (.cells #[.pointer (some ⟨gf,0,none⟩)] 27)).alloc (.cells #[.slice none 0 0] 48):=⟨_,rfl⟩
 have hbV:Below w.heap.size w V:=by rw [hV];exact ((Below.refl _ _).alloc (Nat.le_refl _) _).alloc (by simp) _
 have hzV:V.heap.size=w.heap.size+2:=by rw [hV];simp
 have hh0:Holds V w.heap.size 27 #[.pointer (some ⟨gf,0,none⟩)]:=by rw [hV];exact (Holds.fresh w _ _).alloc _
 have hh1:Holds V (w.heap.size+1) 48 #[.slice none 0 0]:=by
  have:=Holds.fresh (w.alloc (.cells #[.pointer (some ⟨gf,0,none⟩)] 27)) 48 #[.slice none 0 0]
  rw [show (w.alloc (.cells #[.pointer (some ⟨gf,0,none⟩)] 27)).heap.size=w.heap.size+1 by simp] at this
  rw [hV];exact this
 obtain ⟨V2,hV2⟩:∃ V2,V2=V.alloc (.cells #[.pointer (some ⟨gf,0,none⟩)] 27):=⟨_,rfl⟩
 have hb2:Below V.heap.size V V2:=by rw [hV2];exact (Below.refl _ _).alloc (Nat.le_refl _) _
 have hz2:V2.heap.size=w.heap.size+3:=by rw [hV2];simp;omega
 have hbx:Holds V2 V.heap.size 27 #[.pointer (some ⟨gf,0,none⟩)]:=by rw [hV2];exact Holds.fresh _ _ _
 have hbw2:Below w.heap.size w V2:=hbV.trans (hb2.mono hbV.size)
 have hfs2:Fsy V2 F gf gd s ns:=h.under hbw2
 have hgf:gf<w.heap.size:=h.fs.hd.lt
 rw [hzV] at hbx
 have HST:=Lib.hid (files_stops hfs2.fs (w.heap.size+2) hbx)
 have HFI:=Lib.hid (fsfiles_any V gf)
 have HV:=Lib.hid hV
 have HV2:=Lib.hid hV2
 have HB2:=Lib.hid hbw2
 have HFS:=Lib.hid h
 have z0:=hh0.cell 0
 have z1:=hh1.cell 0
 have hi0:InvL w gf (w.heap.size+1) (w.heap.size+3) s ns [] V2:=⟨hbw2,by omega,hh0.under hb2 hh0.lt,none,0,[],hh1.under hb2 hh1.lt,rfl,OwnV.nil _ _ _,(fun g e=>nomatch e),rfl,fun f hf=>nomatch hf⟩
 clear h hV hV2 hh0 hh1 hb2 hbx hfs2 hbV
 refine (callsIn_wide (n:=3)).1 ?_
 refine callsIn_of_wp_marks Tryz.func22 rfl trivial ?_ rfl
 simp only [Tryz.ntmps22,List.size_toArray,List.length_cons,List.length_nil,Nat.reduceAdd,Nat.reduceSub,Array.replicate_succ,Array.replicate_zero,List.push_toArray,List.append_toArray,List.nil_append,List.cons_append]
 refine wpIn_wide.2 ?_
 go_wp2_with (first | (rw [←HV.out]) | (refine HFI.out.mono ?_;rintro e w3 ⟨rfl,rfl⟩;rw [←HV2.out]) | fail)
 refine (wpIn_wide (n:=3)).1 ?_
 refine wpIn_rangeFunc_ownH rfl (by omega) (gf:=99) (lb:=#[.pointer (some ⟨w.heap.size+2,0,none⟩)]) rfl trivial (enters_of Tryz.func99 (by kernel_rfl) rfl) HST.out
  (fun h k=>KpF.trans h k) (fun W l o o' hl ho hc _=>KpF.putObj (n:=V2.heap.size) o' (by omega) (by omega) hl ho hc) (Below.refl _ _) (fun _=>rfl)
  (InvL w gf (w.heap.size+1) (w.heap.size+3) s ns) (fun _ _ _=>False) (invL_own (by omega)) noOut_own hi0
  (AxS (fun x g=>#[.pointer (some ⟨gf,0,none⟩),.pointer (some ⟨w.heap.size,0,none⟩),.slice none 0 0,.pointer (some ⟨w.heap.size+1,0,none⟩),undef,.pointer (some ⟨g,0,none⟩),.pointer (some ⟨gf,0,none⟩),.func (.func 99) #[] #[.pointer (some ⟨w.heap.size+2,0,none⟩)],.int .i64 ((x.val:Nat):Int),.agg (ncell (ns.getD x.val default)).toArray,undef,undef,undef,undef,undef,undef,undef,undef,undef,undef]) ns) (fun x a'=>axS_own x a') ?assign ?body ?done ?stop
 case assign =>
  rintro l pre ⟨xv,hxv⟩ W K ⟨hI1,hI0,hI2,A,c,L,hI3⟩ hK
  have HK:=Lib.hid hK
  have HI1:=Lib.hid hI1
  have HI2:=Lib.hid hI2
  have HI3:=Lib.hid hI3
  clear hK hI1 hI2 hI3
  unfold AxS at HK
  simp only [fsv,ncell] at HK ⊢
  generalize ns.getD xv default=d at HK ⊢
  obtain ⟨nm,z,pa,pc,pl⟩:=d
  obtain ⟨pn,hpn⟩:∃ n,pl.length=n:=⟨_,rfl⟩
  dsimp only at HK ⊢
  rw [hpn] at HK ⊢
  simp
  gi_wp2
  have hba:Below W.heap.size W (W.alloc (.cells #[.string nm,.int .i64 z,.slice pa pn pc] 70)):=(Below.refl _ _).alloc (Nat.le_refl _) _
  have hgb:=World.grownBy_alloc W (.cells #[.string nm,.int .i64 z,.slice pa pn pc] 70) none
  have hlw:=HI2.out.lt
  have hl1:=HI3.out.box.lt
  refine HK.out _ _ (below_keepsFrom hba) (KpF.below (by omega) (by omega) hba) ⟨HI1.out.trans (hba.mono HI1.out.size),by simp;omega,HI2.out.alloc _,A,c,L,HI3.out.stay hgb (fun q e=>nomatch e)⟩ ⟨_,rfl,Holds.fresh W 70 #[.string nm,.int .i64 z,.slice pa pn pc]⟩
 case body =>
  rintro l pre ⟨xv,hxv⟩ a' W hl hr ⟨hI1,hI0,hI2,A,c,L,hI3⟩ ⟨g,rfl,hc⟩ hlt
  have HND:Hid (Holds W g 70 (ncell (ns.getD xv default)).toArray):=Lib.hid hc
  obtain ⟨dl,hdl⟩:∃ dl,dl=dataN s (ns.getD xv default):=⟨_,rfl⟩
  have HDT:Hid (∀ W',Below w.heap.size w W'→Calls Tryz.prog 54 #[.pointer (some ⟨gf,0,none⟩),.agg (ncell (ns.getD xv default)).toArray] W' fun e w'=>∃ A c,e = .returned (.slice A dl.length c)∧Rd .u8 w' w'.heap.size A c dl∧Below W'.heap.size W' w'∧∀ g,blockOf A=some g→W'.heap.size≤g):=Lib.hid fun W' hW'=>by rw [hdl];exact (HFS.out.under hW').data hxv
  have HDL:=Lib.hid hdl
  have HNM:Hid (nmS ns xv=(ns.getD xv default).name):=Lib.hid rfl
  have HI1:=Lib.hid hI1
  have HI2:=Lib.hid hI2
  have HI3:=Lib.hid hI3
  obtain ⟨m,hm⟩:∃ m,m=pre.length:=⟨_,rfl⟩
  have HM:=Lib.hid hm
  have HBX:Hid (Holds W (w.heap.size+1) 48 #[.slice A m c]):=Lib.hid (by rw [hm];exact hI3.box)
  have HOW:Hid (OwnV 56 2 W A c m (L.flatMap fiCells)):=Lib.hid (by rw [hm];exact hI3.own)
  have HNW:=Lib.hid hI3.new
  have hm40:m<40:=by omega
  clear hdl hI1 hI2 hc hI3 hm hr hlt
  simp only [ncell] at HDT HND ⊢
  generalize hdd:ns.getD xv default=d at HNM HDT HND ⊢
  clear hdd
  obtain ⟨nm,z,pa,pc,pl⟩:=d
  obtain ⟨pn,hpn⟩:∃ n,pl.length=n:=⟨_,rfl⟩
  dsimp only at HND HNM HDT ⊢
  rw [hpn] at HND HDT ⊢
  clear hpn
  have HBF:Hid (Holds W w.heap.size 27 #[.pointer (some ⟨gf,0,none⟩)]):=HI2
  have HAB:Hid (∀ k,blockOf A=some k→∃ cs fr,W.heap[k]?=some (.cells cs 56 fr)):=Lib.hid fun k hk=>HOW.out.cells hk
  have HOF:Hid (∀ k T cs,Holds W k T cs→T≠56→T≠48→¬ (blockOf A=some k∨k=w.heap.size+1)):=Lib.hid fun k T cs hk h1 h2 e=>by
   rcases e with e | e
   ·obtain ⟨cs2,fr,h3⟩:=HAB.out k e
    rw [show W.heap[k]?=_ from hk] at h3
    injection h3 with h3
    injection h3 with _ h3
    exact h1 h3
   ·subst e
    have h3:some (Obj.cells cs T (0,0))=some (Obj.cells #[.slice A m c] 48 (0,0)):=(show W.heap[w.heap.size+1]?=_ from hk).symm.trans HBX.out
    injection h3 with h3
    injection h3 with _ h3
    exact h2 h3
  have HNA:Hid (blockOf A≠some (w.heap.size+1)):=Lib.hid fun e=>by have:=HNW.out _ e;omega
  have HSN:Hid (∀ W',Only (fun k=>blockOf A=some k∨k=w.heap.size+1) W W'→W'.cell? ⟨g,0,none⟩=some (.string nm)∧W'.cell? ⟨g,1,none⟩=some (.int .i64 z)∧W'.cell? ⟨g,2,none⟩=some (.slice pa pn pc)∧W'.cell? ⟨w.heap.size,0,none⟩=some (.pointer (some ⟨gf,0,none⟩))∧Below w.heap.size w W'):=Lib.hid fun W' hW=>by
   have a:Holds W' g 70 #[.string nm,.int .i64 z,.slice pa pn pc]:=(hW.block g HND.out.lt (HOF.out g _ _ HND.out (by decide) (by decide))).trans HND.out
   have b:Holds W' w.heap.size 27 #[.pointer (some ⟨gf,0,none⟩)]:=(hW.block _ HBF.out.lt (HOF.out _ _ _ HBF.out (by decide) (by decide))).trans HBF.out
   refine ⟨a.cell 0,a.cell 1,a.cell 2,b.cell 0,HI1.out.trans ⟨hW.os,hW.tape,hW.output,hW.size,fun k hk=>hW.block k (by omega) fun e=>?_⟩⟩
   rcases e with e | e
   ·have:=HNW.out _ e;omega
   ·omega
  gi_wp2
  refine wpIn_region_heldR (fun W'=>Only (fun k=>blockOf A=some k∨k=w.heap.size+1) W W') (by kernel_rfl) (by kernel_rfl) (Only.refl _ W).drew (fun hHeld=>?_)
  refine wpAnyH_take (i:=1) (oi:={ dst:=some 11,op:=Op.fieldAddr 70 (Operand.tmp 5) 0,type:=0,pos:=_,after:=_,guard:=none }) (v:=?_) rfl (by kernel_rfl) (by kernel_rfl) (by kernel_rfl) (fun _ _ _ h=>h) (Or.inl ⟨by rfl,?_⟩) hHeld ?_
  rotate_left 1
  ·(intro W hW;(try dsimp only at hW);go_simp;try with_reducible rfl)
  try simp only [Act.put,List.setIfInBounds_toArray,List.set_cons_zero,List.set_cons_succ]
  refine wpAnyH_take (i:=2) (oi:={ dst:=some 12,op:=Op.load 9 (Operand.tmp 11),type:=9,pos:=_,after:=_,guard:=none }) (v:=?_) rfl (by kernel_rfl) (by kernel_rfl) (by kernel_rfl) (fun _ _ _ h=>h) (Or.inl ⟨by rfl,?_⟩) hHeld ?_
  rotate_left 1
  ·(intro W hW;have k0:=(HSN.out _ hW).1;(try dsimp only at hW);go_simp;try with_reducible rfl)
  try simp only [Act.put,List.setIfInBounds_toArray,List.set_cons_zero,List.set_cons_succ]
  refine wpAnyH_take (i:=3) (oi:={ dst:=some 13,op:=Op.load 27 (Operand.tmp 1),type:=27,pos:=_,after:=_,guard:=none }) (v:=?_) rfl (by kernel_rfl) (by kernel_rfl) (by kernel_rfl) (fun _ _ _ h=>h) (Or.inl ⟨by rfl,?_⟩) hHeld ?_
  rotate_left 1
  ·(intro W hW;have k0:=(HSN.out _ hW).2.2.2.1;(try dsimp only at hW);go_simp;try with_reducible rfl)
  try simp only [Act.put,List.setIfInBounds_toArray,List.set_cons_zero,List.set_cons_succ]
  refine wpAnyH_take (i:=4) (oi:={ dst:=some 14,op:=Op.load 70 (Operand.tmp 5),type:=70,pos:=_,after:=_,guard:=none }) (v:=?_) rfl (by kernel_rfl) (by kernel_rfl) (by kernel_rfl) (fun _ _ _ h=>h) (Or.inl ⟨by rfl,?_⟩) hHeld ?_
  rotate_left 1
  ·(intro W hW;have k0:=(HSN.out _ hW).1;have k1:=(HSN.out _ hW).2.1;have k2:=(HSN.out _ hW).2.2.1;(try dsimp only at hW);go_simp;try with_reducible rfl)
  try simp only [Act.put,List.setIfInBounds_toArray,List.set_cons_zero,List.set_cons_succ]
  refine wpAnyH_ready (rs:=[0,5]) (by kernel_rfl) (by simp) ?_
  refine AllReadyH.cons (o:={ dst:=some 10,op:=Op.load 48 (Operand.tmp 3),type:=48,pos:=_,after:=_,guard:=none }) rfl (fun K hK=>?_) ?_
  have kl:W.drew.cell? ⟨w.heap.size+1,0,none⟩=some (.slice A m c):=(HBX.out:Holds W.drew _ _ _).cell 0
  go_simp
  clear kl
  refine hK.out _ _ (hHeld) (fun hHeld=>?_)
  clear hK K
  try simp only [Act.put,List.setIfInBounds_toArray,List.set_cons_zero,List.set_cons_succ]
  refine wpAnyH_ready (rs:=[5]) (by kernel_rfl) (by simp) ?_
  refine AllReadyH.cons (o:={ dst:=some 15,op:=Op.call { callee:=Callee.value (Operand.func 54),args:=#[Operand.tmp 13,Operand.tmp 14],argTypes:=#[27,70] },type:=44,pos:=_,after:=_,guard:=none }) rfl (fun K hK=>?_) AllReadyH.nil
  go_simp
  refine (HDT.out W.drew (HSN.out _ hHeld).2.2.2.2).mono ?_
  rintro e W5 ⟨A5,c5,rfl,hr5,hb5,hf5⟩
  have HB5:Hid (Below W.heap.size W W5):=Lib.hid ⟨hb5.os,hb5.tape,hb5.output,hb5.size,hb5.block⟩
  have HR5:=Lib.hid hr5
  have HF5:Hid (∀ g,blockOf A5=some g→W.heap.size≤g):=Lib.hid hf5
  have HBX5:Hid (Holds W5 (w.heap.size+1) 48 #[.slice A m c]):=Lib.hid (HBX.out.under HB5.out HBX.out.lt)
  have HO5:Hid (OwnV 56 2 W5 A c m (L.flatMap fiCells)):=Lib.hid (HOW.out.keep fun g _ hg=>HB5.out.block g hg)
  clear hb5 hr5 hf5
  go_simp
  refine hK.out _ _ (Only.of_below HB5.out) (fun hHeld=>?_)
  clear hK K
  try simp only [Act.put,List.setIfInBounds_toArray,List.set_cons_zero,List.set_cons_succ]
  refine wpAnyH_take (i:=6) (oi:={ dst:=some 16,op:=Op.build 56 #[(0,Operand.tmp 12),(1,Operand.tmp 15)],type:=56,pos:=_,after:=_,guard:=none }) (v:=?_) rfl (by kernel_rfl) (by kernel_rfl) (by kernel_rfl) (fun _ _ _ h=>h) (Or.inl ⟨by rfl,?_⟩) hHeld ?_
  rotate_left 1
  ·(intro W hW;(try dsimp only at hW);go_simp;try with_reducible rfl)
  try simp only [Act.put,List.setIfInBounds_toArray,List.set_cons_zero,List.set_cons_succ]
  refine wpAnyH_ready (rs:=[7]) (by kernel_rfl) (by simp) ?_
  refine AllReadyH.cons (o:={ dst:=some 17,op:=Op.buildSlice 48 1 #[(0,Operand.tmp 16)],type:=48,pos:=_,after:=_,guard:=none }) rfl (fun K hK=>?_) AllReadyH.nil
  go_simp
  obtain ⟨W7,hW7⟩:∃ W7,W7=W5.alloc (.cells #[.string nm,.slice A5 dl.length c5] 56):=⟨_,rfl⟩
  rw [←hW7]
  have HB7:Hid (Below W5.heap.size W5 W7):=Lib.hid (by rw [hW7];exact (Below.refl _ _).alloc (Nat.le_refl _) _)
  have HFX:Hid (Holds W7 W5.heap.size 56 (fiCells ⟨nm,A5,c5,dl⟩).toArray):=Lib.hid (by rw [hW7];exact Holds.fresh _ _ _)
  have HZ7:Hid (W7.heap.size=W5.heap.size+1):=Lib.hid (by rw [hW7];simp)
  have HBX7:Hid (Holds W7 (w.heap.size+1) 48 #[.slice A m c]):=Lib.hid (HBX5.out.under HB7.out HBX5.out.lt)
  have HO7:Hid (OwnV 56 2 W7 A c m (L.flatMap fiCells)):=Lib.hid (HO5.out.keep fun g _ hg=>HB7.out.block g hg)
  have HR7:=Lib.hid ((HR5.out.under HB7.out).more HB7.out.size)
  clear hW7
  refine hK.out _ _ ((Only.of_below (HB5.out.trans (HB7.out.mono HB5.out.size)))) (fun hHeld=>?_)
  clear hK K
  try simp only [Act.put,List.setIfInBounds_toArray,List.set_cons_zero,List.set_cons_succ]
  refine wpAnyH_ready (rs:=[8]) (by kernel_rfl) (by simp) ?_
  refine AllReadyH.cons (o:={ dst:=some 18,op:=Op.call { callee:=Callee.builtin Builtin.append,args:=#[Operand.tmp 10,Operand.tmp 17],argTypes:=#[48,48] },type:=48,pos:=_,after:=_,guard:=none }) rfl (fun K hK=>?_) AllReadyH.nil
  refine step_pushV _ rfl (.tmp 10) (.tmp 17) 48 rfl 56 (.agg #[.string ByteArray.empty,.slice none 0 0]) 2 40 Tryz.underlying48 info_file rfl (by omega) (by omega) rfl HO7.out (cs:=fiCells ⟨nm,A5,c5,dl⟩) rfl rfl (by intro u hu;simp [fiCells] at hu;rcases hu with rfl | rfl <;> rfl) HFX.out (by omega) ?_
  intro g8 c8 W8 ho8 hg8 hat8 hlt8
  have HO8:=Lib.hid ho8
  have HG8:=Lib.hid hg8
  have HAT:Hid (blockOf A=some g8∨W7.heap.size≤g8):=Lib.hid (hat8.imp id fun e=>by omega)
  have HBX8:Hid (Holds W8 (w.heap.size+1) 48 #[.slice A m c]):=Lib.hid (HBX7.out.grown hg8 (Ne.symm HNA.out))
  have kl:W8.cell? ⟨w.heap.size+1,0,none⟩=some (.slice A m c):=HBX8.out.cell 0
  have kf:W8.frozen? ⟨w.heap.size+1,0,none⟩=false:=HBX8.out.open_ _
  have HB57:=Lib.hid (HB5.out.trans (HB7.out.mono HB5.out.size))
  have HS8:Hid (Only (fun k=>blockOf A=some k∨k=w.heap.size+1) W W8):=Lib.hid ⟨hg8.os.trans HB57.out.os,hg8.tape.trans HB57.out.tape,hg8.output.trans HB57.out.output,Nat.le_trans HB57.out.size hg8.size,fun k hk hF=>(hg8.block k (Nat.lt_of_lt_of_le hk HB57.out.size) (fun e=>hF (.inl e.symm))).trans (HB57.out.block k hk)⟩
  clear ho8 hg8 hat8 hlt8
  refine hK.out _ _ (HS8.out) (fun hHeld=>?_)
  clear hK K
  try simp only [Act.put,List.setIfInBounds_toArray,List.set_cons_zero,List.set_cons_succ]
  refine wpAnyH_ready (rs:=[9]) (by kernel_rfl) (by simp) ?_
  refine AllReadyH.cons (o:={ dst:=none,op:=Op.store 48 (Operand.tmp 3) (Operand.tmp 18),type:=0,pos:=_,after:=_,guard:=none }) rfl (fun K hK=>?_) AllReadyH.nil
  go_simp
  refine hK.out _ _ (HS8.out.setCell (.inl (.inr rfl)) _) (fun hHeld=>?_)
  clear hK K
  try simp only [Act.put,List.setIfInBounds_toArray,List.set_cons_zero,List.set_cons_succ]
  refine wpAnyH_done (by kernel_rfl) ?_ _
  refine OnlyN.normal ?_
  gi_wp2
  obtain ⟨W9,hW9⟩:∃ W9,W9=W8.setCell ⟨w.heap.size+1,0,none⟩ (.slice (some ⟨g8,0,none⟩) (m+1) c8):=⟨_,rfl⟩
  rw [←hW9]
  have hs9:Only (fun k=>blockOf A=some k∨k=w.heap.size+1) W W9:=by rw [hW9];exact HS8.out.setCell (.inl (.inr rfl)) _
  have h98:∀ k,k≠w.heap.size+1→W9.heap[k]?=W8.heap[k]?:=fun k hk=>by rw [hW9];exact Below.heap_setCell _ ⟨w.heap.size+1,0,none⟩ _ k hk
  have hz9:W9.heap.size=W8.heap.size:=by rw [hW9];simp
  have hA5:0<dl.length→∀ g,blockOf A5=some g→W.heap.size≤g∧g<W5.heap.size:=fun hn g hg=>⟨HF5.out g hg,HR5.out.block_lt hn hg⟩
  have hAl:∀ g,blockOf A=some g→g<W.heap.size:=fun g hg=>HOW.out.lt hg
  have h87:∀ k,k<W7.heap.size→blockOf A≠some k→W8.heap[k]?=W7.heap[k]?:=fun k hk hn=>HG8.out.block k hk (Ne.symm hn)
  have hz5:=HB5.out.size
  have hz7:=HZ7.out
  have hz8:=HG8.out.size
  have hml:(pre ++ [(⟨xv,hxv⟩:Fin 40)]).length=m+1:=by rw [List.length_append,HM.out];rfl
  refine ⟨⟨hs9.size,fun k o _ hk ho=>(hs9.block k (Array.getElem?_eq_some_iff.1 hk).1 fun e=>?_).trans hk⟩,⟨hs9.size,fun k _ ⟨cs,hcs⟩=>hs9.block k (Holds.lt hcs) (HOF.out k _ _ hcs (by decide) (by decide)),hs9.block gf (by omega) fun e=>?_,hs9.block _ (by omega) fun e=>?_⟩,(HSN.out _ hs9).2.2.2.2,by omega,(hs9.block _ HBF.out.lt (HOF.out _ _ _ HBF.out (by decide) (by decide))).trans HBF.out,some ⟨g8,0,none⟩,c8,L ++ [⟨nm,A5,c5,dl⟩],?_,?_,?_,?_,?_,?_⟩
  ·rcases e with e | e
   ·obtain ⟨cs,fr,h3⟩:=HAB.out k e
    rw [hk] at h3
    injection h3 with h3
    rw [h3] at ho
    cases ho
   ·subst e
    have h3:some o=some (Obj.cells #[.slice A m c] 48 (0,0)):=hk.symm.trans HBX.out
    injection h3 with h3
    rw [h3] at ho
    cases ho
  ·rcases e with e | e
   ·have:=HNW.out _ e;omega
   ·omega
  ·rcases e with e | e
   ·have:=HNW.out _ e;omega
   ·omega
  ·rw [hml]
   have h9:=HBX8.out.stored 0 (.slice (some ⟨g8,0,none⟩) (m+1) c8)
   rw [←hW9] at h9
   exact h9
  ·rw [hml,List.length_append,HI3.out.len,HM.out];rfl
  ·rw [hml,List.flatMap_append]
   refine (HO8.out.keep fun g hg _=>h98 g ?_)
   obtain rfl:g8=g:=by simpa [blockOf] using hg
   rcases HAT.out with e | e
   ·have:=HNW.out _ e;omega
   ·omega
  ·intro g hg
   obtain rfl:g8=g:=by simpa [blockOf] using hg
   rcases HAT.out with e | e
   ·exact HNW.out _ e
   ·omega
  ·rw [List.map_append,List.map_append,HI3.out.val]
   show _ ++ [(nm,dl)]=_ ++ [(nmS ns xv,dataN s (ns.getD xv default))]
   rw [HNM.out,←HDL.out]
  ·intro f hf
   rcases List.mem_append.1 hf with hf | hf
   ·obtain ⟨h1,h2⟩:=HI3.out.rd f hf
    refine ⟨(h1.onB fun hn g hg hlt=>hs9.block g hlt fun e=>?_).more (by omega),fun hn g hg=>⟨(h2 hn g hg).1,fun e=>?_⟩⟩
    ·rcases e with e | e
     ·exact (h2 hn g hg).2 e
     ·have:=(h2 hn g hg).1;omega
    ·obtain rfl:g8=g:=by simpa [blockOf] using e
     rcases HAT.out with e2 | e2
     ·exact (h2 hn _ hg).2 e2
     ·have:=h1.block_lt hn hg;omega
   ·rw [List.mem_singleton.1 hf]
    refine ⟨(HR7.out.onB fun hn g hg hlt=>?_).more (by omega),fun hn g hg=>⟨?_,fun e=>?_⟩⟩
    ·have h3:=hA5 hn g hg
     exact (h98 g (by omega)).trans (h87 g (by omega) fun e=>by have:=hAl g e;omega)
    ·have h3:=hA5 hn g hg
     omega
    ·obtain rfl:g8=g:=by simpa [blockOf] using e
     have h3:=hA5 hn _ hg
     rcases HAT.out with e2 | e2
     ·have:=hAl _ e2;omega
     ·omega
  refine AllReadyH.cons (o:={ dst:=some 15,op:=Op.call { callee:=Callee.value (Operand.func 54),args:=#[Operand.tmp 13,Operand.tmp 14],argTypes:=#[27,70] },type:=44,pos:=_,after:=_,guard:=none }) rfl (fun K hK=>?_) AllReadyH.nil
  go_simp
  refine (HDT.out W.drew (HSN.out _ hHeld).2.2.2.2).mono ?_
  rintro e W5 ⟨A5,c5,rfl,hr5,hb5,hf5⟩
  have HB5:Hid (Below W.heap.size W W5):=Lib.hid ⟨hb5.os,hb5.tape,hb5.output,hb5.size,hb5.block⟩
  have HR5:=Lib.hid hr5
  have HF5:Hid (∀ g,blockOf A5=some g→W.heap.size≤g):=Lib.hid hf5
  have HBX5:Hid (Holds W5 (w.heap.size+1) 48 #[.slice A m c]):=Lib.hid (HBX.out.under HB5.out HBX.out.lt)
  have HO5:Hid (OwnV 56 2 W5 A c m (L.flatMap fiCells)):=Lib.hid (HOW.out.keep fun g _ hg=>HB5.out.block g hg)
  clear hb5 hr5 hf5
  go_simp
  refine hK.out _ _ (Only.of_below HB5.out) (fun hHeld=>?_)
  clear hK K
  try simp only [Act.put,List.setIfInBounds_toArray,List.set_cons_zero,List.set_cons_succ]
  refine wpAnyH_take (i:=6) (oi:={ dst:=some 16,op:=Op.build 56 #[(0,Operand.tmp 12),(1,Operand.tmp 15)],type:=56,pos:=_,after:=_,guard:=none }) (v:=?_) rfl (by kernel_rfl) (by kernel_rfl) (by kernel_rfl) (fun _ _ _ h=>h) (Or.inl ⟨by rfl,?_⟩) hHeld ?_
  rotate_left 1
  ·(intro W hW;(try dsimp only at hW);go_simp;try with_reducible rfl)
  try simp only [Act.put,List.setIfInBounds_toArray,List.set_cons_zero,List.set_cons_succ]
  refine wpAnyH_ready (rs:=[0,7]) (by kernel_rfl) (by simp) ?_
  refine AllReadyH.cons (o:={ dst:=some 10,op:=Op.load 48 (Operand.tmp 3),type:=48,pos:=_,after:=_,guard:=none }) rfl (fun K hK=>?_) ?_
  have kl:W5.cell? ⟨w.heap.size+1,0,none⟩=some (.slice A m c):=(HBX5.out:Holds W5 _ _ _).cell 0
  go_simp
  clear kl
  refine hK.out _ _ (hHeld) (fun hHeld=>?_)
  clear hK K
  try simp only [Act.put,List.setIfInBounds_toArray,List.set_cons_zero,List.set_cons_succ]
  refine wpAnyH_ready (rs:=[7]) (by kernel_rfl) (by simp) ?_
  refine AllReadyH.cons (o:={ dst:=some 17,op:=Op.buildSlice 48 1 #[(0,Operand.tmp 16)],type:=48,pos:=_,after:=_,guard:=none }) rfl (fun K hK=>?_) AllReadyH.nil
  go_simp
  obtain ⟨W7,hW7⟩:∃ W7,W7=W5.alloc (.cells #[.string nm,.slice A5 dl.length c5] 56):=⟨_,rfl⟩
  rw [←hW7]
  have HB7:Hid (Below W5.heap.size W5 W7):=Lib.hid (by rw [hW7];exact (Below.refl _ _).alloc (Nat.le_refl _) _)
  have HFX:Hid (Holds W7 W5.heap.size 56 (fiCells ⟨nm,A5,c5,dl⟩).toArray):=Lib.hid (by rw [hW7];exact Holds.fresh _ _ _)
  have HZ7:Hid (W7.heap.size=W5.heap.size+1):=Lib.hid (by rw [hW7];simp)
  have HBX7:Hid (Holds W7 (w.heap.size+1) 48 #[.slice A m c]):=Lib.hid (HBX5.out.under HB7.out HBX5.out.lt)
  have HO7:Hid (OwnV 56 2 W7 A c m (L.flatMap fiCells)):=Lib.hid (HO5.out.keep fun g _ hg=>HB7.out.block g hg)
  have HR7:=Lib.hid ((HR5.out.under HB7.out).more HB7.out.size)
  clear hW7
  refine hK.out _ _ ((Only.of_below (HB5.out.trans (HB7.out.mono HB5.out.size)))) (fun hHeld=>?_)
  clear hK K
  try simp only [Act.put,List.setIfInBounds_toArray,List.set_cons_zero,List.set_cons_succ]
  refine wpAnyH_ready (rs:=[8]) (by kernel_rfl) (by simp) ?_
  refine AllReadyH.cons (o:={ dst:=some 18,op:=Op.call { callee:=Callee.builtin Builtin.append,args:=#[Operand.tmp 10,Operand.tmp 17],argTypes:=#[48,48] },type:=48,pos:=_,after:=_,guard:=none }) rfl (fun K hK=>?_) AllReadyH.nil
  refine step_pushV _ rfl (.tmp 10) (.tmp 17) 48 rfl 56 (.agg #[.string ByteArray.empty,.slice none 0 0]) 2 40 Tryz.underlying48 info_file rfl (by omega) (by omega) rfl HO7.out (cs:=fiCells ⟨nm,A5,c5,dl⟩) rfl rfl (by intro u hu;simp [fiCells] at hu;rcases hu with rfl | rfl <;> rfl) HFX.out (by omega) ?_
  intro g8 c8 W8 ho8 hg8 hat8 hlt8
  have HO8:=Lib.hid ho8
  have HG8:=Lib.hid hg8
  have HAT:Hid (blockOf A=some g8∨W7.heap.size≤g8):=Lib.hid (hat8.imp id fun e=>by omega)
  have HBX8:Hid (Holds W8 (w.heap.size+1) 48 #[.slice A m c]):=Lib.hid (HBX7.out.grown hg8 (Ne.symm HNA.out))
  have kl:W8.cell? ⟨w.heap.size+1,0,none⟩=some (.slice A m c):=HBX8.out.cell 0
  have kf:W8.frozen? ⟨w.heap.size+1,0,none⟩=false:=HBX8.out.open_ _
  have HB57:=Lib.hid (HB5.out.trans (HB7.out.mono HB5.out.size))
  have HS8:Hid (Only (fun k=>blockOf A=some k∨k=w.heap.size+1) W W8):=Lib.hid ⟨hg8.os.trans HB57.out.os,hg8.tape.trans HB57.out.tape,hg8.output.trans HB57.out.output,Nat.le_trans HB57.out.size hg8.size,fun k hk hF=>(hg8.block k (Nat.lt_of_lt_of_le hk HB57.out.size) (fun e=>hF (.inl e.symm))).trans (HB57.out.block k hk)⟩
  clear ho8 hg8 hat8 hlt8
  refine hK.out _ _ (HS8.out) (fun hHeld=>?_)
  clear hK K
  try simp only [Act.put,List.setIfInBounds_toArray,List.set_cons_zero,List.set_cons_succ]
  refine wpAnyH_ready (rs:=[9]) (by kernel_rfl) (by simp) ?_
  refine AllReadyH.cons (o:={ dst:=none,op:=Op.store 48 (Operand.tmp 3) (Operand.tmp 18),type:=0,pos:=_,after:=_,guard:=none }) rfl (fun K hK=>?_) AllReadyH.nil
  go_simp
  refine hK.out _ _ (HS8.out.setCell (.inl (.inr rfl)) _) (fun hHeld=>?_)
  clear hK K
  try simp only [Act.put,List.setIfInBounds_toArray,List.set_cons_zero,List.set_cons_succ]
  refine wpAnyH_done (by kernel_rfl) ?_ _
  refine OnlyN.normal ?_
  gi_wp2
  obtain ⟨W9,hW9⟩:∃ W9,W9=W8.setCell ⟨w.heap.size+1,0,none⟩ (.slice (some ⟨g8,0,none⟩) (m+1) c8):=⟨_,rfl⟩
  rw [←hW9]
  have hs9:Only (fun k=>blockOf A=some k∨k=w.heap.size+1) W W9:=by rw [hW9];exact HS8.out.setCell (.inl (.inr rfl)) _
  have h98:∀ k,k≠w.heap.size+1→W9.heap[k]?=W8.heap[k]?:=fun k hk=>by rw [hW9];exact Below.heap_setCell _ ⟨w.heap.size+1,0,none⟩ _ k hk
  have hz9:W9.heap.size=W8.heap.size:=by rw [hW9];simp
  have hA5:0<dl.length→∀ g,blockOf A5=some g→W.heap.size≤g∧g<W5.heap.size:=fun hn g hg=>⟨HF5.out g hg,HR5.out.block_lt hn hg⟩
  have hAl:∀ g,blockOf A=some g→g<W.heap.size:=fun g hg=>HOW.out.lt hg
  have h87:∀ k,k<W7.heap.size→blockOf A≠some k→W8.heap[k]?=W7.heap[k]?:=fun k hk hn=>HG8.out.block k hk (Ne.symm hn)
  have hz5:=HB5.out.size
  have hz7:=HZ7.out
  have hz8:=HG8.out.size
  have hml:(pre ++ [(⟨xv,hxv⟩:Fin 40)]).length=m+1:=by rw [List.length_append,HM.out];rfl
  refine ⟨⟨hs9.size,fun k o _ hk ho=>(hs9.block k (Array.getElem?_eq_some_iff.1 hk).1 fun e=>?_).trans hk⟩,⟨hs9.size,fun k _ ⟨cs,hcs⟩=>hs9.block k (Holds.lt hcs) (HOF.out k _ _ hcs (by decide) (by decide)),hs9.block gf (by omega) fun e=>?_,hs9.block _ (by omega) fun e=>?_⟩,(HSN.out _ hs9).2.2.2.2,by omega,(hs9.block _ HBF.out.lt (HOF.out _ _ _ HBF.out (by decide) (by decide))).trans HBF.out,some ⟨g8,0,none⟩,c8,L ++ [⟨nm,A5,c5,dl⟩],?_,?_,?_,?_,?_,?_⟩
  ·rcases e with e | e
   ·obtain ⟨cs,fr,h3⟩:=HAB.out k e
    rw [hk] at h3
    injection h3 with h3
    rw [h3] at ho
    cases ho
   ·subst e
    have h3:some o=some (Obj.cells #[.slice A m c] 48 (0,0)):=hk.symm.trans HBX.out
    injection h3 with h3
    rw [h3] at ho
    cases ho
  ·rcases e with e | e
   ·have:=HNW.out _ e;omega
   ·omega
  ·rcases e with e | e
   ·have:=HNW.out _ e;omega
   ·omega
  ·rw [hml]
   have h9:=HBX8.out.stored 0 (.slice (some ⟨g8,0,none⟩) (m+1) c8)
   rw [←hW9] at h9
   exact h9
  ·rw [hml,List.length_append,HI3.out.len,HM.out];rfl
  ·rw [hml,List.flatMap_append]
   refine (HO8.out.keep fun g hg _=>h98 g ?_)
   obtain rfl:g8=g:=by simpa [blockOf] using hg
   rcases HAT.out with e | e
   ·have:=HNW.out _ e;omega
   ·omega
  ·intro g hg
   obtain rfl:g8=g:=by simpa [blockOf] using hg
   rcases HAT.out with e | e
   ·exact HNW.out _ e
   ·omega
  ·rw [List.map_append,List.map_append,HI3.out.val]
   show _ ++ [(nm,dl)]=_ ++ [(nmS ns xv,dataN s (ns.getD xv default))]
   rw [HNM.out,←HDL.out]
  ·intro f hf
   rcases List.mem_append.1 hf with hf | hf
   ·obtain ⟨h1,h2⟩:=HI3.out.rd f hf
    refine ⟨(h1.onB fun hn g hg hlt=>hs9.block g hlt fun e=>?_).more (by omega),fun hn g hg=>⟨(h2 hn g hg).1,fun e=>?_⟩⟩
    ·rcases e with e | e
     ·exact (h2 hn g hg).2 e
     ·have:=(h2 hn g hg).1;omega
    ·obtain rfl:g8=g:=by simpa [blockOf] using e
     rcases HAT.out with e2 | e2
     ·exact (h2 hn _ hg).2 e2
     ·have:=h1.block_lt hn hg;omega
   ·rw [List.mem_singleton.1 hf]
    refine ⟨(HR7.out.onB fun hn g hg hlt=>?_).more (by omega),fun hn g hg=>⟨?_,fun e=>?_⟩⟩
    ·have h3:=hA5 hn g hg
     exact (h98 g (by omega)).trans (h87 g (by omega) fun e=>by have:=hAl g e;omega)
    ·have h3:=hA5 hn g hg
     omega
    ·obtain rfl:g8=g:=by simpa [blockOf] using e
     have h3:=hA5 hn _ hg
     rcases HAT.out with e2 | e2
     ·have:=hAl _ e2;omega
     ·omega
  refine AllReadyH.cons (o:={ dst:=some 17,op:=Op.buildSlice 48 1 #[(0,Operand.tmp 16)],type:=48,pos:=_,after:=_,guard:=none }) rfl (fun K hK=>?_) AllReadyH.nil
  go_simp
  obtain ⟨W7,hW7⟩:∃ W7,W7=W5.alloc (.cells #[.string nm,.slice A5 dl.length c5] 56):=⟨_,rfl⟩
  rw [←hW7]
  have HB7:Hid (Below W5.heap.size W5 W7):=Lib.hid (by rw [hW7];exact (Below.refl _ _).alloc (Nat.le_refl _) _)
  have HFX:Hid (Holds W7 W5.heap.size 56 (fiCells ⟨nm,A5,c5,dl⟩).toArray):=Lib.hid (by rw [hW7];exact Holds.fresh _ _ _)
  have HZ7:Hid (W7.heap.size=W5.heap.size+1):=Lib.hid (by rw [hW7];simp)
  have HBX7:Hid (Holds W7 (w.heap.size+1) 48 #[.slice A m c]):=Lib.hid (HBX5.out.under HB7.out HBX5.out.lt)
  have HO7:Hid (OwnV 56 2 W7 A c m (L.flatMap fiCells)):=Lib.hid (HO5.out.keep fun g _ hg=>HB7.out.block g hg)
  have HR7:=Lib.hid ((HR5.out.under HB7.out).more HB7.out.size)
  clear hW7
  refine hK.out _ _ ((Only.of_below (HB5.out.trans (HB7.out.mono HB5.out.size)))) (fun hHeld=>?_)
  clear hK K
  try simp only [Act.put,List.setIfInBounds_toArray,List.set_cons_zero,List.set_cons_succ]
  refine wpAnyH_ready (rs:=[0]) (by kernel_rfl) (by simp) ?_
  refine AllReadyH.cons (o:={ dst:=some 10,op:=Op.load 48 (Operand.tmp 3),type:=48,pos:=_,after:=_,guard:=none }) rfl (fun K hK=>?_) AllReadyH.nil
  have kl:W7.cell? ⟨w.heap.size+1,0,none⟩=some (.slice A m c):=(HBX7.out:Holds W7 _ _ _).cell 0
  go_simp
  clear kl
  refine hK.out _ _ (hHeld) (fun hHeld=>?_)
  clear hK K
  try simp only [Act.put,List.setIfInBounds_toArray,List.set_cons_zero,List.set_cons_succ]
  refine wpAnyH_ready (rs:=[8]) (by kernel_rfl) (by simp) ?_
  refine AllReadyH.cons (o:={ dst:=some 18,op:=Op.call { callee:=Callee.builtin Builtin.append,args:=#[Operand.tmp 10,Operand.tmp 17],argTypes:=#[48,48] },type:=48,pos:=_,after:=_,guard:=none }) rfl (fun K hK=>?_) AllReadyH.nil
  refine step_pushV _ rfl (.tmp 10) (.tmp 17) 48 rfl 56 (.agg #[.string ByteArray.empty,.slice none 0 0]) 2 40 Tryz.underlying48 info_file rfl (by omega) (by omega) rfl HO7.out (cs:=fiCells ⟨nm,A5,c5,dl⟩) rfl rfl (by intro u hu;simp [fiCells] at hu;rcases hu with rfl | rfl <;> rfl) HFX.out (by omega) ?_
  intro g8 c8 W8 ho8 hg8 hat8 hlt8
  have HO8:=Lib.hid ho8
  have HG8:=Lib.hid hg8
  have HAT:Hid (blockOf A=some g8∨W7.heap.size≤g8):=Lib.hid (hat8.imp id fun e=>by omega)
  have HBX8:Hid (Holds W8 (w.heap.size+1) 48 #[.slice A m c]):=Lib.hid (HBX7.out.grown hg8 (Ne.symm HNA.out))
  have kl:W8.cell? ⟨w.heap.size+1,0,none⟩=some (.slice A m c):=HBX8.out.cell 0
  have kf:W8.frozen? ⟨w.heap.size+1,0,none⟩=false:=HBX8.out.open_ _
  have HB57:=Lib.hid (HB5.out.trans (HB7.out.mono HB5.out.size))
  have HS8:Hid (Only (fun k=>blockOf A=some k∨k=w.heap.size+1) W W8):=Lib.hid ⟨hg8.os.trans HB57.out.os,hg8.tape.trans HB57.out.tape,hg8.output.trans HB57.out.output,Nat.le_trans HB57.out.size hg8.size,fun k hk hF=>(hg8.block k (Nat.lt_of_lt_of_le hk HB57.out.size) (fun e=>hF (.inl e.symm))).trans (HB57.out.block k hk)⟩
  clear ho8 hg8 hat8 hlt8
  refine hK.out _ _ (HS8.out) (fun hHeld=>?_)
  clear hK K
  try simp only [Act.put,List.setIfInBounds_toArray,List.set_cons_zero,List.set_cons_succ]
  refine wpAnyH_ready (rs:=[9]) (by kernel_rfl) (by simp) ?_
  refine AllReadyH.cons (o:={ dst:=none,op:=Op.store 48 (Operand.tmp 3) (Operand.tmp 18),type:=0,pos:=_,after:=_,guard:=none }) rfl (fun K hK=>?_) AllReadyH.nil
  go_simp
  refine hK.out _ _ (HS8.out.setCell (.inl (.inr rfl)) _) (fun hHeld=>?_)
  clear hK K
  try simp only [Act.put,List.setIfInBounds_toArray,List.set_cons_zero,List.set_cons_succ]
  refine wpAnyH_done (by kernel_rfl) ?_ _
  refine OnlyN.normal ?_
  gi_wp2
  obtain ⟨W9,hW9⟩:∃ W9,W9=W8.setCell ⟨w.heap.size+1,0,none⟩ (.slice (some ⟨g8,0,none⟩) (m+1) c8):=⟨_,rfl⟩
  rw [←hW9]
  have hs9:Only (fun k=>blockOf A=some k∨k=w.heap.size+1) W W9:=by rw [hW9];exact HS8.out.setCell (.inl (.inr rfl)) _
  have h98:∀ k,k≠w.heap.size+1→W9.heap[k]?=W8.heap[k]?:=fun k hk=>by rw [hW9];exact Below.heap_setCell _ ⟨w.heap.size+1,0,none⟩ _ k hk
  have hz9:W9.heap.size=W8.heap.size:=by rw [hW9];simp
  have hA5:0<dl.length→∀ g,blockOf A5=some g→W.heap.size≤g∧g<W5.heap.size:=fun hn g hg=>⟨HF5.out g hg,HR5.out.block_lt hn hg⟩
  have hAl:∀ g,blockOf A=some g→g<W.heap.size:=fun g hg=>HOW.out.lt hg
  have h87:∀ k,k<W7.heap.size→blockOf A≠some k→W8.heap[k]?=W7.heap[k]?:=fun k hk hn=>HG8.out.block k hk (Ne.symm hn)
  have hz5:=HB5.out.size
  have hz7:=HZ7.out
  have hz8:=HG8.out.size
  have hml:(pre ++ [(⟨xv,hxv⟩:Fin 40)]).length=m+1:=by rw [List.length_append,HM.out];rfl
  refine ⟨⟨hs9.size,fun k o _ hk ho=>(hs9.block k (Array.getElem?_eq_some_iff.1 hk).1 fun e=>?_).trans hk⟩,⟨hs9.size,fun k _ ⟨cs,hcs⟩=>hs9.block k (Holds.lt hcs) (HOF.out k _ _ hcs (by decide) (by decide)),hs9.block gf (by omega) fun e=>?_,hs9.block _ (by omega) fun e=>?_⟩,(HSN.out _ hs9).2.2.2.2,by omega,(hs9.block _ HBF.out.lt (HOF.out _ _ _ HBF.out (by decide) (by decide))).trans HBF.out,some ⟨g8,0,none⟩,c8,L ++ [⟨nm,A5,c5,dl⟩],?_,?_,?_,?_,?_,?_⟩
  ·rcases e with e | e
   ·obtain ⟨cs,fr,h3⟩:=HAB.out k e
    rw [hk] at h3
    injection h3 with h3
    rw [h3] at ho
    cases ho
   ·subst e
    have h3:some o=some (Obj.cells #[.slice A m c] 48 (0,0)):=hk.symm.trans HBX.out
    injection h3 with h3
    rw [h3] at ho
    cases ho
  ·rcases e with e | e
   ·have:=HNW.out _ e;omega
   ·omega
  ·rcases e with e | e
   ·have:=HNW.out _ e;omega
   ·omega
  ·rw [hml]
   have h9:=HBX8.out.stored 0 (.slice (some ⟨g8,0,none⟩) (m+1) c8)
   rw [←hW9] at h9
   exact h9
  ·rw [hml,List.length_append,HI3.out.len,HM.out];rfl
  ·rw [hml,List.flatMap_append]
   refine (HO8.out.keep fun g hg _=>h98 g ?_)
   obtain rfl:g8=g:=by simpa [blockOf] using hg
   rcases HAT.out with e | e
   ·have:=HNW.out _ e;omega
   ·omega
  ·intro g hg
   obtain rfl:g8=g:=by simpa [blockOf] using hg
   rcases HAT.out with e | e
   ·exact HNW.out _ e
   ·omega
  ·rw [List.map_append,List.map_append,HI3.out.val]
   show _ ++ [(nm,dl)]=_ ++ [(nmS ns xv,dataN s (ns.getD xv default))]
   rw [HNM.out,←HDL.out]
  ·intro f hf
   rcases List.mem_append.1 hf with hf | hf
   ·obtain ⟨h1,h2⟩:=HI3.out.rd f hf
    refine ⟨(h1.onB fun hn g hg hlt=>hs9.block g hlt fun e=>?_).more (by omega),fun hn g hg=>⟨(h2 hn g hg).1,fun e=>?_⟩⟩
    ·rcases e with e | e
     ·exact (h2 hn g hg).2 e
     ·have:=(h2 hn g hg).1;omega
    ·obtain rfl:g8=g:=by simpa [blockOf] using e
     rcases HAT.out with e2 | e2
     ·exact (h2 hn _ hg).2 e2
     ·have:=h1.block_lt hn hg;omega
   ·rw [List.mem_singleton.1 hf]
    refine ⟨(HR7.out.onB fun hn g hg hlt=>?_).more (by omega),fun hn g hg=>⟨?_,fun e=>?_⟩⟩
    ·have h3:=hA5 hn g hg
     exact (h98 g (by omega)).trans (h87 g (by omega) fun e=>by have:=hAl g e;omega)
    ·have h3:=hA5 hn g hg
     omega
    ·obtain rfl:g8=g:=by simpa [blockOf] using e
     have h3:=hA5 hn _ hg
     rcases HAT.out with e2 | e2
     ·have:=hAl _ e2;omega
     ·omega
 case done =>
  rintro D xs W hD hS ⟨hI1,hI0,hI2,A,c,L,hI3⟩ hK
  have HK:=Lib.hid hK
  have HI1:=Lib.hid hI1
  have HI3:=Lib.hid hI3
  have q0:=hI3.box.cell 0
  obtain ⟨n,hn⟩:∃ n,n=xs.length:=⟨_,rfl⟩
  rw [←hn] at q0
  have HN:=Lib.hid hn
  clear hI1 hI2 hI3 hn
  go_wp2_with fail
  refine ⟨by simp,.inl ⟨_,_,rfl,run_takeDeferred HK.out,?_⟩⟩
  have hr:∀ q,some D=some q→∃ o:Obj,W.heap[q]?=some o∧o.isCells=false:=fun r e=>by cases e;exact ⟨_,HK.out,rfl⟩
  have h3:=HI3.out.stay (grownBy_putObj' _ D (.deferred none)) hr
  refine ⟨.slice A n c,by simp [results,Tryz.results22,go_sem],HI1.out.trans (belowK_b (w:=V2) (by omega) _ D _ _ hD HK.out rfl rfl),xs,A,c,L,hS,by rw [HN.out],h3.len,h3.val,?_,fun g hg=>Nat.le_trans (by omega) (h3.new g hg),fun f hf h0 g hg=>Nat.le_trans (by omega) ((h3.rd f hf).2 h0 g hg).1⟩
  have h4:=h3.own
  rw [←h3.len] at h4
  exact RdFi.of_own h4 fun f hf=>(h3.rd f hf).1
 case stop =>
  rintro D c pre W hD _ h hK
  exact h.elim
end
end Go.Proofs.YtnedpkhehiijhaaGreat
namespace Go.Proofs.YtnedpkhehiijhaaGreat
open Go.RowKit Go.WideMaps Go.Maps
set_option linter.unusedVariables false
set_option linter.unusedSimpArgs false

/-- A fate's cells. -/
structure FV where
 there:Bool
 da:Option Addr
 dn:Nat
 dc:Nat
def FV.val (x:FV):Value:=.agg #[.bool x.there,.slice x.da x.dn x.dc]
def zFV:FV:=⟨false,none,0,0⟩
open Classical in
noncomputable def heldV (v:Value):Option (DataW Value×List MemPlace):=if ∃ x:FV,v=x.val then some (.held v,[]) else none
theorem heldV_val (x:FV):heldV x.val=some (.held x.val,[]):=if_pos ⟨x,rfl⟩
theorem heldV_inv {v:Value} {y:DataW Value×List MemPlace} (h:heldV v=some y):∃ x:FV,v=x.val∧y=(.held x.val,[]):=by
 unfold heldV at h
 split at h
 ·rename_i hx
  obtain ⟨x,rfl⟩:=hx
  injection h with h
  exact ⟨x,rfl,h.symm⟩
 ·cases h
/-- Block b is a map of these. -/
def MapF (W:World) (b n:Nat) (D:DataW Value) (vf:ByteArray→Option FV):Prop :=
 W.ownsMap Tryz.prog 9 heldV b n D∧∀ s:ByteArray,has D (.string s.data.toList)=(vf s).isSome∧∀ x,vf s=some x→∀ z,D.atKey (.string s.data.toList) z = .held x.val
theorem MapF.made (w:World):MapF (w.alloc (.map #[] 0)) w.heap.size 0 (.map []) (fun _=>none):=⟨World.ownsMap_made _ _ _ _,fun s=>⟨rfl,fun x e=>nomatch e⟩⟩
theorem MapF.lt {W:World} {b n:Nat} {D:DataW Value} {vf:ByteArray→Option FV} (h:MapF W b n D vf):b<W.heap.size:=h.1.lt
theorem MapF.keep {W W':World} {b n:Nat} {D:DataW Value} {vf:ByteArray→Option FV} (h:MapF W b n D vf) (hb:W'.heap[b]?=W.heap[b]?):MapF W' b n D vf:=by
 obtain ⟨⟨es,clock,hw,r⟩,hat⟩:=h
 exact ⟨⟨es,clock,hb.trans hw,r⟩,hat⟩
theorem MapF.under {W W':World} {b n B:Nat} {D:DataW Value} {vf:ByteArray→Option FV} (h:MapF W b n D vf) (hb:Below B W W') (hlt:b<B):MapF W' b n D vf:=h.keep (hb.block b hlt)
theorem zeroFate (w:World):(zeroValue 144).run Tryz.prog w = .ok zFV.val w:=by kernel_rfl
theorem MapF.valAt {W:World} {b n:Nat} {D:DataW Value} {vf:ByteArray→Option FV} (h:MapF W b n D vf) (s:ByteArray):D.atKey (.string s.data.toList) (.held zFV.val) = .held ((vf s).getD zFV).val:=by
 cases hv:vf s with
 | some x=>exact (h.2 s).2 x hv _
 | none=>exact atKey_of_not_has (by rw [(h.2 s).1,hv];rfl) _
set_option maxRecDepth 100000 in
theorem MapF.look_ok {W:World} {b n:Nat} {D:DataW Value} {vf:ByteArray→Option FV} (h:MapF W b n D vf) (s:ByteArray) (hs:s.size≤9223372036854775807) :
  (Instr.lookup 93 (.map (some b)) (.string s) true).run Tryz.prog W = .ok (.tuple #[((vf s).getD zFV).val,.bool (vf s).isSome]) W:=by
 obtain ⟨v,ps,hrun,hv⟩:=h.1.look_ok law Tryz.underlying93 (zeroFate W) (zd:=.held zFV.val) (zp:=[]) (heldV_val zFV) (keyOf_string_mk Tryz.underlying9 (s:=s) (by unfold maxLen;omega))
 rw [h.valAt s] at hv
 obtain ⟨x,rfl,hx⟩:=heldV_inv hv
 injection hx with hx _
 injection hx with hx
 rw [←hx] at hrun
 rw [hrun,(h.2 s).1]
set_option maxRecDepth 100000 in
theorem MapF.look {W:World} {b n:Nat} {D:DataW Value} {vf:ByteArray→Option FV} (h:MapF W b n D vf) (s:ByteArray) (hs:s.size≤9223372036854775807) :
  (Instr.lookup 93 (.map (some b)) (.string s) false).run Tryz.prog W = .ok ((vf s).getD zFV).val W:=by
 obtain ⟨v,ps,hrun,hv⟩:=h.1.lookup law Tryz.underlying93 (zeroFate W) (zd:=.held zFV.val) (zp:=[]) (heldV_val zFV) (keyOf_string_mk Tryz.underlying9 (s:=s) (by unfold maxLen;omega))
 rw [h.valAt s] at hv
 obtain ⟨x,rfl,hx⟩:=heldV_inv hv
 injection hx with hx _
 injection hx with hx
 rw [←hx] at hrun
 exact hrun
def setV (vf:ByteArray→Option FV) (s:ByteArray) (x:FV):ByteArray→Option FV:=fun t=>if t=s then some x else vf t
theorem lit_ne {s t:ByteArray} (h:t≠s):(Lit.string t.data.toList)≠.string s.data.toList:=fun e=>by
 injection e with e
 exact h (ByteArray.ext (Array.ext' e))
theorem MapF.put {W W':World} {b n:Nat} {D:DataW Value} {vf:ByteArray→Option FV} (h:MapF W b n D vf) (s:ByteArray) (x:FV) (ho:W'.ownsMap Tryz.prog 9 heldV b (n+1) (D.put (.string s.data.toList) (.held x.val))) :
  MapF W' b (n+1) (D.put (.string s.data.toList) (.held x.val)) (setV vf s x):=by
 refine ⟨ho,fun t=>?_⟩
 have hm:=h.1.isMap
 by_cases e:t=s
 ·subst e
  refine ⟨?_,fun y hy z=>?_⟩
  ·rw [has_put_same hm (k:=.string _) trivial]
   simp [setV]
  ·rw [atKey_put_same hm (k:=.string _) trivial]
   have:some x=some y:=by simpa [setV] using hy
   injection this with this
   rw [this]
 ·have e2:setV vf s x t=vf t:=by simp [setV,e]
  rw [e2]
  refine ⟨?_,fun y hy z=>?_⟩
  ·rw [has_put_other (lit_ne e)];exact (h.2 t).1
  ·rw [atKey_put_other (lit_ne e)];exact (h.2 t).2 y hy z
/-- The map tells these fates. -/
def FateR (W:World) (B:Nat) (fs:FateF) (vf:ByteArray→Option FV):Prop :=
 ∀ s,match fs s with
 | none=>vf s=none
 | some none=>vf s=some zFV
 | some (some d)=>∃ A c,vf s=some ⟨true,A,d.length,c⟩∧Rd .u8 W B A c d
theorem FateR.start (W:World) (B:Nat):FateR W B (fun _=>none) (fun _=>none):=fun s=>rfl
theorem FateR.under {W W':World} {B:Nat} {fs:FateF} {vf:ByteArray→Option FV} (h:FateR W B fs vf) (hb:Below B W W'):FateR W' B fs vf:=fun s=>by
 have:=h s
 revert this
 cases fs s with
 | none=>exact id
 | some x =>
  cases x with
  | none=>exact id
  | some d=>exact fun ⟨A,c,h1,h2⟩=>⟨A,c,h1,h2.under hb⟩
theorem FateR.drop {W:World} {B:Nat} {fs:FateF} {vf:ByteArray→Option FV} (h:FateR W B fs vf) (s:ByteArray):FateR W B (setF fs s none) (setV vf s zFV):=fun t=>by
 by_cases e:t=s
 ·subst e;simp [setF,setV]
 ·have h1:setF fs s none t=fs t:=by simp [setF,e]
  have h2:setV vf s zFV t=vf t:=by simp [setV,e]
  rw [h1,h2]
  exact h t
theorem FateR.put {W:World} {B:Nat} {fs:FateF} {vf:ByteArray→Option FV} (h:FateR W B fs vf) (s:ByteArray) {A:Option Addr} {c:Nat} {d:List Nat} (hr:Rd .u8 W B A c d):FateR W B (setF fs s (some d)) (setV vf s ⟨true,A,d.length,c⟩):=fun t=>by
 by_cases e:t=s
 ·subst e
  have h1:setF fs t (some d) t=some (some d):=by simp [setF]
  rw [h1]
  exact ⟨A,c,by simp [setV],hr⟩
 ·have h1:setF fs s (some d) t=fs t:=by simp [setF,e]
  have h2:setV vf s ⟨true,A,d.length,c⟩ t=vf t:=by simp [setV,e]
  rw [h1,h2]
  exact h t
/-- What is asked, in memory. -/
structure OpA where
 drop:Bool
 name:ByteArray
 da:Option Addr
 dc:Nat
 d:List Nat
instance:Inhabited OpA:=⟨⟨false,⟨#[]⟩,none,0,[]⟩⟩
def OpA.v (o:OpA):OpV:=⟨o.drop,o.name,o.d⟩
def opCells (o:OpA):List Value:=[.bool o.drop,.string o.name,.slice o.da o.d.length o.dc]
/-- The slice '.slice A L.length c' reads as these. -/
def RdOp (w:World) (B:Nat) (A:Option Addr) (c:Nat) (L:List OpA):Prop :=
 L.length≤c∧c≤9223372036854775807∧(∀ o∈L,Rd .u8 w B o.da o.dc o.d∧o.name.size≤9223372036854775807) ∧
  (0<L.length→∃ b off,A=some ⟨b,off,none⟩∧b<B∧∀ j (hj:j<L.length),w.cell? ⟨b,off+j*3,none⟩=some (.bool L[j].drop)∧w.cell? ⟨b,off+j*3+1,none⟩=some (.string L[j].name)∧w.cell? ⟨b,off+j*3+1+1,none⟩=some (.slice L[j].da L[j].d.length L[j].dc))
theorem RdOp.under {w w':World} {B:Nat} {A:Option Addr} {c:Nat} {L:List OpA} (h:RdOp w B A c L) (hb:Below B w w'):RdOp w' B A c L :=
 ⟨h.1,h.2.1,fun o ho=>⟨(h.2.2.1 o ho).1.under hb,(h.2.2.1 o ho).2⟩,fun hn=>by
  obtain ⟨b,off,e,hlt,hc⟩:=h.2.2.2 hn
  exact ⟨b,off,e,hlt,fun j hj=>⟨(hb.cell (p:=⟨b,off+j*3,none⟩) hlt).trans (hc j hj).1,(hb.cell (p:=⟨b,off+j*3+1,none⟩) hlt).trans (hc j hj).2.1,(hb.cell (p:=⟨b,off+j*3+1+1,none⟩) hlt).trans (hc j hj).2.2⟩⟩⟩
theorem RdOp.more {w:World} {B B':Nat} {A:Option Addr} {c:Nat} {L:List OpA} (h:RdOp w B A c L) (hB:B≤B'):RdOp w B' A c L :=
 ⟨h.1,h.2.1,fun o ho=>⟨(h.2.2.1 o ho).1.more hB,(h.2.2.1 o ho).2⟩,fun hn=>by
  obtain ⟨b,off,e,hlt,hc⟩:=h.2.2.2 hn
  exact ⟨b,off,e,by omega,hc⟩⟩
end Go.Proofs.YtnedpkhehiijhaaGreat
