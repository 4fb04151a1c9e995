/- Words and laws for the statement, part 17. -/
import Derived.Lib.SmallJoins
import Derived.Test.YtnedpkhehiijhaaGreatP11
import Derived.Test.YtnedpkhehiijhaaGreatP16
namespace Go.Proofs.YtnedpkhehiijhaaGreat
open Go.RowKit
set_option linter.unusedVariables false
set_option linter.unusedSimpArgs false
section
variable {w w':World} {F F':Nat→Prop} {gf gd:Nat} {s:Dk} {ns ns':List Nd} {m k:Nat}
theorem FsAt.off (h:FsAt w gf gd ns) (hs:w.heap.size≤w'.heap.size) (hk:∀ g,¬ F g→g<w.heap.size→w'.heap[g]?=w.heap[g]?) (hf:¬ F gf) (hn:∀ d∈ns,0<d.pl.length→∀ g,blockOf d.pa=some g→¬ F g):FsAt w' gf gd ns:=by
 refine ⟨h.n40,?_,fun d hd=>?_⟩
 ·exact (hk gf hf h.hd.lt).trans h.hd
 ·exact ((h.rd d hd).onB fun h0 g hg hlt=>hk g (hn d hd h0 g hg) hlt).more hs
theorem Fsy.disk (h:Fsy w F gf gd s ns) (ho:Only F w w') (hd:Disk w' F' gd s) (hF:∀ k,F' k→F k∨w.heap.size≤k):Fsy w' F' gf gd s ns:=by
 have hlt:=h.fs.hd.lt
 refine ⟨hd,h.fs.off ho.size (fun g hg hl=>ho.block g hl hg) h.nf (fun d hd h0 g hg=>(h.nd d hd h0 g hg).1),fun hh=>?_,fun d hm h0 g hg=>⟨fun hh=>?_,(h.nd d hm h0 g hg).2⟩,h.mt⟩
 ·rcases hF _ hh with e | e
  ·exact h.nf e
  ·omega
 ·rcases hF _ hh with e | e
  ·exact (h.nd d hm h0 g hg).1 e
  ·have:=(h.fs.rd d hm).block_lt h0 hg
   omega
theorem mount_law (h:Disk w F gd s) (hr:Ready s m k) (hk:k≤60) {n0:List Nd} (hm:Mounts s n0) :
  Calls Tryz.prog 10 #[.pointer (some ⟨gd,0,none⟩)] w fun e w'=>∃ gf F' ns,e = .returned (.tuple #[.pointer (some ⟨gf,0,none⟩),.int .i64 0])∧Fsy w' F' gf gd s ns∧(∀ k,F' k→F k∨w.heap.size≤k)∧w.heap.size≤gf∧Only F w w':=by
 have hw:=hr.wt
 have ho:=hr.op
 have hoc:∀ i:Int,Oct1 (s.read i):=fun i=>hr.oct.read hr.snd i
 refine (mount_any h.low (fun i=>hoc i) (by rw [hr.open_];exact hoc) (by omega) (by omega)).mono fun e w' hq=>?_
 unfold MountP at hq
 rw [hr.open_] at hq
 rcases hq with ⟨h1,_⟩ | ⟨_,B,b1,b2,b3,b4,hq⟩
 ·exact absurd rfl h1
 ·rcases hq with ⟨_,h2⟩ | ⟨gf,ns,rfl,c1,c2,c3,c4⟩
  ·exact absurd hm (h2 n0)
  ·have nF:∀ g,B≤g→g<w'.heap.size→¬ ((F g∧g<w.heap.size)∨(w.heap.size≤g∧g<B)):=fun g h1 h2 hh=>by rcases hh with hh | hh <;> omega
   refine ⟨gf,fun k=>(F k∧k<w.heap.size)∨(w.heap.size≤k∧k<B),ns,rfl,⟨?_,c1,nF gf c2 c1.hd.lt,fun d hd h0 g hg=>⟨nF g (c3 d hd g hg).1 ((c1.rd d hd).block_lt h0 hg),(c3 d hd g hg).2⟩,c4⟩,fun k hk=>by rcases hk with hk | hk;exact .inl hk.1;exact .inr hk.1,by omega,b4.more fun k _ hk=>hk.1⟩
   exact b3
end
/-! Nothing is there. -/
def nsZ:List Nd:=List.replicate 40 zNd
theorem nvZ {i:Nat} (hi:i<40):nvOf nsZ i=zV:=by
 unfold nvOf nsZ
 rw [List.getD,List.getElem?_replicate,if_pos hi]
 rfl
theorem mounts_fmt {m:Nat} (h1:41≤m) (h2:m≤700):Mounts (fmtD m) nsZ:=by
 obtain ⟨hr,h0⟩:=fmtD_facts h1 h2
 have hm:=hr.many
 refine ⟨by simp [nsZ],by omega,fun i hi=>?_,?_⟩
 ·rw [h0 i (by omega)]
  refine NdOf.free ?_
  exact nvZ hi
 ·rw [hm]
  have un:∀ i,i<40→usedV (nvOf nsZ i)=true→False:=fun i hi hu=>by rw [nvZ hi,zV_not] at hu;cases hu
  exact NvOk.roomOk ⟨fun i hi hu=>(un i hi hu).elim,fun i hi hu=>(un i hi hu).elim,fun i j hi hj hij hu=>(un i hi hu).elim,fun i j hi hj hij hu=>(un i hi hu).elim,fun i hi hu=>nvZ hi⟩ (by simp [nsZ]) (by omega)
/-- What is mounted of a disk that was just formatted: nothing. -/
theorem empty_nv {m:Nat} (h1:41≤m) (h2:m≤700) {ns:List Nd} (h:Mounts (fmtD m) ns) {i:Nat} (hi:i<40):nvOf ns i=zV:=by
 have:=(mounts_fmt h1 h2).one h.n40 h.rd
 have e:(nsZ.map Nd.v).getD i default=(ns.map Nd.v).getD i default:=by rw [this]
 rw [vd,vd] at e
 exact e.symm.trans (nvZ hi)
theorem empty_slot {nv:Nat→V3} (h:∀ i,i<40→nv i=zV) (t:ByteArray):slotO nv t=none:=by
 cases hs:slotO nv t with
 | none=>rfl
 | some i =>
  obtain ⟨a,b,c⟩:=slotO_some hs
  rw [h i a,zV_not] at b
  cases b
theorem empty_left {s:Dk} {ns:List Nd} (hm:Mounts s ns) (h:∀ i,i<40→nvOf ns i=zV):leftN s ns=s.many - 40:=by
 have:=left_len hm
 have e:(allP (nvOf ns)).length=(([]:List ByteArray).map (placeN (nvOf ns))).sum:=allP_len hm.nvOk List.nodup_nil fun t=>by rw [empty_slot h t];simp
 rw [List.map_nil,List.sum_nil] at e
 omega
theorem usL_free {s:Dk} {ns:List Nd} (hm:Mounts s ns) {K:List ByteArray} (hK:K.Nodup) (hk:∀ t,t∈K↔slotO (nvOf ns) t≠none):(usL ns).count false=40 - K.length:=by
 have h1:=usL_count ns
 have h2:=used_len hm.nvOk hK hk
 omega
theorem left_of {s:Dk} {ns:List Nd} (hm:Mounts s ns) {K:List ByteArray} (hK:K.Nodup) (hk:∀ t,t∈K↔slotO (nvOf ns) t≠none):leftN s ns=s.many - 40 - (K.map (placeN (nvOf ns))).sum:=by
 have h1:=left_len hm
 have h2:=allP_len hm.nvOk hK hk
 omega
theorem view_none {s:Dk} {ns:List Nd} {t:ByteArray}:slotO (nvOf ns) t≠none↔viewN s ns t≠none:=by
 unfold viewN
 cases slotO (nvOf ns) t <;> simp
end Go.Proofs.YtnedpkhehiijhaaGreat
namespace Go.Proofs.YtnedpkhehiijhaaGreat
open Go.RowKit
set_option linter.unusedVariables false
set_option linter.unusedSimpArgs false
attribute [local go_sem ↓] Go.wp_at_zero Go.wp_at_succ
def RelSF (w:World) (La Lb:List Fi) (n:Nat) (i:Value) (wr:World):Prop :=
 ∃ j:Nat,j≤n∧i = .int .i64 (j:Int)∧Below w.heap.size w wr∧∀ t,t<j→(La.getD t default).v=(Lb.getD t default).v
theorem strs_eq {l l':List Nat} (ho:Oct1 l) (ho':Oct1 l'):((str l).toList == (str l').toList)=decide (l=l'):=by
 by_cases h:l=l'
 ·subst h
  rw [decide_eq_true rfl]
  exact beq_self_eq_true _
 ·rw [decide_eq_false h,beq_eq_false_iff_ne]
  intro e
  exact h (str_inj ho ho' (bytes_inj e))
theorem names_eq (a b:ByteArray):(a.toList == b.toList)=decide (a=b):=by
 by_cases h:a=b
 ·subst h
  rw [decide_eq_true rfl]
  exact beq_self_eq_true _
 ·rw [decide_eq_false h,beq_eq_false_iff_ne]
  exact fun e=>h (bytes_inj e)
set_option maxRecDepth 100000 in
set_option maxHeartbeats 4000000 in
theorem sameF_any (w:World) (Aa Ab:Option Addr) (ca cb na nb:Nat) (La Lb:List Fi) (ha:RdFi w w.heap.size Aa ca La) (hb:RdFi w w.heap.size Ab cb Lb) (hla:La.length=na) (hlb:Lb.length=nb) (hoa:∀ f∈La,Oct1 f.d) (hob:∀ f∈Lb,Oct1 f.d) :
  Calls Tryz.prog 21 #[.slice Aa na ca,.slice Ab nb cb] w fun e w'=>e = .returned (.bool (decide (La.map Fi.v=Lb.map Fi.v)))∧Below w.heap.size w w':=by
 have HA:=Lib.hid ha
 have HB:=Lib.hid hb
 have HL:=Lib.hid (And.intro hla hlb)
 have HO:=Lib.hid (And.intro hoa hob)
 have hca:na≤ca:=by rw [←hla];exact ha.1
 have hcb:nb≤cb:=by rw [←hlb];exact hb.1
 have ha63:=ha.2.1
 have hb63:=hb.2.1
 clear ha hb hla hlb hoa hob
 by_cases hn:na=nb
 case neg =>
  have hv:((na:Int) == (nb:Int))=false:=by rw [beq_eq_false_iff_ne];omega
  have HD:Hid (decide (La.map Fi.v=Lb.map Fi.v)=false):=Lib.hid (decide_eq_false fun e=>by
   have:=congrArg List.length e
   rw [List.length_map,List.length_map,HL.out.1,HL.out.2] at this
   exact hn this)
  go_enter Tryz.func21,Tryz.ntmps21
  go_wp2_with fail
  go_ret
  refine ⟨by rw [HD.out];rfl,?_⟩
  first | exact Below.refl _ _ | exact (Below.refl _ w).drew | exact ((Below.refl _ w).drewN _)
 case pos =>
  subst hn
  go_enter Tryz.func21,Tryz.ntmps21
  go_wp2_with fail
  go_loopw [5] (fun i wr=>RelSF w La Lb na i wr) (fun i _=>na - (intOf i).toNat)
  case atStart=>exact ⟨0,by omega,rfl,Below.refl _ _,fun t ht=>by omega⟩
  case round =>
   obtain ⟨j,hj1,rfl,hq,heq⟩:=hrel
   obtain ⟨V,hV⟩:∃ V,V=wr:=⟨_,rfl⟩
   subst hV
   have HQ:=Lib.hid hq
   have HE:=Lib.hid heq
   clear hq heq
   by_cases hjn:j<na
   case neg =>
    obtain rfl:j=na:=by omega
    have HD:Hid (decide (La.map Fi.v=Lb.map Fi.v)=true):=Lib.hid (decide_eq_true (by
     apply List.ext_getElem
     ·rw [List.length_map,List.length_map,HL.out.1,HL.out.2]
     ·intro t h1 h2
      rw [List.length_map] at h1 h2
      have:=HE.out t (by rw [←HL.out.1];exact h1)
      simpa [List.getD,h1,h2] using this))
    have hjI:¬ ((j:Int)<(j:Int)):=by omega
    go_wp2_with fail
    go_ret
    refine ⟨by rw [HD.out];rfl,?_⟩
    first | exact HQ.out | exact HQ.out.drew
   case pos =>
    have hjI:(j:Int)<(na:Int):=by omega
    have hj0:(0:Int)≤(j:Int):=by omega
    have hwj:IntKind.i64.wrap ((j:Int)+1)=(j:Int)+1:=IntWalk.i64_in _ (by omega)
    have hja:j<La.length:=by rw [HL.out.1];exact hjn
    have hjb:j<Lb.length:=by rw [HL.out.2];exact hjn
    obtain ⟨ba,offa,rfl,hba,hca2⟩:=HA.out.2.2.2 (by omega)
    obtain ⟨bb,offb,rfl,hbb,hcb2⟩:=HB.out.2.2.2 (by omega)
    obtain ⟨a0,a1⟩:=hca2 j hja
    obtain ⟨b0,b1⟩:=hcb2 j hjb
    have HRA:=Lib.hid (HA.out.2.2.1 _ (List.getElem_mem hja))
    have HRB:=Lib.hid (HB.out.2.2.1 _ (List.getElem_mem hjb))
    have HOA:=Lib.hid (HO.out.1 _ (List.getElem_mem hja))
    have HOB:=Lib.hid (HO.out.2 _ (List.getElem_mem hjb))
    have HGA:Hid (La.getD j default=La[j]):=Lib.hid (by simp [List.getD,hja])
    have HGB:Hid (Lb.getD j default=Lb[j]):=Lib.hid (by simp [List.getD,hjb])
    generalize La[j]=fa at *
    generalize Lb[j]=fb at *
    obtain ⟨sa,daa,dca,da⟩:=fa
    obtain ⟨sb,dab,dcb,db⟩:=fb
    dsimp only at a0 a1 b0 b1 HRA HRB HOA HOB
    replace a0:=(HQ.out.cell (p:=⟨ba,_,none⟩) hba).trans a0
    replace a1:=(HQ.out.cell (p:=⟨ba,_,none⟩) hba).trans a1
    replace b0:=(HQ.out.cell (p:=⟨bb,_,none⟩) hbb).trans b0
    replace b1:=(HQ.out.cell (p:=⟨bb,_,none⟩) hbb).trans b1
    have hcv:=fun N=>conv_str (HRA.out.under (belowN HQ.out N)) rfl HOA.out
    have hcv2:=fun N=>conv_str (HRB.out.under (belowN HQ.out N)) rfl HOB.out
    have HSE:=Lib.hid (strs_eq HOA.out HOB.out)
    have HNE:=Lib.hid (names_eq sa sb)
    obtain ⟨za,hza⟩:∃ z,str da=z:=⟨_,rfl⟩
    obtain ⟨zb,hzb⟩:∃ z,str db=z:=⟨_,rfl⟩
    rw [hza] at hcv
    rw [hzb] at hcv2
    rw [hza,hzb] at HSE
    obtain ⟨na1,hna1⟩:∃ n,da.length=n:=⟨_,rfl⟩
    obtain ⟨nb1,hnb1⟩:∃ n,db.length=n:=⟨_,rfl⟩
    rw [hna1] at a1 hcv
    rw [hnb1] at b1 hcv2
    have hD0:∀ (h:¬ ((⟨sa,daa,dca,da⟩:Fi).v=(⟨sb,dab,dcb,db⟩:Fi).v)),decide (La.map Fi.v=Lb.map Fi.v)=false:=fun h=>decide_eq_false fun e=>h (by
     have e2:(La.map Fi.v)[j]?=(Lb.map Fi.v)[j]?:=by rw [e]
     rw [List.getElem?_map,List.getElem?_map,List.getElem?_eq_getElem hja,List.getElem?_eq_getElem hjb] at e2
     have e3:La[j].v=Lb[j].v:=by simpa using e2
     have ga:=HGA.out
     have gb:=HGB.out
     rw [List.getD,List.getElem?_eq_getElem hja] at ga
     rw [List.getD,List.getElem?_eq_getElem hjb] at gb
     rw [show La[j]=⟨sa,daa,dca,da⟩ from ga,show Lb[j]=⟨sb,dab,dcb,db⟩ from gb] at e3
     exact e3)
    have HD0:=Lib.hid hD0
    have HE2:Hid ((⟨sa,daa,dca,da⟩:Fi).v=(⟨sb,dab,dcb,db⟩:Fi).v→∀ t,t<j+1→(La.getD t default).v=(Lb.getD t default).v):=Lib.hid fun h t ht=>by
     rcases Nat.lt_or_ge t j with h1 | h1
     ·exact HE.out t h1
     ·obtain rfl:t=j:=by omega
      rw [HGA.out,HGB.out]
      exact h
    clear hja hjb hca2 hcb2 hza hzb hna1 hnb1 hD0
    by_cases hs:sa=sb
    case neg =>
     have hB:=HNE.out
     rw [decide_eq_false hs] at hB
     have HD:=Lib.hid (HD0.out fun e=>hs (congrArg (fun q=>q.1) e))
     clear hs
     go_wp2_with fail
     go_quiet (fail)
     go_wp2_with fail
     go_ret
     exact ⟨by rw [HD.out];rfl,belowN HQ.out _⟩
    case pos =>
     have hB:=HNE.out
     rw [decide_eq_true hs] at hB
     by_cases hd:da=db
     case neg =>
      have hB2:=HSE.out
      rw [decide_eq_false hd] at hB2
      have HD:=Lib.hid (HD0.out fun e=>hd (congrArg (fun q=>q.2) e))
      clear hs hd
      go_wp2_with fail
      go_quiet (fail)
      go_wp2_with fail
      go_ret
      exact ⟨by rw [HD.out];rfl,belowN HQ.out _⟩
     case pos =>
      have hB2:=HSE.out
      rw [decide_eq_true hd] at hB2
      have HE3:=Lib.hid (HE2.out (by rw [hs,hd];rfl))
      clear hs hd
      go_wp2_with fail
      go_quiet (fail)
      go_wp2_with fail
      go_roundw
      case rel=>exact ⟨j+1,by omega,by go_num,belowN HQ.out _,HE3.out⟩
      case measure=>simp [intOf];omega
end Go.Proofs.YtnedpkhehiijhaaGreat
namespace Go.Proofs.YtnedpkhehiijhaaGreat
open Go.RowKit
set_option linter.unusedVariables false
set_option linter.unusedSimpArgs false
attribute [local go_sem ↓] Go.wp_at_zero Go.wp_at_succ
theorem str_sizeF (b:List Nat):(str b).size=b.length:=by simp [str,ByteArray.size]
theorem conv_bytesF (b:List Nat) (ho:Oct1 b) (hl:b.length≤100000):∃ (cap:World→Nat) (o:World→Obj),(∀ W,(convert 9 44 (.string (str b))).run Tryz.prog W = .ok (.slice (some ⟨W.heap.size,0,none⟩) b.length (cap W)) (W.drew.alloc (o W))) ∧
  ∀ W,Rd .u8 (W.drew.alloc (o W)) (W.heap.size+1) (some ⟨W.heap.size,0,none⟩) (cap W) b:=by
 refine ⟨_,_,fun W=>by rw [←str_sizeF b];exact run_bytes_of_string (P:=Tryz.prog) W 9 44 5 (str b) Tryz.underlying9 Tryz.underlying44 Tryz.underlying5,fun W=>?_⟩
 have hg:=grownCap_ge W (str b).size 0 5
 have hm:=grownCap_le_maxLen W (str b).size 0 5 (by rw [str_sizeF];simp [maxLen];omega)
 rw [str_sizeF] at hg hm ⊢
 refine ⟨hg,by unfold maxLen at hm;exact hm,fun h0=>⟨W.heap.size,0,rfl,by omega,fun j hj=>?_⟩⟩
 rw [Nat.zero_add,cell_of_row (W.drew.alloc _) W.heap.size j _ 5 _ (heap_alloc_new W.drew _)]
 rw [bytesRow_at (str b) _ j (by simpa [str] using hj)]
 have hx:=ho b[j] (List.getElem_mem hj)
 simp [str,List.getD,hj,Nat.mod_eq_of_lt hx]
theorem results_box1 {fn:Func} {x:Tmp} {t:TypeId} (h:fn.results=#[.cell x t]) (tmps:Array Value) (P:Program) (w:World) {ad:Addr} (hx:tmps.getD x undef = .pointer (some ad)) {v:Value} (hv:(loadVar t ad).run P w = .ok v w) :
  (results fn tmps).run P w = .ok v w:=by
 have hx':tmps[x]?.getD undef = .pointer (some ad):=by simpa using hx
 simp [results,h,hx',asAddr,hv]
theorem size_op:(Tryz.prog.info? 58).map (·.size)=some 3:=by kernel_rfl
theorem load_op {W:World} {g:Nat} {a b c:Value} (h:Holds W g 58 #[a,b,c]):(loadVar 58 ⟨g,0,none⟩).run Tryz.prog W = .ok (.agg #[a,b,c]) W :=
 run_loadVar_mid (P:=Tryz.prog) W g 0 58 [a,b,c] _ h.rangeAll Tryz.underlying58 rfl (by rw [size_op];rfl)
/-- What is asked, as cells. -/
def opAgg (o:OpA):Value:=.agg #[.bool o.drop,.string o.name,.slice o.da o.d.length o.dc]
def PutPst (w:World) (nm:ByteArray) (l:List Nat) (e:Ending) (w':World):Prop:=∃ o:OpA,e = .returned (opAgg o)∧o.v=⟨false,nm,l⟩∧Rd .u8 w' w'.heap.size o.da o.dc o.d∧Below w.heap.size w w'
set_option maxRecDepth 100000 in
theorem put5_any (w:World) (nm:ByteArray) (l:List Nat) (ho:Oct1 l) (hl:l.length≤100000) :
  Calls Tryz.prog 27 #[.string nm,.string (str l)] w (PutPst w nm l):=by
 obtain ⟨cap,o,hcv,hrd⟩:=conv_bytesF l ho hl
 obtain ⟨ds,hds⟩:∃ ds,ds=str l:=⟨_,rfl⟩
 obtain ⟨N,hN⟩:∃ N,N=l.length:=⟨_,rfl⟩
 have HN:=Lib.hid hN
 rw [←hds] at hcv ⊢
 rw [←hN] at hcv
 have HRD:=Lib.hid hrd
 clear hds hN hrd
 go_enter Tryz.func27,Tryz.ntmps27
 go_wp2_with fail
 obtain ⟨W0,hW0⟩:∃ W0,W0=(w.alloc (.cells #[.bool false,.string ⟨#[]⟩,.slice none 0 0] 58)):=⟨_,rfl⟩
 have hs0:W0.heap.size=w.heap.size+1:=by rw [hW0];simp
 have hR:=HRD.out W0
 rw [hs0] at hR
 rw [←hW0]
 generalize o W0=ob at hR ⊢
 generalize cap W0=cp at hR ⊢
 obtain ⟨W1,hW1⟩:∃ W1,W1=(w.alloc (.cells #[.bool false,.string nm,.slice (some ⟨w.heap.size+1,0,none⟩) N cp] 58)):=⟨_,rfl⟩
 have hh:Holds W1 w.heap.size 58 #[.bool false,.string nm,.slice (some ⟨w.heap.size+1,0,none⟩) N cp]:=by rw [hW1];exact Holds.fresh _ _ _
 have hb1:Below w.heap.size w W1:=by rw [hW1];exact (Below.refl _ w).alloc (Nat.le_refl _) _
 have hs1:W1.heap.size=w.heap.size+1:=by rw [hW1];simp
 rw [←hW1]
 have hld:=load_op ((hh.alloc ob).drew)
 refine bodyPost_ret (results_box1 (x:=4) (t:=58) rfl _ _ _ rfl hld) rfl ⟨⟨false,nm,some ⟨w.heap.size+1,0,none⟩,cp,l⟩,by rw [HN.out];rfl,rfl,?_,?_⟩
 ·refine ⟨hR.1,hR.2.1,fun h0=>?_⟩
  obtain ⟨b,off,e,hlt,hc⟩:=hR.2.2 h0
  injection e with e
  injection e with e1 e2
  subst e1 e2
  refine ⟨_,_,rfl,by simp [hs1],fun j hj=>?_⟩
  have h1:=hc j hj
  have hn0:(W0.drew.alloc ob).heap[w.heap.size+1]?=some ob:=by rw [←hs0];exact heap_alloc_new W0.drew _
  have hn1:((W1.alloc ob).drew).heap[w.heap.size+1]?=some ob:=by rw [←hs1];exact heap_alloc_new W1 _
  simp only [World.cell?,hn0] at h1
  simp only [World.cell?,hn1]
  exact h1
 ·exact (hb1.alloc (by omega) _).drew
set_option maxRecDepth 100000 in
theorem drop5_any (w:World) (nm:ByteArray) :
  Calls Tryz.prog 28 #[.string nm] w fun e w'=>∃ o:OpA,e = .returned (opAgg o)∧o.v=⟨true,nm,[]⟩∧Rd .u8 w' w'.heap.size o.da o.dc o.d∧Below w.heap.size w w':=by
 go_enter Tryz.func28,Tryz.ntmps28
 go_wp2_with fail
 obtain ⟨W1,hW1⟩:∃ W1,W1=(w.alloc (.cells #[.bool true,.string nm,.slice none 0 0] 58)):=⟨_,rfl⟩
 have hh:Holds W1 w.heap.size 58 #[.bool true,.string nm,.slice none 0 0]:=by rw [hW1];exact Holds.fresh _ _ _
 have hb1:Below w.heap.size w W1:=by rw [hW1];exact (Below.refl _ w).alloc (Nat.le_refl _) _
 rw [←hW1]
 have hld:=load_op hh
 exact bodyPost_ret (results_box1 (x:=2) (t:=58) rfl _ _ _ rfl hld) rfl ⟨⟨true,nm,none,0,[]⟩,rfl,rfl,⟨Nat.le_refl _,Nat.zero_le _,fun h=>absurd h (by simp)⟩,hb1⟩
end Go.Proofs.YtnedpkhehiijhaaGreat
namespace Go.Proofs.YtnedpkhehiijhaaGreat
open Go.RowKit
set_option linter.unusedVariables false
set_option linter.unusedSimpArgs false
theorem usedK_usedI {ns:List Nd} {i:Fin 40}:i∈usedK ns 40↔usedV (nvOf ns i.val)=true:=by
 rw [usedK_mem];rfl
/-- What List tells, by the names. -/
theorem slots_view {s:Dk} {ns:List Nd} (hm:Mounts s ns) {ys:List (Fin 40)} (hy:Slots ns ys):(ys.map fun x=>(nmS ns x.val,dataN s (ns.getD x.val default)))=(ys.map fun x=>nmS ns x.val).map fun t=>(t,(viewN s ns t).getD []):=by
 rw [List.map_map]
 refine List.map_congr_left fun x hx=>?_
 have hu:=usedK_usedI.1 (hy.perm.mem_iff.1 hx)
 have h1:=slotO_is hm.nvOk x.isLt hu
 show (nmS ns x.val,_)=(nmS ns x.val,(viewN s ns (nmS ns x.val)).getD [])
 unfold viewN
 rw [show nmS ns x.val=(nvOf ns x.val).1 from rfl,h1]
 rfl
theorem slots_mem {s:Dk} {ns:List Nd} (hm:Mounts s ns) {ys:List (Fin 40)} (hy:Slots ns ys) (t:ByteArray):t∈(ys.map fun x=>nmS ns x.val)↔viewN s ns t≠none:=by
 rw [←view_none,List.mem_map]
 constructor
 ·rintro ⟨x,hx,rfl⟩
  have hu:=usedK_usedI.1 (hy.perm.mem_iff.1 hx)
  rw [show nmS ns x.val=(nvOf ns x.val).1 from rfl,slotO_is hm.nvOk x.isLt hu]
  exact fun e=>nomatch e
 ·intro hne
  cases hs:slotO (nvOf ns) t with
  | none=>exact absurd hs hne
  | some i =>
   obtain ⟨a,b,c⟩:=slotO_some hs
   exact ⟨⟨i,a⟩,hy.perm.mem_iff.2 (usedK_usedI.2 b),c⟩
theorem slots_nodup {s:Dk} {ns:List Nd} (hm:Mounts s ns) {ys:List (Fin 40)} (hy:Slots ns ys):(ys.map fun x=>nmS ns x.val).Nodup:=by
 have hu:(usedK ns 40).Nodup:=by
  unfold usedK
  exact ((List.nodup_finRange 40).sublist (List.take_sublist _ _)).filter _
 have hn:ys.Nodup:=hy.perm.nodup_iff.2 hu
 unfold List.Nodup
 rw [List.pairwise_map]
 refine List.Pairwise.imp_of_mem (fun {a b} ha hb hne e=>hne ?_) hn
 exact hm.apart a b (hy.perm.mem_iff.1 ha) (hy.perm.mem_iff.1 hb) (by rw [e])
theorem setF_same (f:FateF) (t:ByteArray) (x:Option (List Nat)):setF f t x t=some x:=by unfold setF;rw [if_pos rfl]
theorem setF_ne (f:FateF) {t u:ByteArray} (x:Option (List Nat)) (h:u≠t):setF f t x u=f u:=by unfold setF;rw [if_neg h]
def sA:ByteArray:=⟨#[97]⟩
def sB:ByteArray:=⟨#[98]⟩
theorem sAB:sA≠sB:=by decide
theorem okA:NameOk sA:=⟨by decide,by decide,by decide⟩
theorem okB:NameOk sB:=⟨by decide,by decide,by decide⟩
def knOps:List OpV:=[⟨false,sA,[49]⟩,⟨false,sB,[50]⟩,⟨true,sA,[]⟩]
theorem kn_fate (has:ByteArray→Bool):fateS has knOps (fun _=>none) = .inr (setF (setF (setF (fun _=>none) sA (some [49])) sB (some [50])) sA none):=by
 have e:setF (setF (fun _=>none) sA (some [49])) sB (some [50]) sA=some (some [49]):=by rw [setF_ne _ _ sAB,setF_same]
 unfold knOps
 simp only [fateS,e,okA,okB]
 simp
def knF:FateF:=setF (setF (setF (fun _=>none) sA (some [49])) sB (some [50])) sA none
theorem knF_a:knF sA=some none:=setF_same _ _ _
theorem knF_b:knF sB=some (some [50]):=by unfold knF;rw [setF_ne _ _ sAB.symm,setF_same]
theorem knF_o {t:ByteArray} (h1:t≠sA) (h2:t≠sB):knF t=none:=by unfold knF;rw [setF_ne _ _ h1,setF_ne _ _ h2,setF_ne _ _ h1]
theorem kn_keys:KeysF knF [sA,sB]:=by
 refine ⟨by simp [sAB],fun t=>?_,?_⟩
 ·by_cases h1:t=sA
  ·subst h1;rw [knF_a];simp
  ·by_cases h2:t=sB
   ·subst h2;rw [knF_b];simp
   ·rw [knF_o h1 h2];simp [h1,h2]
 ·refine List.Pairwise.cons (fun a ha=>?_) (List.pairwise_singleton _ _)
  rw [List.mem_singleton.1 ha]
  decide
theorem known_done {ns ns':List Nd} {r:Nat} {s':Dk} (hm:Mounts (fmtD 60) ns) (hm':Mounts s' ns') (h60:s'.many=60) (h:DoL (fateS (hasN ns) knOps (fun _=>none)) (fmtD 60) ns 60 r s' ns') :
  r=0∧leftN s' ns'=19∧∀ ys,Slots ns' ys→(ys.map fun x=>(nmS ns' x.val,dataN s' (ns'.getD x.val default)))=[(sB,[50])]:=by
 have he:∀ i,i<40→nvOf ns i=zV:=fun i hi=>empty_nv (by omega) (by omega) hm hi
 have hl:=empty_left hm he
 have hmm:(fmtD 60).many=60:=(fmtD_facts (m:=60) (by omega) (by omega)).1.many
 rw [hmm] at hl
 have hv0:∀ t,viewN (fmtD 60) ns t=none:=fun t=>by unfold viewN;rw [empty_slot he];rfl
 have hc:=usL_free hm (K:=[]) List.nodup_nil fun t=>by rw [empty_slot he];simp
 rw [kn_fate] at h
 obtain ⟨ks,hk,h⟩:=h
 obtain rfl:=hk.one kn_keys
 have hroom:RoomFor (nvOf ns) knF [sA,sB] (usL ns) (leftN (fmtD 60) ns):=by
  have w1:wantL knF [sA,sB]=1:=by simp [wantL,wantF,knF_a,knF_b,needN]
  have w2:newC (nvOf ns) knF [sA,sB]=1:=by simp [newC,knF_a,knF_b,empty_slot he]
  have w3:putC knF [sA,sB]=1:=by simp [putC,knF_a,knF_b]
  have w4:dropC (nvOf ns) knF [sA,sB]=0:=by simp [dropC,knF_a,knF_b,empty_slot he]
  rw [List.length_nil] at hc
  exact ⟨by omega,by omega,by omega⟩
 rcases h with ⟨h1,_⟩ | ⟨_,h1,h2,h3,h4⟩
 ·exact absurd hroom h1
 have hv:∀ t,viewN s' ns' t=if t=sB then some [50] else none:=fun t=>by
  have:=h2 t
  rw [show (setF (setF (setF (fun _=>none) sA (some [49])) sB (some [50])) sA none)=knF from rfl] at this
  rw [this]
  by_cases a:t=sA
  ·subst a;rw [knF_a,if_neg sAB]
  ·by_cases b:t=sB
   ·subst b;rw [knF_b,if_pos rfl]
   ·rw [knF_o a b,if_neg b];exact hv0 t
 have hK:∀ t,t∈[sB]↔slotO (nvOf ns') t≠none:=fun t=>by
  rw [view_none (s:=s'),hv t]
  by_cases b:t=sB
  ·simp [b]
  ·simp [b]
 refine ⟨h1,?_,fun ys hy=>?_⟩
 ·rw [left_of hm' (by simp) hK,h60]
  have:=h3 sB [50] knF_b
  simp [this,needN]
 ·rw [slots_view hm' hy]
  have hp:(ys.map fun x=>nmS ns' x.val).Perm [sB]:=(List.perm_ext_iff_of_nodup (slots_nodup hm' hy) (by simp)).2 fun t=>by
   rw [slots_mem hm' hy,hK,view_none (s:=s')]
  rw [List.perm_singleton.1 hp]
  simp [hv]
end Go.Proofs.YtnedpkhehiijhaaGreat
namespace Go.Proofs.YtnedpkhehiijhaaGreat
open Go.RowKit
set_option linter.unusedVariables false
set_option linter.unusedSimpArgs false
attribute [local go_sem ↓] Go.wp_at_zero Go.wp_at_succ
set_option maxRecDepth 100000 in
set_option maxHeartbeats 2000000 in
theorem known5_any (w:World) :
  Calls Tryz.prog 26 #[] w fun e w'=>e = .returned (.bool true)∧Below w.heap.size w w':=by
 have HD:=Lib.hid (disk5_any w 60 (by omega) (by omega))
 have HP1:=Lib.hid fun W (x y:ByteArray) (hx:x=sA) (hy:y=str [49])=>(by subst hx hy;exact put5_any W sA [49] (by intro x hx;rcases List.mem_singleton.1 hx;omega) (by decide):Calls Tryz.prog 27 #[.string x,.string y] W (PutPst W sA [49]))
 have HP2:=Lib.hid fun W (x y:ByteArray) (hx:x=sB) (hy:y=str [50])=>(by subst hx hy;exact put5_any W sB [50] (by intro x hx;rcases List.mem_singleton.1 hx;omega) (by decide):Calls Tryz.prog 27 #[.string x,.string y] W (PutPst W sB [50]))
 go_enter Tryz.func26,Tryz.ntmps26
 go_wp2_with fail
 refine HD.out.mono ?_
 rintro e w1 ⟨gd,gx,rfl,hd1,hb1⟩
 have hr1:=(fmtD_facts (m:=60) (by omega) (by omega)).1
 have hm1:=mounts_fmt (m:=60) (by omega) (by omega)
 have HM:=Lib.hid (mount_law hd1 hr1 (by omega) hm1)
 have HB1:=Lib.hid hb1
 have HR1:=Lib.hid hr1
 clear hd1 hr1 hm1 hb1 HD
 go_wp2_with fail
 refine HM.out.mono ?_
 rintro e w2 ⟨gf,F2,ns,rfl,hf2,hF2,hg2,ho2⟩
 have HF2:=Lib.hid hf2
 have HB2:Hid (Below w.heap.size w w2):=Lib.hid (HB1.out.trans (ho2.below (fun k hk=>hk.1) HB1.out.size))
 have HFB:Hid (∀ k,F2 k∨k=gf→w.heap.size≤k):=Lib.hid fun k hk=>by
  have:=HB1.out.size
  rcases hk with hk | hk
  ·rcases hF2 k hk with h | h
   ·exact h.1
   ·omega
  ·omega
 clear hf2 hF2 hg2 ho2 HM
 go_wp2_with fail
 refine (HP1.out w2 _ _ rfl (by decide +kernel)).mono ?_
 rintro e w3 ⟨o1,rfl,ho1,hr1,hb3⟩
 unfold opAgg
 have HO1:=Lib.hid (And.intro ho1 hr1)
 have HB3:=Lib.hid hb3
 clear ho1 hr1 hb3
 go_wp2_with fail
 refine (HP2.out w3 _ _ rfl (by decide +kernel)).mono ?_
 rintro e w4 ⟨o2,rfl,ho2,hr2,hb4⟩
 unfold opAgg
 have HO2:=Lib.hid (And.intro ho2 hr2)
 have HB4:=Lib.hid hb4
 clear ho2 hr2 hb4
 go_wp2_with fail
 refine (drop5_any w4 sA).mono ?_
 rintro e w5 ⟨o3,rfl,ho3,hr3,hb5⟩
 unfold opAgg
 have HO3:=Lib.hid (And.intro ho3 hr3)
 have HB5:=Lib.hid hb5
 clear ho3 hr3 hb5
 go_wp2_with fail
 obtain ⟨w6,hw6⟩:∃ W,W=(w5.alloc (.cells #[.bool o1.drop,.string o1.name,.slice o1.da o1.d.length o1.dc,.bool o2.drop,.string o2.name,.slice o2.da o2.d.length o2.dc,.bool o3.drop,.string o3.name,.slice o3.da o3.d.length o3.dc] 58)):=⟨_,rfl⟩
 have HB6:Hid (Below w5.heap.size w5 w6):=Lib.hid (by rw [hw6];exact (Below.refl _ _).alloc (Nat.le_refl _) _)
 have HH6:Hid (Holds w6 w5.heap.size 58 #[.bool o1.drop,.string o1.name,.slice o1.da o1.d.length o1.dc,.bool o2.drop,.string o2.name,.slice o2.da o2.d.length o2.dc,.bool o3.drop,.string o3.name,.slice o3.da o3.d.length o3.dc]):=Lib.hid (by rw [hw6];exact Holds.fresh _ _ _)
 have HS6:Hid (w6.heap.size=w5.heap.size+1):=Lib.hid (by rw [hw6];simp)
 have HB26:Hid (Below w2.heap.size w2 w6):=Lib.hid (by
  have h3:=HB3.out
  have h4:=HB4.out
  have h5:=HB5.out
  have h6:=HB6.out
  exact ((h3.trans (h4.mono h3.size)).trans (h5.mono (Nat.le_trans h3.size h4.size))).trans (h6.mono (Nat.le_trans (Nat.le_trans h3.size h4.size) h5.size)))
 have HRO:Hid (RdOp w6 w6.heap.size (some ⟨w5.heap.size,0,none⟩) 3 [o1,o2,o3]):=Lib.hid (by
  have h4:=HB4.out
  have h5:=HB5.out
  have h6:=HB6.out
  have r1:=(((HO1.out.2.under h4).under (h5.mono h4.size)).under (h6.mono (Nat.le_trans h4.size h5.size))).more (Nat.le_trans (Nat.le_trans h4.size h5.size) h6.size)
  have r2:=((HO2.out.2.under h5).under (h6.mono h5.size)).more (Nat.le_trans h5.size h6.size)
  have r3:=(HO3.out.2.under h6).more h6.size
  have n1:o1.name=sA:=congrArg (fun q=>q.name) HO1.out.1
  have n2:o2.name=sB:=congrArg (fun q=>q.name) HO2.out.1
  have n3:o3.name=sA:=congrArg (fun q=>q.name) HO3.out.1
  refine ⟨Nat.le_refl _,by omega,fun o ho=>?_,fun _=>⟨_,_,rfl,by have:=HS6.out;omega,fun j hj=>?_⟩⟩
  ·simp only [List.mem_cons,List.not_mem_nil,or_false] at ho
   rcases ho with rfl | rfl | rfl
   ·exact ⟨r1,by rw [n1];decide⟩
   ·exact ⟨r2,by rw [n2];decide⟩
   ·exact ⟨r3,by rw [n3];decide⟩
  ·have hh:=HH6.out
   have hj:j<3:=hj
   have:j=0∨j=1∨j=2:=by omega
   rcases this with rfl | rfl | rfl
   ·exact ⟨hh.cell 0,hh.cell 1,hh.cell 2⟩
   ·exact ⟨hh.cell 3,hh.cell 4,hh.cell 5⟩
   ·exact ⟨hh.cell 6,hh.cell 7,hh.cell 8⟩)
 rw [←hw6]
 clear hw6
 have HDO:=Lib.hid (do_law (HF2.out.under HB26.out) HR1.out (by omega) (some ⟨w5.heap.size,0,none⟩) 3 3 [o1,o2,o3] rfl HRO.out (by omega) (fun o ho=>by
  simp only [List.mem_cons,List.not_mem_nil,or_false] at ho
  rcases ho with rfl | rfl | rfl
  ·rw [show o.d=[49] from congrArg (fun q=>q.data) HO1.out.1];exact fun x hx=>by rcases List.mem_singleton.1 hx;omega
  ·rw [show o.d=[50] from congrArg (fun q=>q.data) HO2.out.1];exact fun x hx=>by rcases List.mem_singleton.1 hx;omega
  ·rw [show o.d=[] from congrArg (fun q=>q.data) HO3.out.1];exact fun x hx=>nomatch hx))
 refine HDO.out.mono ?_
 rintro e w7 ⟨r,F3,s3,ns3,rfl,hf3,hr3,ho3,hF3,hdo⟩
 have hkd:=known_done HF2.out.mt hf3.mt hr3.many (by
  have:[o1,o2,o3].map OpA.v=knOps:=by
   unfold knOps
   rw [List.map_cons,List.map_cons,List.map_cons,List.map_nil,HO1.out.1,HO2.out.1,HO3.out.1]
  rw [this] at hdo
  exact hdo)
 obtain ⟨rfl,hleft,hlist⟩:=hkd
 have HF3:=Lib.hid hf3
 have HR3:=Lib.hid hr3
 have HLF:=Lib.hid hleft
 have HLI:=Lib.hid hlist
 have HB7:Hid (Below w.heap.size w w7):=Lib.hid (((HB2.out.trans (HB26.out.mono HB2.out.size)).trans (ho3.below HFB.out (Nat.le_trans HB2.out.size HB26.out.size))))
 clear HDO hf3 hr3 hleft hlist hdo
 go_wp2_with fail
 refine (list_fs HF3.out).mono ?_
 rintro e w8 ⟨hb8,ys,Ax,cx,L,hy,rfl,hL,hLv,hrx⟩
 have HV:=Lib.hid (hLv.trans (HLI.out ys hy))
 have HRX:=Lib.hid hrx
 have HB8:=Lib.hid hb8
 have HLL:=Lib.hid hL
 obtain ⟨nx,hnx⟩:∃ n,n=ys.length:=⟨_,rfl⟩
 rw [←hnx]
 have HNX:=Lib.hid hnx
 clear hy hL hLv hrx hb8 hnx
 have hcv:=Go.Joins.run_convert_bytes_const_at (P:=Tryz.prog) w8 44 5 #[.int .u8 50] 1 1 w8.heap.size rfl Tryz.underlying44 Tryz.underlying5
 go_wp2_with fail
 clear hcv
 obtain ⟨w9,hw9⟩:∃ W,W=((w8.alloc (.cells #[.int .u8 50] 5 (1,2))).alloc (.cells #[.string ⟨#[98]⟩,.slice (some ⟨w8.heap.size,0,none⟩) 1 1] 56)):=⟨_,rfl⟩
 have HS9:Hid (w9.heap.size=w8.heap.size+2):=Lib.hid (by rw [hw9];simp)
 have HB9:Hid (Below w8.heap.size w8 w9):=Lib.hid (by rw [hw9];exact ((Below.refl _ _).alloc (Nat.le_refl _) _).alloc (by simp) _)
 have HC9:Hid (w9.cell? ⟨w8.heap.size,0,none⟩=some (.int .u8 50)∧w9.cell? ⟨w8.heap.size+1,0,none⟩=some (.string sB)∧w9.cell? ⟨w8.heap.size+1,1,none⟩=some (.slice (some ⟨w8.heap.size,0,none⟩) 1 1)):=Lib.hid (by
  have h1:=World.cell?_alloc_mark w8 #[.int .u8 50] 5 (1,2) 0
  have hs:(w8.alloc (.cells #[.int .u8 50] 5 (1,2))).heap.size=w8.heap.size+1:=by simp
  have hh:=Holds.fresh (w8.alloc (.cells #[.int .u8 50] 5 (1,2))) 56 #[.string ⟨#[98]⟩,.slice (some ⟨w8.heap.size,0,none⟩) 1 1]
  rw [hs,←hw9] at hh
  refine ⟨?_,hh.cell 0,hh.cell 1⟩
  have hb:Below (w8.heap.size+1) (w8.alloc (.cells #[.int .u8 50] 5 (1,2))) w9:=by rw [hw9];exact (Below.refl _ _).alloc (by rw [hs];exact Nat.le_refl _) _
  exact (hb.cell (p:=⟨w8.heap.size,0,none⟩) (by show w8.heap.size<_;omega)).trans h1)
 rw [←hw9]
 clear hw9
 have HRB:Hid (RdFi w9 w9.heap.size (some ⟨w8.heap.size+1,0,none⟩) 1 [⟨sB,some ⟨w8.heap.size,0,none⟩,1,[50]⟩]):=Lib.hid (by
  have hz:=HS9.out
  refine ⟨Nat.le_refl _,by omega,fun f hf=>?_,fun _=>⟨_,_,rfl,by omega,fun j hj=>?_⟩⟩
  ·rw [List.mem_singleton.1 hf]
   refine ⟨Nat.le_refl _,by show 1≤9223372036854775807;omega,fun _=>⟨_,_,rfl,by omega,fun j hj=>?_⟩⟩
   obtain rfl:j=0:=by simpa using hj
   exact HC9.out.1
  ·obtain rfl:j=0:=by simpa using hj
   exact ⟨HC9.out.2.1,HC9.out.2.2⟩)
 have HOC:Hid (∀ f∈L,Oct1 f.d):=Lib.hid fun f hf=>by
  have h1:f.v∈L.map Fi.v:=List.mem_map.2 ⟨f,hf,rfl⟩
  rw [HV.out] at h1
  have h2:=List.mem_singleton.1 h1
  rw [show f.d=[50] from congrArg (fun q=>q.2) h2]
  intro x hx
  rcases List.mem_singleton.1 hx
  omega
 have HRX9:Hid (RdFi w9 w9.heap.size Ax cx L):=Lib.hid (by
  have h:=HRX.out
  have hb:=HB9.out
  refine ⟨h.1,h.2.1,fun f hf=>((h.2.2.1 f hf).under hb).more hb.size,fun h0=>?_⟩
  obtain ⟨b,off,e,hlt,hc⟩:=h.2.2.2 h0
  exact ⟨b,off,e,Nat.lt_of_lt_of_le hlt hb.size,fun j hj=>⟨(hb.cell (p:=⟨b,_,none⟩) hlt).trans (hc j hj).1,(hb.cell (p:=⟨b,_,none⟩) hlt).trans (hc j hj).2⟩⟩)
 refine (sameF_any w9 Ax _ cx 1 nx 1 L [⟨sB,some ⟨w8.heap.size,0,none⟩,1,[50]⟩] HRX9.out HRB.out (HLL.out.trans HNX.out.symm) rfl HOC.out (fun f hf=>by
  rw [List.mem_singleton.1 hf]
  intro x hx
  rcases List.mem_singleton.1 hx
  omega)).mono ?_
 rintro e w10 ⟨rfl,hb10⟩
 rw [decide_eq_true (show L.map Fi.v=[(⟨sB,some ⟨w8.heap.size,0,none⟩,1,[50]⟩:Fi)].map Fi.v from HV.out)]
 have HB10:=Lib.hid hb10
 clear hb10
 have HL:=Lib.hid (left_any ((HF3.out.under (HB8.out)).under HB9.out |>.under HB10.out))
 rw [HLF.out] at HL
 go_wp2_with fail
 refine HL.out.mono ?_
 rintro e w11 ⟨rfl,hb11⟩
 have HB11:=Lib.hid hb11
 clear hb11 HL
 go_wp2_with fail
 go_ret
 have s7:=HB7.out.size
 have s8:=HB8.out.size
 have s9:=HB9.out.size
 have s10:=HB10.out.size
 exact ⟨rfl,(((HB7.out.trans (HB8.out.mono s7)).trans (HB9.out.mono (by omega))).trans (HB10.out.mono (by omega))).trans (HB11.out.mono (by omega))⟩
end Go.Proofs.YtnedpkhehiijhaaGreat
namespace Go.Proofs.YtnedpkhehiijhaaGreat
open Go.RowKit
set_option linter.unusedVariables false
set_option linter.unusedSimpArgs false
def sX:ByteArray:=⟨#[120]⟩
def sY:ByteArray:=⟨#[121]⟩
def sAsB:ByteArray:=⟨#[97,32,98]⟩
theorem sXY:sX≠sY:=by decide
theorem okX:NameOk sX:=⟨by decide,by decide,by decide⟩
theorem okY:NameOk sY:=⟨by decide,by decide,by decide⟩
theorem noAsB:¬ NameOk sAsB:=fun h=>absurd (h.all 1 (by decide)).1 (by decide)
structure OnlyX (s:Dk) (ns:List Nd) (m:Nat) (l:List Nat):Prop where
 mt:Mounts s ns
 many:s.many=m
 view:∀ t,viewN s ns t=if t=sX then some l else none
 plc:placeN (nvOf ns) sX=needN l
theorem OnlyX.keys {s:Dk} {ns:List Nd} {m:Nat} {l:List Nat} (h:OnlyX s ns m l) (t:ByteArray):t∈[sX]↔slotO (nvOf ns) t≠none:=by
 rw [view_none (s:=s),h.view t]
 by_cases e:t=sX <;> simp [e]
theorem OnlyX.left {s:Dk} {ns:List Nd} {m:Nat} {l:List Nat} (h:OnlyX s ns m l):leftN s ns=m - 40 - needN l:=by
 rw [left_of h.mt (by simp) h.keys,h.many]
 simp [h.plc]
theorem again1 {ns ns':List Nd} {r m:Nat} {s':Dk} {l:List Nat} (h1:61≤m) (h2:m≤700) (hl:l.length≤600) (hm:Mounts (fmtD m) ns) (hm':Mounts s' ns') (hmm:s'.many=m)
  (h:DoL (fateS (hasN ns) [⟨false,sX,l⟩] (fun _=>none)) (fmtD m) ns m r s' ns'):r=0∧OnlyX s' ns' m l:=by
 have he:∀ i,i<40→nvOf ns i=zV:=fun i hi=>empty_nv (by omega) h2 hm hi
 have hle:=empty_left hm he
 rw [(fmtD_facts (m:=m) (by omega) h2).1.many] at hle
 have hv0:∀ t,viewN (fmtD m) ns t=none:=fun t=>by unfold viewN;rw [empty_slot he];rfl
 have hc:=usL_free hm (K:=[]) List.nodup_nil fun t=>by rw [empty_slot he];simp
 rw [List.length_nil] at hc
 have hfz:fateS (hasN ns) [⟨false,sX,l⟩] (fun _=>none) = .inr (setF (fun _=>none) sX (some l)):=by
  simp [fateS,okX,hl]
 rw [hfz] at h
 obtain ⟨fs,hfs⟩:∃ fs,fs=setF (fun _=>none) sX (some l):=⟨_,rfl⟩
 rw [←hfs] at h
 have fx:fs sX=some (some l):=by rw [hfs];exact setF_same _ _ _
 have fo:∀ t,t≠sX→fs t=none:=fun t ht=>by rw [hfs,setF_ne _ _ ht]
 have hkeys:KeysF fs [sX]:=⟨by simp,fun t=>by
  by_cases e:t=sX
  ·subst e;rw [fx];simp
  ·rw [fo t e];simp [e],List.pairwise_singleton _ _⟩
 obtain ⟨ks,hk,h⟩:=h
 obtain rfl:=hk.one hkeys
 have hn:needN l≤10:=by unfold needN;omega
 have hroom:RoomFor (nvOf ns) fs [sX] (usL ns) (leftN (fmtD m) ns):=by
  have w1:wantL fs [sX]=needN l:=by simp [wantL,wantF,fx]
  have w2:newC (nvOf ns) fs [sX]=1:=by simp [newC,fx,empty_slot he]
  have w3:putC fs [sX]=1:=by simp [putC,fx]
  have w4:dropC (nvOf ns) fs [sX]=0:=by simp [dropC,fx]
  exact ⟨by omega,by omega,by omega⟩
 rcases h with ⟨h1,_⟩ | ⟨_,h1,h2,h3,h4⟩
 ·exact absurd hroom h1
 refine ⟨h1,hm',hmm,fun t=>?_,h3 sX l fx⟩
 rw [h2 t]
 by_cases e:t=sX
 ·subst e;rw [fx,if_pos rfl]
 ·rw [fo t e,if_neg e];exact hv0 t
theorem OnlyX.no {s:Dk} {ns:List Nd} {m:Nat} {l:List Nat} (h:OnlyX s ns m l) {t:ByteArray} (ht:t≠sX):slotO (nvOf ns) t=none:=Classical.byContradiction fun hne=>by
 have:=(h.keys t).2 hne
 exact ht (List.mem_singleton.1 this)
theorem again2 {s s':Dk} {ns ns':List Nd} {r m:Nat} {la lb:List Nat} (h1:61≤m) (hla:la.length≤600) (hl:lb.length≤600) (hx:OnlyX s ns m la) (hm':Mounts s' ns') (hmm:s'.many=m)
  (h:DoL (fateS (hasN ns) [⟨false,sX,lb⟩,⟨false,sY,[]⟩,⟨true,sY,[]⟩] (fun _=>none)) s ns m r s' ns'):r=0∧OnlyX s' ns' m lb:=by
 have hle:=hx.left
 have hc:=usL_free hx.mt (K:=[sX]) (by simp) hx.keys
 rw [List.length_singleton] at hc
 have e0:setF (setF (fun _=>none) sX (some lb)) sY (some []) sY=some (some []):=setF_same _ _ _
 have hfz:fateS (hasN ns) [⟨false,sX,lb⟩,⟨false,sY,[]⟩,⟨true,sY,[]⟩] (fun _=>none) = .inr (setF (setF (setF (fun _=>none) sX (some lb)) sY (some [])) sY none):=by
  simp [fateS,okX,okY,hl,e0]
 rw [hfz] at h
 obtain ⟨fs,hfs⟩:∃ fs,fs=setF (setF (setF (fun _=>none) sX (some lb)) sY (some [])) sY none:=⟨_,rfl⟩
 rw [←hfs] at h
 have fx:fs sX=some (some lb):=by rw [hfs,setF_ne _ _ sXY,setF_ne _ _ sXY,setF_same]
 have fy:fs sY=some none:=by rw [hfs];exact setF_same _ _ _
 have fo:∀ t,t≠sX→t≠sY→fs t=none:=fun t h1 h2=>by rw [hfs,setF_ne _ _ h2,setF_ne _ _ h2,setF_ne _ _ h1]
 have hkeys:KeysF fs [sX,sY]:=⟨by simp [sXY],fun t=>by
  by_cases e:t=sX
  ·subst e;rw [fx];simp
  ·by_cases e2:t=sY
   ·subst e2;rw [fy];simp
   ·rw [fo t e e2];simp [e,e2],List.Pairwise.cons (fun a ha=>by rw [List.mem_singleton.1 ha];decide) (List.pairwise_singleton _ _)⟩
 obtain ⟨ks,hk,h⟩:=h
 obtain rfl:=hk.one hkeys
 have hn:needN la≤10∧needN lb≤10:=by unfold needN;omega
 have sy:=hx.no sXY.symm
 obtain ⟨ix,hix⟩:∃ ix,slotO (nvOf ns) sX=some ix:=by
  have:=(hx.keys sX).1 (by simp)
  cases hs:slotO (nvOf ns) sX with
  | none=>exact absurd hs this
  | some i=>exact ⟨i,rfl⟩
 have hroom:RoomFor (nvOf ns) fs [sX,sY] (usL ns) (leftN s ns):=by
  have w1:wantL fs [sX,sY]=needN lb:=by simp [wantL,wantF,fx,fy]
  have w2:newC (nvOf ns) fs [sX,sY]=0:=by simp [newC,fx,fy,hix]
  have w3:putC fs [sX,sY]=1:=by simp [putC,fx,fy]
  have w4:dropC (nvOf ns) fs [sX,sY]=0:=by simp [dropC,fx,fy,sy]
  exact ⟨by omega,by omega,by omega⟩
 rcases h with ⟨h1,_⟩ | ⟨_,h1,h2,h3,h4⟩
 ·exact absurd hroom h1
 refine ⟨h1,hm',hmm,fun t=>?_,h3 sX lb fx⟩
 rw [h2 t]
 by_cases e:t=sX
 ·subst e;rw [fx,if_pos rfl]
 ·rw [if_neg e]
  by_cases e2:t=sY
  ·subst e2;rw [fy]
  ·rw [fo t e e2]
   show viewN s ns t=none
   rw [hx.view t,if_neg e]
theorem again3 {s s':Dk} {ns ns':List Nd} {r m:Nat} {l:List Nat} (hx:OnlyX s ns m l) (h:DoL (fateS (hasN ns) [⟨true,sY,[]⟩] (fun _=>none)) s ns m r s' ns'):r=7∧s'=s∧ns'=ns:=by
 have hh:hasN ns sY=false:=by unfold hasN;rw [hx.no sXY.symm];rfl
 have hfz:fateS (hasN ns) [⟨true,sY,[]⟩] (fun _=>none) = .inl 7:=by simp [fateS,hh]
 rw [hfz] at h
 exact h
theorem again4 {s s':Dk} {ns ns':List Nd} {r m:Nat} (h:DoL (fateS (hasN ns) [⟨false,sAsB,[]⟩] (fun _=>none)) s ns m r s' ns'):r=1∧s'=s∧ns'=ns:=by
 have hfz:fateS (hasN ns) [⟨false,sAsB,[]⟩] (fun _=>none) = .inl 1:=by simp [fateS,noAsB]
 rw [hfz] at h
 exact h
end Go.Proofs.YtnedpkhehiijhaaGreat
namespace Go.Proofs.YtnedpkhehiijhaaGreat
open Go.RowKit
set_option linter.unusedVariables false
set_option linter.unusedSimpArgs false
attribute [local go_sem ↓] Go.wp_at_zero Go.wp_at_succ
theorem rdOp_holds {W:World} {g:Nat} {L:List OpA} {cells:Array Value} (hc:cells=(L.flatMap opCells).toArray) (h:Holds W g 58 cells) (hl:L.length≤1000) (hr:∀ o∈L,Rd .u8 W W.heap.size o.da o.dc o.d∧o.name.size≤9223372036854775807):RdOp W W.heap.size (some ⟨g,0,none⟩) L.length L:=by
 refine ⟨Nat.le_refl _,by omega,hr,fun _=>⟨_,_,rfl,h.lt,fun j hj=>?_⟩⟩
 have k:∀ t,t<3→W.cell? ⟨g,0+j*3+t,none⟩=(opCells L[j])[t]?:=fun t ht=>by
  rw [h.cell,hc,List.getElem?_toArray,show 0+j*3+t=3*j+t by omega]
  exact flat_at (f:=opCells) (m:=3) (L:=L) (fun _ _=>rfl) (List.getElem?_eq_getElem hj) ht
 exact ⟨k 0 (by omega),k 1 (by omega),k 2 (by omega)⟩
section
variable {w w5:World} {F:Nat→Prop} {gf gd:Nat} {s:Dk} {ns:List Nd} {m k:Nat}
/-- Do, of a row that is written out. -/
theorem do_lit (h:Fsy w5 F gf gd s ns) (hr:Ready s m k) (hk:k≤60) (L:List OpA) (n:Nat) (hn:n=L.length) (cells:Array Value) (hc:cells=(L.flatMap opCells).toArray) (hl:L.length≤500) (hrd:∀ o∈L,Rd .u8 w5 w5.heap.size o.da o.dc o.d∧o.name.size≤9223372036854775807) (hoc:∀ o∈L,Oct1 o.d) (g:Nat) (hg:g=w5.heap.size) :
  Calls Tryz.prog 13 #[.pointer (some ⟨gf,0,none⟩),.slice (some ⟨g,0,none⟩) n n] (w5.alloc (.cells cells 58)) fun e w'=>∃ (r:Nat) (F':Nat→Prop) (s':Dk) (ns':List Nd),e = .returned (.int .i64 (r:Int))∧Fsy w' F' gf gd s' ns'∧Ready s' m (k+1)∧Only (fun k=>F k∨k=gf) w5 w'∧(∀ k,F' k→F k∨w5.heap.size≤k)∧DoL (fateS (hasN ns) (L.map OpA.v) (fun _=>none)) s ns m r s' ns':=by
 subst hn hg
 obtain ⟨w6,hw6⟩:∃ W,W=w5.alloc (.cells cells 58):=⟨_,rfl⟩
 have hb:Below w5.heap.size w5 w6:=by rw [hw6];exact (Below.refl _ _).alloc (Nat.le_refl _) _
 have hh:Holds w6 w5.heap.size 58 cells:=by rw [hw6];exact Holds.fresh _ _ _
 rw [←hw6]
 refine (do_law (h.under hb) hr hk _ _ _ L rfl (rdOp_holds hc hh (by omega) fun o ho=>⟨((hrd o ho).1.under hb).more hb.size,(hrd o ho).2⟩) (by omega) hoc).mono fun e w' hq=>?_
 obtain ⟨r,F',s',ns',a1,a2,a3,a4,a5,a6⟩:=hq
 exact ⟨r,F',s',ns',a1,a2,a3,(Only.of_below (F:=fun k=>F k∨k=gf) hb).trans a4 fun _ _ h=>h,fun k hk=>(a5 k hk).imp id fun h=>Nat.le_trans hb.size h,a6⟩
end
def zeros (n:Nat):List Nat:=List.replicate n 0
theorem zeros_oct (n:Nat):Oct1 (zeros n):=fun x hx=>by rw [List.eq_of_mem_replicate hx];decide
theorem make_zeros (n:Nat) (h2:n≤2000) (W:World):(Instr.makeSlice 44 (.int .i64 (n:Int)) (.int .i64 (n:Int))).run Tryz.prog W = .ok (.slice (some ⟨W.heap.size,0,none⟩) n n) (W.alloc (.cells (nums .u8 (zeros n)) 5)):=by
 obtain ⟨i,hi,hz,hsize,hbytes⟩:=info_parts info_u8
 have h:=run_make (P:=Tryz.prog) W 44 5 i (.int .u8 0) Tryz.underlying44 hi hz .i64 .i64 n n (by omega) (Int.le_refl _) (by rw [hbytes];omega) (by omega)
 rw [h,hsize,Int.toNat_natCast]
 have e:(madeCells (Value.int .u8 0).cells (n*1))=nums .u8 (zeros n):=by rw [Nat.mul_one];exact (nums_noughts .u8 n).symm
 rw [e]
theorem conv_zeros (n:Nat) (h2:n≤2000) (W:World):(convert 44 9 (.slice (some ⟨W.heap.size,0,none⟩) n n)).run Tryz.prog (W.alloc (.cells (nums .u8 (zeros n)) 5)) = .ok (.string (str (zeros n))) (W.alloc (.cells (nums .u8 (zeros n)) 5)):=by
 have hh:=Holds.fresh W 5 (nums .u8 (zeros n))
 refine conv_str (B:=(W.alloc (.cells (nums .u8 (zeros n)) 5)).heap.size) ⟨by simp [zeros],by omega,fun _=>⟨_,_,rfl,hh.lt,fun j hj=>?_⟩⟩ (by simp [zeros]) (zeros_oct n)
 have hj:j<n:=by simpa [zeros] using hj
 rw [hh.cell,Nat.zero_add]
 simp [nums,zeros,List.getD,hj]
set_option maxRecDepth 100000 in
set_option maxHeartbeats 2000000 in
theorem law_again (w:World) (a b p:Int) :
  Calls Tryz.prog 8 #[.int .i64 a,.int .i64 b,.int .i64 p] w fun e w'=>e = .returned (.bool true)∧Below w.heap.size w w':=by
 by_cases hg:a<0∨600<a∨b<0∨600<b∨p<61∨100<p
 case pos =>
  have end_:∀ (v:Bool),v=true→Ending.returned (Value.bool v)=Ending.returned (Value.bool true):=fun v h=>by rw [h]
  go_enter Tryz.func8,Tryz.ntmps8
  by_cases h1:a<0
  ·have d1:decide (a<0)=true:=decide_eq_true h1
   go_wp2_with fail
   go_ret
   exact ⟨rfl,Below.refl _ _⟩
  have d1:decide (a<0)=false:=decide_eq_false h1
  by_cases h2:600<a
  ·have d2:decide (600<a)=true:=decide_eq_true h2
   go_wp2_with fail
   go_ret
   exact ⟨rfl,Below.refl _ _⟩
  have d2:decide (600<a)=false:=decide_eq_false h2
  by_cases h3:b<0
  ·have d3:decide (b<0)=true:=decide_eq_true h3
   go_wp2_with fail
   go_ret
   exact ⟨rfl,Below.refl _ _⟩
  have d3:decide (b<0)=false:=decide_eq_false h3
  by_cases h4:600<b
  ·have d4:decide (600<b)=true:=decide_eq_true h4
   go_wp2_with fail
   go_ret
   exact ⟨rfl,Below.refl _ _⟩
  have d4:decide (600<b)=false:=decide_eq_false h4
  by_cases h5:p<61
  ·have d5:decide (p<61)=true:=decide_eq_true h5
   go_wp2_with fail
   go_ret
   exact ⟨rfl,Below.refl _ _⟩
  have d5:decide (p<61)=false:=decide_eq_false h5
  have h6:100<p:=by omega
  have d6:decide (100<p)=true:=decide_eq_true h6
  go_wp2_with fail
  go_ret
  exact ⟨rfl,Below.refl _ _⟩
 case neg =>
  obtain ⟨na,rfl⟩:=Int.eq_ofNat_of_zero_le (show 0≤a by omega)
  obtain ⟨nb,rfl⟩:=Int.eq_ofNat_of_zero_le (show 0≤b by omega)
  obtain ⟨m,rfl⟩:=Int.eq_ofNat_of_zero_le (show 0≤p by omega)
  have d1:decide ((na:Int)<0)=false:=decide_eq_false (by omega)
  have d2:decide (600<(na:Int))=false:=decide_eq_false (by omega)
  have d3:decide ((nb:Int)<0)=false:=decide_eq_false (by omega)
  have d4:decide (600<(nb:Int))=false:=decide_eq_false (by omega)
  have d5:decide ((m:Int)<61)=false:=decide_eq_false (by omega)
  have d6:decide (100<(m:Int))=false:=decide_eq_false (by omega)
  have HG:Hid (na≤600∧nb≤600∧61≤m∧m≤100):=Lib.hid (by omega)
  have HD:=Lib.hid (disk5_any w m (by omega) (by omega))
  clear hg
  go_enter Tryz.func8,Tryz.ntmps8
  go_wp2_with fail
  refine HD.out.mono ?_
  rintro e w1 ⟨gd,gx,rfl,hd1,hb1⟩
  have hr1:=(fmtD_facts (m:=m) (by have:=HG.out;omega) (by have:=HG.out;omega)).1
  have hm1:=mounts_fmt (m:=m) (by have:=HG.out;omega) (by have:=HG.out;omega)
  have HM:=Lib.hid (mount_law hd1 hr1 (by omega) hm1)
  have HB1:=Lib.hid hb1
  have HR1:=Lib.hid hr1
  clear hd1 hr1 hm1 hb1 HD
  go_wp2_with fail
  refine HM.out.mono ?_
  rintro e w2 ⟨gf,F2,ns,rfl,hf2,hF2,hg2,ho2⟩
  have HF2:=Lib.hid hf2
  have HB2:Hid (Below w.heap.size w w2):=Lib.hid (HB1.out.trans (ho2.below (fun k hk=>hk.1) HB1.out.size))
  have HFB:Hid (∀ k,F2 k∨k=gf→w.heap.size≤k):=Lib.hid fun k hk=>by
   have:=HB1.out.size
   rcases hk with hk | hk
   ·rcases hF2 k hk with h | h
    ·exact h.1
    ·omega
   ·omega
  clear hf2 hF2 hg2 ho2 HM
  have mk1:=make_zeros na (by have:=HG.out;omega) w2
  have cv1:=conv_zeros na (by have:=HG.out;omega) w2
  obtain ⟨za,hza⟩:∃ z,z=str (zeros na):=⟨_,rfl⟩
  rw [←hza] at cv1
  have HZA:=Lib.hid hza
  obtain ⟨w3,hw3⟩:∃ W,W=w2.alloc (.cells (nums .u8 (zeros na)) 5):=⟨_,rfl⟩
  rw [←hw3] at mk1 cv1
  have HB3:Hid (Below w2.heap.size w2 w3):=Lib.hid (by rw [hw3];exact (Below.refl _ _).alloc (Nat.le_refl _) _)
  have HP:=Lib.hid fun W (x y:ByteArray) (l:List Nat) (hx:x=sX) (hy:y=str l) (hl:l.length≤100000) (ho:Oct1 l)=>(by subst hx hy;exact put5_any W sX l ho hl:Calls Tryz.prog 27 #[.string x,.string y] W (PutPst W sX l))
  clear hza hw3
  go_wp2_with fail
  refine (HP.out w3 _ _ (zeros na) rfl HZA.out (by have:=HG.out;simp [zeros];omega) (zeros_oct na)).mono ?_
  rintro e w4 ⟨o1,rfl,ho1,hr1,hb4⟩
  unfold opAgg
  have HO1:=Lib.hid (And.intro ho1 hr1)
  have HB4:=Lib.hid hb4
  clear ho1 hr1 hb4 mk1 cv1
  go_wp2_with fail
  have HB24:Hid (Below w2.heap.size w2 w4):=Lib.hid (HB3.out.trans (HB4.out.mono HB3.out.size))
  have hv1:[o1].map OpA.v=[⟨false,sX,zeros na⟩]:=by rw [List.map_cons,List.map_nil,HO1.out.1]
  refine (do_lit (HF2.out.under HB24.out) HR1.out (by omega) [o1] 1 rfl _ rfl (by show 1≤500;omega) (fun o ho=>by
   rw [List.mem_singleton.1 ho]
   exact ⟨HO1.out.2,by rw [show o1.name=sX from congrArg (fun q=>q.name) HO1.out.1];decide⟩) (fun o ho=>by
   rw [List.mem_singleton.1 ho,show o1.d=zeros na from congrArg (fun q=>q.data) HO1.out.1]
   exact zeros_oct na) _ rfl).mono ?_
  rintro e w5 ⟨r,F3,s3,ns3,rfl,hf3,hr3,ho3,hF3,hdo⟩
  rw [hv1] at hdo
  obtain ⟨rfl,hx3⟩:=again1 (by have:=HG.out;omega) (by have:=HG.out;omega) (by have:=HG.out;simp [zeros];omega) HF2.out.mt hf3.mt hr3.many hdo
  have HF3:=Lib.hid hf3
  have HR3:=Lib.hid hr3
  have HX3:=Lib.hid hx3
  have HB25:Hid (Below w.heap.size w w5):=Lib.hid (((HB2.out.trans (HB24.out.mono HB2.out.size)).trans (ho3.below HFB.out (Nat.le_trans HB2.out.size HB24.out.size))))
  have HFB3:Hid (∀ k,F3 k∨k=gf→w.heap.size≤k):=Lib.hid fun k hk=>by
   have h1:=HB2.out.size
   have h2:=HB24.out.size
   rcases hk with hk | hk
   ·rcases hF3 k hk with h | h
    ·exact HFB.out k (.inl h)
    ·omega
   ·exact HFB.out k (.inr hk)
  clear hf3 hr3 ho3 hF3 hdo hx3 hv1
  have hleft:=left_any HF3.out
  rw [HX3.out.left] at hleft
  have HLT:=Lib.hid hleft
  clear hleft
  go_wp2_with fail
  refine HLT.out.mono ?_
  rintro e w6 ⟨rfl,hb6⟩
  have HB6:=Lib.hid hb6
  clear hb6 HLT
  have mk2:=make_zeros nb (by have:=HG.out;omega) w6
  have cv2:=conv_zeros nb (by have:=HG.out;omega) w6
  obtain ⟨zb,hzb⟩:∃ z,z=str (zeros nb):=⟨_,rfl⟩
  rw [←hzb] at cv2
  have HZB:=Lib.hid hzb
  obtain ⟨w7,hw7⟩:∃ W,W=w6.alloc (.cells (nums .u8 (zeros nb)) 5):=⟨_,rfl⟩
  rw [←hw7] at mk2 cv2
  have HB7:Hid (Below w6.heap.size w6 w7):=Lib.hid (by rw [hw7];exact (Below.refl _ _).alloc (Nat.le_refl _) _)
  clear hzb hw7
  go_wp2_with fail
  refine (HP.out w7 _ _ (zeros nb) rfl HZB.out (by have:=HG.out;simp [zeros];omega) (zeros_oct nb)).mono ?_
  rintro e w8 ⟨o2,rfl,ho2,hr2,hb8⟩
  unfold opAgg
  have HO2:=Lib.hid (And.intro ho2 hr2)
  have HB8:=Lib.hid hb8
  clear ho2 hr2 hb8 mk2 cv2
  have HPY:=Lib.hid fun W (x y:ByteArray) (hx:x=sY) (hy:y=str [])=>(by subst hx hy;exact put5_any W sY [] (fun x hx=>nomatch hx) (by decide):Calls Tryz.prog 27 #[.string x,.string y] W (PutPst W sY []))
  have HPA:=Lib.hid fun W (x y:ByteArray) (hx:x=sAsB) (hy:y=str [])=>(by subst hx hy;exact put5_any W sAsB [] (fun x hx=>nomatch hx) (by decide):Calls Tryz.prog 27 #[.string x,.string y] W (PutPst W sAsB []))
  go_wp2_with fail
  refine (HPY.out w8 _ _ rfl (by decide +kernel)).mono ?_
  rintro e w9 ⟨o3,rfl,ho3,hr3,hb9⟩
  unfold opAgg
  have HO3:=Lib.hid (And.intro ho3 hr3)
  have HB9:=Lib.hid hb9
  clear ho3 hr3 hb9
  go_wp2_with fail
  refine (drop5_any w9 sY).mono ?_
  rintro e w10 ⟨o4,rfl,ho4,hr4,hb10⟩
  unfold opAgg
  have HO4:=Lib.hid (And.intro ho4 hr4)
  have HB10:=Lib.hid hb10
  clear ho4 hr4 hb10
  have s67:=HB7.out.size
  have s78:=HB8.out.size
  have s89:=HB9.out.size
  have s910:=HB10.out.size
  have s56:=HB6.out.size
  have HB510:Hid (Below w5.heap.size w5 w10):=Lib.hid ((((HB6.out.trans (HB7.out.mono s56)).trans (HB8.out.mono (by omega))).trans (HB9.out.mono (by omega))).trans (HB10.out.mono (by omega)))
  have hv2:[o2,o3,o4].map OpA.v=[⟨false,sX,zeros nb⟩,⟨false,sY,[]⟩,⟨true,sY,[]⟩]:=by rw [List.map_cons,List.map_cons,List.map_cons,List.map_nil,HO2.out.1,HO3.out.1,HO4.out.1]
  have HV2:=Lib.hid hv2
  clear s67 s78 s89 s910 s56 hv2
  go_wp2_with fail
  refine (do_lit (HF3.out.under HB510.out) HR3.out (by omega) [o2,o3,o4] 3 rfl _ rfl (by show 3≤500;omega) (fun o ho=>by
   simp only [List.mem_cons,List.not_mem_nil,or_false] at ho
   have s89:=HB9.out.size
   have s910:=HB10.out.size
   rcases ho with rfl | rfl | rfl
   ·exact ⟨((HO2.out.2.under HB9.out).under (HB10.out.mono s89)).more (by omega),by rw [show o.name=sX from congrArg (fun q=>q.name) HO2.out.1];decide⟩
   ·exact ⟨(HO3.out.2.under HB10.out).more s910,by rw [show o.name=sY from congrArg (fun q=>q.name) HO3.out.1];decide⟩
   ·exact ⟨HO4.out.2,by rw [show o.name=sY from congrArg (fun q=>q.name) HO4.out.1];decide⟩) (fun o ho=>by
   simp only [List.mem_cons,List.not_mem_nil,or_false] at ho
   rcases ho with rfl | rfl | rfl
   ·rw [show o.d=zeros nb from congrArg (fun q=>q.data) HO2.out.1];exact zeros_oct nb
   ·rw [show o.d=[] from congrArg (fun q=>q.data) HO3.out.1];exact fun x hx=>nomatch hx
   ·rw [show o.d=[] from congrArg (fun q=>q.data) HO4.out.1];exact fun x hx=>nomatch hx) _ rfl).mono ?_
  rintro e w11 ⟨r,F4,s4,ns4,rfl,hf4,hr4,ho4,hF4,hdo⟩
  rw [HV2.out] at hdo
  obtain ⟨rfl,hx4⟩:=again2 (by have:=HG.out;omega) (by have:=HG.out;simp [zeros];omega) (by have:=HG.out;simp [zeros];omega) HX3.out hf4.mt hr4.many hdo
  have HF4:=Lib.hid hf4
  have HR4:=Lib.hid hr4
  have HX4:=Lib.hid hx4
  have HB11:Hid (Below w.heap.size w w11):=Lib.hid (((HB25.out.trans (HB510.out.mono HB25.out.size)).trans (ho4.below HFB3.out (Nat.le_trans HB25.out.size HB510.out.size))))
  have HFB4:Hid (∀ k,F4 k∨k=gf→w.heap.size≤k):=Lib.hid fun k hk=>by
   have h1:=HB25.out.size
   have h2:=HB510.out.size
   rcases hk with hk | hk
   ·rcases hF4 k hk with h | h
    ·exact HFB3.out k (.inl h)
    ·omega
   ·exact HFB3.out k (.inr hk)
  clear hf4 hr4 ho4 hF4 hdo hx4
  have hget:=get_fs HF4.out sX
  rw [HX4.out.view sX,if_pos rfl] at hget
  have HGT:=Lib.hid fun (x:ByteArray) (hx:x=sX)=>(by subst hx;exact hget:Calls Tryz.prog 19 #[.pointer (some ⟨gf,0,none⟩),.string x] w11 (GetP w11 (some (zeros nb))))
  clear hget
  go_wp2_with fail
  refine (HGT.out _ rfl).mono ?_
  rintro e w12 ⟨hb12,Ag,cg,rfl,hrg,_⟩
  have HB12:=Lib.hid hb12
  have hzl:(zeros nb).length=nb:=by simp [zeros]
  rw [hzl]
  clear hb12 hrg hzl HGT
  have hw:∀ n:Nat,n≤600→wrap64 (wrap64 ((m:Int) - 40) - wrap64 ((wrap64 ((n:Int)+63)).tdiv 64))=((m - 40 - needN (zeros n):Nat):Int):=fun n hn=>by
   have hm:=HG.out
   have e1:wrap64 ((n:Int)+63)=(n:Int)+63:=by unfold wrap64;omega
   have e2:((n:Int)+63).tdiv 64=((n:Int)+63) / 64:=Int.tdiv_eq_ediv_of_nonneg (by omega)
   have e3:needN (zeros n)=(n+63) / 64:=by simp [needN,zeros]
   rw [e1,e2,e3]
   unfold wrap64
   omega
  have hw1:=hw na (by have:=HG.out;omega)
  have hw2:=hw nb (by have:=HG.out;omega)
  have hleft:=left_any (HF4.out.under HB12.out)
  rw [HX4.out.left] at hleft
  have HLT:=Lib.hid hleft
  generalize m - 40 - needN (zeros na)=q1 at *
  generalize m - 40 - needN (zeros nb)=q2 at *
  clear hleft hw
  go_wp2_with fail
  refine HLT.out.mono ?_
  rintro e w13 ⟨rfl,hb13⟩
  have HB13:=Lib.hid hb13
  clear hb13 HLT
  go_wp2_with fail
  refine (drop5_any w13 sY).mono ?_
  rintro e w14 ⟨o5,rfl,ho5,hr5,hb14⟩
  unfold opAgg
  have HO5:=Lib.hid (And.intro ho5 hr5)
  have HB14:=Lib.hid hb14
  clear ho5 hr5 hb14
  have HB1114:Hid (Below w11.heap.size w11 w14):=Lib.hid ((HB12.out.trans (HB13.out.mono HB12.out.size)).trans (HB14.out.mono (Nat.le_trans HB12.out.size HB13.out.size)))
  have HV5:Hid ([o5].map OpA.v=[⟨true,sY,[]⟩]):=Lib.hid (by rw [List.map_cons,List.map_nil,HO5.out.1])
  go_wp2_with fail
  refine (do_lit (HF4.out.under HB1114.out) HR4.out (by omega) [o5] 1 rfl _ rfl (by show 1≤500;omega) (fun o ho=>by
   rw [List.mem_singleton.1 ho]
   exact ⟨HO5.out.2,by rw [show o5.name=sY from congrArg (fun q=>q.name) HO5.out.1];decide⟩) (fun o ho=>by
   rw [List.mem_singleton.1 ho,show o5.d=[] from congrArg (fun q=>q.data) HO5.out.1]
   exact fun x hx=>nomatch hx) _ rfl).mono ?_
  rintro e w15 ⟨r,F5,s5,ns5,rfl,hf5,hr5,ho5,hF5,hdo⟩
  rw [HV5.out] at hdo
  obtain ⟨rfl,rfl,rfl⟩:=again3 HX4.out hdo
  have HF5:=Lib.hid hf5
  have HR5:=Lib.hid hr5
  have HB15:Hid (Below w.heap.size w w15):=Lib.hid (((HB11.out.trans (HB1114.out.mono HB11.out.size)).trans (ho5.below HFB4.out (Nat.le_trans HB11.out.size HB1114.out.size))))
  have HFB5:Hid (∀ k,F5 k∨k=gf→w.heap.size≤k):=Lib.hid fun k hk=>by
   have h1:=HB11.out.size
   have h2:=HB1114.out.size
   rcases hk with hk | hk
   ·rcases hF5 k hk with h | h
    ·exact HFB4.out k (.inl h)
    ·omega
   ·exact HFB4.out k (.inr hk)
  clear hf5 hr5 ho5 hF5 hdo
  go_wp2_with fail
  refine (HPA.out w15 _ _ rfl (by decide +kernel)).mono ?_
  rintro e w16 ⟨o6,rfl,ho6,hr6,hb16⟩
  unfold opAgg
  have HO6:=Lib.hid (And.intro ho6 hr6)
  have HB16:=Lib.hid hb16
  have HV6:Hid ([o6].map OpA.v=[⟨false,sAsB,[]⟩]):=Lib.hid (by rw [List.map_cons,List.map_nil,HO6.out.1])
  clear ho6 hr6 hb16
  go_wp2_with fail
  refine (do_lit (HF5.out.under HB16.out) HR5.out (by omega) [o6] 1 rfl _ rfl (by show 1≤500;omega) (fun o ho=>by
   rw [List.mem_singleton.1 ho]
   exact ⟨HO6.out.2,by rw [show o6.name=sAsB from congrArg (fun q=>q.name) HO6.out.1];decide⟩) (fun o ho=>by
   rw [List.mem_singleton.1 ho,show o6.d=[] from congrArg (fun q=>q.data) HO6.out.1]
   exact fun x hx=>nomatch hx) _ rfl).mono ?_
  rintro e w17 ⟨r,F6,s6,ns6,rfl,hf6,hr6,ho6,hF6,hdo⟩
  rw [HV6.out] at hdo
  obtain ⟨rfl,rfl,rfl⟩:=again4 hdo
  have HB17:Hid (Below w.heap.size w w17):=Lib.hid (((HB15.out.trans (HB16.out.mono HB15.out.size)).trans (ho6.below HFB5.out (Nat.le_trans HB15.out.size HB16.out.size))))
  clear hf6 hr6 ho6 hF6 hdo
  have HKN:=Lib.hid (known5_any w17)
  go_wp2_with fail
  refine HKN.out.mono ?_
  rintro e w18 ⟨rfl,hb18⟩
  go_wp2_with fail
  go_ret
  exact ⟨rfl,HB17.out.trans (hb18.mono HB17.out.size)⟩
end Go.Proofs.YtnedpkhehiijhaaGreat
