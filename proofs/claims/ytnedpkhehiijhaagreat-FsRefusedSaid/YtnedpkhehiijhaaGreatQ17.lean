/- Words and laws for the statement, part 17. -/
import Derived.Lib.SmallJoins
import Derived.OpenShut
import Derived.ChangeSlices
import Derived.ChangeArms
import Derived.WideShapes
import Derived.Deep.Matrix
import Derived.Deep.Slices
import Derived.Test.YtnedpkhehiijhaaGreatQ01
import Derived.Test.YtnedpkhehiijhaaGreatQ11
import Derived.Test.YtnedpkhehiijhaaGreatQ16
namespace Go.Proofs.YtnedpkhehiijhaaGreat
open Go.RowKit
set_option linter.unusedVariables false
set_option linter.unusedSimpArgs false
section
variable {w w':World} {F F':Nat→Prop} {gf gd:Nat} {s:Dk} {ns ns':List Nd} {m k:Nat}
theorem FsAt.off (h:FsAt w gf gd ns) (hs:w.heap.size≤w'.heap.size) (hk:∀ g,¬ F g→g<w.heap.size→w'.heap[g]?=w.heap[g]?) (hf:¬ F gf) (hn:∀ d∈ns,0<d.pl.length→∀ g,blockOf d.pa=some g→¬ F g):FsAt w' gf gd ns:=by
 refine ⟨h.n40,?_,fun d hd=>?_⟩
 ·exact (hk gf hf h.hd.lt).trans h.hd
 ·exact ((h.rd d hd).onB fun h0 g hg hlt=>hk g (hn d hd h0 g hg) hlt).more hs
theorem Fsy.disk (h:Fsy w F gf gd s ns) (ho:Only F w w') (hd:Disk w' F' gd s) (hF:∀ k,F' k→F k∨w.heap.size≤k):Fsy w' F' gf gd s ns:=by
 have hlt:=h.fs.hd.lt
 refine ⟨hd,h.fs.off ho.size (fun g hg hl=>ho.block g hl hg) h.nf (fun d hd h0 g hg=>(h.nd d hd h0 g hg).1),fun hh=>?_,fun d hm h0 g hg=>⟨fun hh=>?_,(h.nd d hm h0 g hg).2⟩,h.mt⟩
 ·rcases hF _ hh with e | e
  ·exact h.nf e
  ·omega
 ·rcases hF _ hh with e | e
  ·exact (h.nd d hm h0 g hg).1 e
  ·have:=(h.fs.rd d hm).block_lt h0 hg
   omega
theorem mount_law (h:Disk w F gd s) (hr:Ready s m k) (hk:k≤60) {n0:List Nd} (hm:Mounts s n0) :
  Calls Tryz.prog 10 #[.pointer (some ⟨gd,0,none⟩)] w fun e w'=>∃ gf F' ns,e = .returned (.tuple #[.pointer (some ⟨gf,0,none⟩),.int .i64 0])∧Fsy w' F' gf gd s ns∧(∀ k,F' k→F k∨w.heap.size≤k)∧w.heap.size≤gf∧Only F w w':=by
 have hw:=hr.wt
 have ho:=hr.op
 have hoc:∀ i:Int,Oct1 (s.read i):=fun i=>hr.oct.read hr.snd i
 refine (mount_any h.low (fun i=>hoc i) (by rw [hr.open_];exact hoc) (by omega) (by omega)).mono fun e w' hq=>?_
 unfold MountP at hq
 rw [hr.open_] at hq
 rcases hq with ⟨h1,_⟩ | ⟨_,B,b1,b2,b3,b4,hq⟩
 ·exact absurd rfl h1
 ·rcases hq with ⟨_,h2⟩ | ⟨gf,ns,rfl,c1,c2,c3,c4⟩
  ·exact absurd hm (h2 n0)
  ·have nF:∀ g,B≤g→g<w'.heap.size→¬ ((F g∧g<w.heap.size)∨(w.heap.size≤g∧g<B)):=fun g h1 h2 hh=>by rcases hh with hh | hh <;> omega
   refine ⟨gf,fun k=>(F k∧k<w.heap.size)∨(w.heap.size≤k∧k<B),ns,rfl,⟨?_,c1,nF gf c2 c1.hd.lt,fun d hd h0 g hg=>⟨nF g (c3 d hd g hg).1 ((c1.rd d hd).block_lt h0 hg),(c3 d hd g hg).2⟩,c4⟩,fun k hk=>by rcases hk with hk | hk;exact .inl hk.1;exact .inr hk.1,by omega,b4.more fun k _ hk=>hk.1⟩
   exact b3
end
/-! Nothing is there. -/
def nsZ:List Nd:=List.replicate 40 zNd
theorem nvZ {i:Nat} (hi:i<40):nvOf nsZ i=zV:=by
 unfold nvOf nsZ
 rw [List.getD,List.getElem?_replicate,if_pos hi]
 rfl
theorem mounts_fmt {m:Nat} (h1:41≤m) (h2:m≤700):Mounts (fmtD m) nsZ:=by
 obtain ⟨hr,h0⟩:=fmtD_facts h1 h2
 have hm:=hr.many
 refine ⟨by simp [nsZ],by omega,fun i hi=>?_,?_⟩
 ·rw [h0 i (by omega)]
  refine NdOf.free ?_
  exact nvZ hi
 ·rw [hm]
  have un:∀ i,i<40→usedV (nvOf nsZ i)=true→False:=fun i hi hu=>by rw [nvZ hi,zV_not] at hu;cases hu
  exact NvOk.roomOk ⟨fun i hi hu=>(un i hi hu).elim,fun i hi hu=>(un i hi hu).elim,fun i j hi hj hij hu=>(un i hi hu).elim,fun i j hi hj hij hu=>(un i hi hu).elim,fun i hi hu=>nvZ hi⟩ (by simp [nsZ]) (by omega)
/-- What is mounted of a disk that was just formatted: nothing. -/
theorem empty_nv {m:Nat} (h1:41≤m) (h2:m≤700) {ns:List Nd} (h:Mounts (fmtD m) ns) {i:Nat} (hi:i<40):nvOf ns i=zV:=by
 have:=(mounts_fmt h1 h2).one h.n40 h.rd
 have e:(nsZ.map Nd.v).getD i default=(ns.map Nd.v).getD i default:=by rw [this]
 rw [vd,vd] at e
 exact e.symm.trans (nvZ hi)
theorem empty_slot {nv:Nat→V3} (h:∀ i,i<40→nv i=zV) (t:ByteArray):slotO nv t=none:=by
 cases hs:slotO nv t with
 | none=>rfl
 | some i =>
  obtain ⟨a,b,c⟩:=slotO_some hs
  rw [h i a,zV_not] at b
  cases b
theorem empty_left {s:Dk} {ns:List Nd} (hm:Mounts s ns) (h:∀ i,i<40→nvOf ns i=zV):leftN s ns=s.many - 40:=by
 have:=left_len hm
 have e:(allP (nvOf ns)).length=(([]:List ByteArray).map (placeN (nvOf ns))).sum:=allP_len hm.nvOk List.nodup_nil fun t=>by rw [empty_slot h t];simp
 rw [List.map_nil,List.sum_nil] at e
 omega
theorem usL_free {s:Dk} {ns:List Nd} (hm:Mounts s ns) {K:List ByteArray} (hK:K.Nodup) (hk:∀ t,t∈K↔slotO (nvOf ns) t≠none):(usL ns).count false=40 - K.length:=by
 have h1:=usL_count ns
 have h2:=used_len hm.nvOk hK hk
 omega
theorem left_of {s:Dk} {ns:List Nd} (hm:Mounts s ns) {K:List ByteArray} (hK:K.Nodup) (hk:∀ t,t∈K↔slotO (nvOf ns) t≠none):leftN s ns=s.many - 40 - (K.map (placeN (nvOf ns))).sum:=by
 have h1:=left_len hm
 have h2:=allP_len hm.nvOk hK hk
 omega
theorem view_none {s:Dk} {ns:List Nd} {t:ByteArray}:slotO (nvOf ns) t≠none↔viewN s ns t≠none:=by
 unfold viewN
 cases slotO (nvOf ns) t <;> simp
end Go.Proofs.YtnedpkhehiijhaaGreat
namespace Go.Proofs.YtnedpkhehiijhaaGreat
open Go.RowKit
set_option linter.unusedVariables false
set_option linter.unusedSimpArgs false
attribute [local go_sem ↓] Go.wp_at_zero Go.wp_at_succ
def RelSF (w:World) (La Lb:List Fi) (n:Nat) (i:Value) (wr:World):Prop :=
 ∃ j:Nat,j≤n∧i = .int .i64 (j:Int)∧Below w.heap.size w wr∧∀ t,t<j→(La.getD t default).v=(Lb.getD t default).v
theorem strs_eq {l l':List Nat} (ho:Oct1 l) (ho':Oct1 l'):((str l).toList == (str l').toList)=decide (l=l'):=by
 by_cases h:l=l'
 ·subst h
  rw [decide_eq_true rfl]
  exact beq_self_eq_true _
 ·rw [decide_eq_false h,beq_eq_false_iff_ne]
  intro e
  exact h (str_inj ho ho' (bytes_inj e))
theorem names_eq (a b:ByteArray):(a.toList == b.toList)=decide (a=b):=by
 by_cases h:a=b
 ·subst h
  rw [decide_eq_true rfl]
  exact beq_self_eq_true _
 ·rw [decide_eq_false h,beq_eq_false_iff_ne]
  exact fun e=>h (bytes_inj e)
set_option maxRecDepth 100000 in
set_option maxHeartbeats 4000000 in
theorem sameF_any (w:World) (Aa Ab:Option Addr) (ca cb na nb:Nat) (La Lb:List Fi) (ha:RdFi w w.heap.size Aa ca La) (hb:RdFi w w.heap.size Ab cb Lb) (hla:La.length=na) (hlb:Lb.length=nb) (hoa:∀ f∈La,Oct1 f.d) (hob:∀ f∈Lb,Oct1 f.d) :
  Calls Tryz.prog 21 #[.slice Aa na ca,.slice Ab nb cb] w fun e w'=>e = .returned (.bool (decide (La.map Fi.v=Lb.map Fi.v)))∧Below w.heap.size w w':=by
 have HA:=Lib.hid ha
 have HB:=Lib.hid hb
 have HL:=Lib.hid (And.intro hla hlb)
 have HO:=Lib.hid (And.intro hoa hob)
 have hca:na≤ca:=by rw [←hla];exact ha.1
 have hcb:nb≤cb:=by rw [←hlb];exact hb.1
 have ha63:=ha.2.1
 have hb63:=hb.2.1
 clear ha hb hla hlb hoa hob
 by_cases hn:na=nb
 case neg =>
  have hv:((na:Int) == (nb:Int))=false:=by rw [beq_eq_false_iff_ne];omega
  have HD:Hid (decide (La.map Fi.v=Lb.map Fi.v)=false):=Lib.hid (decide_eq_false fun e=>by
   have:=congrArg List.length e
   rw [List.length_map,List.length_map,HL.out.1,HL.out.2] at this
   exact hn this)
  go_enter Tryz.func21,Tryz.ntmps21
  go_wp2_with fail
  go_ret
  refine ⟨by rw [HD.out];rfl,?_⟩
  first | exact Below.refl _ _ | exact (Below.refl _ w).drew | exact ((Below.refl _ w).drewN _)
 case pos =>
  subst hn
  go_enter Tryz.func21,Tryz.ntmps21
  go_wp2_with fail
  go_loopw [5] (fun i wr=>RelSF w La Lb na i wr) (fun i _=>na - (intOf i).toNat)
  case atStart=>exact ⟨0,by omega,rfl,Below.refl _ _,fun t ht=>by omega⟩
  case round =>
   obtain ⟨j,hj1,rfl,hq,heq⟩:=hrel
   obtain ⟨V,hV⟩:∃ V,V=wr:=⟨_,rfl⟩
   subst hV
   have HQ:=Lib.hid hq
   have HE:=Lib.hid heq
   clear hq heq
   by_cases hjn:j<na
   case neg =>
    obtain rfl:j=na:=by omega
    have HD:Hid (decide (La.map Fi.v=Lb.map Fi.v)=true):=Lib.hid (decide_eq_true (by
     apply List.ext_getElem
     ·rw [List.length_map,List.length_map,HL.out.1,HL.out.2]
     ·intro t h1 h2
      rw [List.length_map] at h1 h2
      have:=HE.out t (by rw [←HL.out.1];exact h1)
      simpa [List.getD,h1,h2] using this))
    have hjI:¬ ((j:Int)<(j:Int)):=by omega
    go_wp2_with fail
    go_ret
    refine ⟨by rw [HD.out];rfl,?_⟩
    first | exact HQ.out | exact HQ.out.drew
   case pos =>
    have hjI:(j:Int)<(na:Int):=by omega
    have hj0:(0:Int)≤(j:Int):=by omega
    have hwj:IntKind.i64.wrap ((j:Int)+1)=(j:Int)+1:=IntWalk.i64_in _ (by omega)
    have hja:j<La.length:=by rw [HL.out.1];exact hjn
    have hjb:j<Lb.length:=by rw [HL.out.2];exact hjn
    obtain ⟨ba,offa,rfl,hba,hca2⟩:=HA.out.2.2.2 (by omega)
    obtain ⟨bb,offb,rfl,hbb,hcb2⟩:=HB.out.2.2.2 (by omega)
    obtain ⟨a0,a1⟩:=hca2 j hja
    obtain ⟨b0,b1⟩:=hcb2 j hjb
    have HRA:=Lib.hid (HA.out.2.2.1 _ (List.getElem_mem hja))
    have HRB:=Lib.hid (HB.out.2.2.1 _ (List.getElem_mem hjb))
    have HOA:=Lib.hid (HO.out.1 _ (List.getElem_mem hja))
    have HOB:=Lib.hid (HO.out.2 _ (List.getElem_mem hjb))
    have HGA:Hid (La.getD j default=La[j]):=Lib.hid (by simp [List.getD,hja])
    have HGB:Hid (Lb.getD j default=Lb[j]):=Lib.hid (by simp [List.getD,hjb])
    generalize La[j]=fa at *
    generalize Lb[j]=fb at *
    obtain ⟨sa,daa,dca,da⟩:=fa
    obtain ⟨sb,dab,dcb,db⟩:=fb
    dsimp only at a0 a1 b0 b1 HRA HRB HOA HOB
    replace a0:=(HQ.out.cell (p:=⟨ba,_,none⟩) hba).trans a0
    replace a1:=(HQ.out.cell (p:=⟨ba,_,none⟩) hba).trans a1
    replace b0:=(HQ.out.cell (p:=⟨bb,_,none⟩) hbb).trans b0
    replace b1:=(HQ.out.cell (p:=⟨bb,_,none⟩) hbb).trans b1
    have hcv:=fun N=>conv_str (HRA.out.under (belowN HQ.out N)) rfl HOA.out
    have hcv2:=fun N=>conv_str (HRB.out.under (belowN HQ.out N)) rfl HOB.out
    have HSE:=Lib.hid (strs_eq HOA.out HOB.out)
    have HNE:=Lib.hid (names_eq sa sb)
    obtain ⟨za,hza⟩:∃ z,str da=z:=⟨_,rfl⟩
    obtain ⟨zb,hzb⟩:∃ z,str db=z:=⟨_,rfl⟩
    rw [hza] at hcv
    rw [hzb] at hcv2
    rw [hza,hzb] at HSE
    obtain ⟨na1,hna1⟩:∃ n,da.length=n:=⟨_,rfl⟩
    obtain ⟨nb1,hnb1⟩:∃ n,db.length=n:=⟨_,rfl⟩
    rw [hna1] at a1 hcv
    rw [hnb1] at b1 hcv2
    have hD0:∀ (h:¬ ((⟨sa,daa,dca,da⟩:Fi).v=(⟨sb,dab,dcb,db⟩:Fi).v)),decide (La.map Fi.v=Lb.map Fi.v)=false:=fun h=>decide_eq_false fun e=>h (by
     have e2:(La.map Fi.v)[j]?=(Lb.map Fi.v)[j]?:=by rw [e]
     rw [List.getElem?_map,List.getElem?_map,List.getElem?_eq_getElem hja,List.getElem?_eq_getElem hjb] at e2
     have e3:La[j].v=Lb[j].v:=by simpa using e2
     have ga:=HGA.out
     have gb:=HGB.out
     rw [List.getD,List.getElem?_eq_getElem hja] at ga
     rw [List.getD,List.getElem?_eq_getElem hjb] at gb
     rw [show La[j]=⟨sa,daa,dca,da⟩ from ga,show Lb[j]=⟨sb,dab,dcb,db⟩ from gb] at e3
     exact e3)
    have HD0:=Lib.hid hD0
    have HE2:Hid ((⟨sa,daa,dca,da⟩:Fi).v=(⟨sb,dab,dcb,db⟩:Fi).v→∀ t,t<j+1→(La.getD t default).v=(Lb.getD t default).v):=Lib.hid fun h t ht=>by
     rcases Nat.lt_or_ge t j with h1 | h1
     ·exact HE.out t h1
     ·obtain rfl:t=j:=by omega
      rw [HGA.out,HGB.out]
      exact h
    clear hja hjb hca2 hcb2 hza hzb hna1 hnb1 hD0
    by_cases hs:sa=sb
    case neg =>
     have hB:=HNE.out
     rw [decide_eq_false hs] at hB
     have HD:=Lib.hid (HD0.out fun e=>hs (congrArg (fun q=>q.1) e))
     clear hs
     go_wp2_with fail
     go_quiet (fail)
     go_wp2_with fail
     go_ret
     exact ⟨by rw [HD.out];rfl,belowN HQ.out _⟩
    case pos =>
     have hB:=HNE.out
     rw [decide_eq_true hs] at hB
     by_cases hd:da=db
     case neg =>
      have hB2:=HSE.out
      rw [decide_eq_false hd] at hB2
      have HD:=Lib.hid (HD0.out fun e=>hd (congrArg (fun q=>q.2) e))
      clear hs hd
      go_wp2_with fail
      go_quiet (fail)
      go_wp2_with fail
      go_ret
      exact ⟨by rw [HD.out];rfl,belowN HQ.out _⟩
     case pos =>
      have hB2:=HSE.out
      rw [decide_eq_true hd] at hB2
      have HE3:=Lib.hid (HE2.out (by rw [hs,hd];rfl))
      clear hs hd
      go_wp2_with fail
      go_quiet (fail)
      go_wp2_with fail
      go_roundw
      case rel=>exact ⟨j+1,by omega,by go_num,belowN HQ.out _,HE3.out⟩
      case measure=>simp [intOf];omega
end Go.Proofs.YtnedpkhehiijhaaGreat
namespace Go.Proofs.YtnedpkhehiijhaaGreat
open Go.RowKit
set_option linter.unusedVariables false
set_option linter.unusedSimpArgs false
attribute [local go_sem ↓] Go.wp_at_zero Go.wp_at_succ
theorem str_sizeF (b:List Nat):(str b).size=b.length:=by simp [str,ByteArray.size]
theorem conv_bytesF (b:List Nat) (ho:Oct1 b) (hl:b.length≤100000):∃ (cap:World→Nat) (o:World→Obj),(∀ W,(convert 9 44 (.string (str b))).run Tryz.prog W = .ok (.slice (some ⟨W.heap.size,0,none⟩) b.length (cap W)) (W.drew.alloc (o W))) ∧
  ∀ W,Rd .u8 (W.drew.alloc (o W)) (W.heap.size+1) (some ⟨W.heap.size,0,none⟩) (cap W) b:=by
 refine ⟨_,_,fun W=>by rw [←str_sizeF b];exact run_bytes_of_string (P:=Tryz.prog) W 9 44 5 (str b) Tryz.underlying9 Tryz.underlying44 Tryz.underlying5,fun W=>?_⟩
 have hg:=grownCap_ge W (str b).size 0 5
 have hm:=grownCap_le_maxLen W (str b).size 0 5 (by rw [str_sizeF];simp [maxLen];omega)
 rw [str_sizeF] at hg hm ⊢
 refine ⟨hg,by unfold maxLen at hm;exact hm,fun h0=>⟨W.heap.size,0,rfl,by omega,fun j hj=>?_⟩⟩
 rw [Nat.zero_add,cell_of_row (W.drew.alloc _) W.heap.size j _ 5 _ (heap_alloc_new W.drew _)]
 rw [bytesRow_at (str b) _ j (by simpa [str] using hj)]
 have hx:=ho b[j] (List.getElem_mem hj)
 simp [str,List.getD,hj,Nat.mod_eq_of_lt hx]
theorem results_box1 {fn:Func} {x:Tmp} {t:TypeId} (h:fn.results=#[.cell x t]) (tmps:Array Value) (P:Program) (w:World) {ad:Addr} (hx:tmps.getD x undef = .pointer (some ad)) {v:Value} (hv:(loadVar t ad).run P w = .ok v w) :
  (results fn tmps).run P w = .ok v w:=by
 have hx':tmps[x]?.getD undef = .pointer (some ad):=by simpa using hx
 simp [results,h,hx',asAddr,hv]
theorem size_op:(Tryz.prog.info? 58).map (·.size)=some 3:=by kernel_rfl
theorem load_op {W:World} {g:Nat} {a b c:Value} (h:Holds W g 58 #[a,b,c]):(loadVar 58 ⟨g,0,none⟩).run Tryz.prog W = .ok (.agg #[a,b,c]) W :=
 run_loadVar_mid (P:=Tryz.prog) W g 0 58 [a,b,c] _ h.rangeAll Tryz.underlying58 rfl (by rw [size_op];rfl)
/-- What is asked, as cells. -/
def opAgg (o:OpA):Value:=.agg #[.bool o.drop,.string o.name,.slice o.da o.d.length o.dc]
def PutPst (w:World) (nm:ByteArray) (l:List Nat) (e:Ending) (w':World):Prop:=∃ o:OpA,e = .returned (opAgg o)∧o.v=⟨false,nm,l⟩∧Rd .u8 w' w'.heap.size o.da o.dc o.d∧Below w.heap.size w w'
set_option maxRecDepth 100000 in
theorem put5_any (w:World) (nm:ByteArray) (l:List Nat) (ho:Oct1 l) (hl:l.length≤100000) :
  Calls Tryz.prog 27 #[.string nm,.string (str l)] w (PutPst w nm l):=by
 obtain ⟨cap,o,hcv,hrd⟩:=conv_bytesF l ho hl
 obtain ⟨ds,hds⟩:∃ ds,ds=str l:=⟨_,rfl⟩
 obtain ⟨N,hN⟩:∃ N,N=l.length:=⟨_,rfl⟩
 have HN:=Lib.hid hN
 rw [←hds] at hcv ⊢
 rw [←hN] at hcv
 have HRD:=Lib.hid hrd
 clear hds hN hrd
 go_enter Tryz.func27,Tryz.ntmps27
 go_wp2_with fail
 obtain ⟨W0,hW0⟩:∃ W0,W0=(w.alloc (.cells #[.bool false,.string ⟨#[]⟩,.slice none 0 0] 58)):=⟨_,rfl⟩
 have hs0:W0.heap.size=w.heap.size+1:=by rw [hW0];simp
 have hR:=HRD.out W0
 rw [hs0] at hR
 rw [←hW0]
 generalize o W0=ob at hR ⊢
 generalize cap W0=cp at hR ⊢
 obtain ⟨W1,hW1⟩:∃ W1,W1=(w.alloc (.cells #[.bool false,.string nm,.slice (some ⟨w.heap.size+1,0,none⟩) N cp] 58)):=⟨_,rfl⟩
 have hh:Holds W1 w.heap.size 58 #[.bool false,.string nm,.slice (some ⟨w.heap.size+1,0,none⟩) N cp]:=by rw [hW1];exact Holds.fresh _ _ _
 have hb1:Below w.heap.size w W1:=by rw [hW1];exact (Below.refl _ w).alloc (Nat.le_refl _) _
 have hs1:W1.heap.size=w.heap.size+1:=by rw [hW1];simp
 rw [←hW1]
 have hld:=load_op ((hh.alloc ob).drew)
 refine bodyPost_ret (results_box1 (x:=4) (t:=58) rfl _ _ _ rfl hld) rfl ⟨⟨false,nm,some ⟨w.heap.size+1,0,none⟩,cp,l⟩,by rw [HN.out];rfl,rfl,?_,?_⟩
 ·refine ⟨hR.1,hR.2.1,fun h0=>?_⟩
  obtain ⟨b,off,e,hlt,hc⟩:=hR.2.2 h0
  injection e with e
  injection e with e1 e2
  subst e1 e2
  refine ⟨_,_,rfl,by simp [hs1],fun j hj=>?_⟩
  have h1:=hc j hj
  have hn0:(W0.drew.alloc ob).heap[w.heap.size+1]?=some ob:=by rw [←hs0];exact heap_alloc_new W0.drew _
  have hn1:((W1.alloc ob).drew).heap[w.heap.size+1]?=some ob:=by rw [←hs1];exact heap_alloc_new W1 _
  simp only [World.cell?,hn0] at h1
  simp only [World.cell?,hn1]
  exact h1
 ·exact (hb1.alloc (by omega) _).drew
set_option maxRecDepth 100000 in
theorem drop5_any (w:World) (nm:ByteArray) :
  Calls Tryz.prog 28 #[.string nm] w fun e w'=>∃ o:OpA,e = .returned (opAgg o)∧o.v=⟨true,nm,[]⟩∧Rd .u8 w' w'.heap.size o.da o.dc o.d∧Below w.heap.size w w':=by
 go_enter Tryz.func28,Tryz.ntmps28
 go_wp2_with fail
 obtain ⟨W1,hW1⟩:∃ W1,W1=(w.alloc (.cells #[.bool true,.string nm,.slice none 0 0] 58)):=⟨_,rfl⟩
 have hh:Holds W1 w.heap.size 58 #[.bool true,.string nm,.slice none 0 0]:=by rw [hW1];exact Holds.fresh _ _ _
 have hb1:Below w.heap.size w W1:=by rw [hW1];exact (Below.refl _ w).alloc (Nat.le_refl _) _
 rw [←hW1]
 have hld:=load_op hh
 exact bodyPost_ret (results_box1 (x:=2) (t:=58) rfl _ _ _ rfl hld) rfl ⟨⟨true,nm,none,0,[]⟩,rfl,rfl,⟨Nat.le_refl _,Nat.zero_le _,fun h=>absurd h (by simp)⟩,hb1⟩
end Go.Proofs.YtnedpkhehiijhaaGreat
namespace Go.Proofs.YtnedpkhehiijhaaGreat
open Go.RowKit
set_option linter.unusedVariables false
set_option linter.unusedSimpArgs false
theorem usedK_usedI {ns:List Nd} {i:Fin 40}:i∈usedK ns 40↔usedV (nvOf ns i.val)=true:=by
 rw [usedK_mem];rfl
/-- What List tells, by the names. -/
theorem slots_view {s:Dk} {ns:List Nd} (hm:Mounts s ns) {ys:List (Fin 40)} (hy:Slots ns ys):(ys.map fun x=>(nmS ns x.val,dataN s (ns.getD x.val default)))=(ys.map fun x=>nmS ns x.val).map fun t=>(t,(viewN s ns t).getD []):=by
 rw [List.map_map]
 refine List.map_congr_left fun x hx=>?_
 have hu:=usedK_usedI.1 (hy.perm.mem_iff.1 hx)
 have h1:=slotO_is hm.nvOk x.isLt hu
 show (nmS ns x.val,_)=(nmS ns x.val,(viewN s ns (nmS ns x.val)).getD [])
 unfold viewN
 rw [show nmS ns x.val=(nvOf ns x.val).1 from rfl,h1]
 rfl
theorem slots_mem {s:Dk} {ns:List Nd} (hm:Mounts s ns) {ys:List (Fin 40)} (hy:Slots ns ys) (t:ByteArray):t∈(ys.map fun x=>nmS ns x.val)↔viewN s ns t≠none:=by
 rw [←view_none,List.mem_map]
 constructor
 ·rintro ⟨x,hx,rfl⟩
  have hu:=usedK_usedI.1 (hy.perm.mem_iff.1 hx)
  rw [show nmS ns x.val=(nvOf ns x.val).1 from rfl,slotO_is hm.nvOk x.isLt hu]
  exact fun e=>nomatch e
 ·intro hne
  cases hs:slotO (nvOf ns) t with
  | none=>exact absurd hs hne
  | some i =>
   obtain ⟨a,b,c⟩:=slotO_some hs
   exact ⟨⟨i,a⟩,hy.perm.mem_iff.2 (usedK_usedI.2 b),c⟩
theorem slots_nodup {s:Dk} {ns:List Nd} (hm:Mounts s ns) {ys:List (Fin 40)} (hy:Slots ns ys):(ys.map fun x=>nmS ns x.val).Nodup:=by
 have hu:(usedK ns 40).Nodup:=by
  unfold usedK
  exact ((List.nodup_finRange 40).sublist (List.take_sublist _ _)).filter _
 have hn:ys.Nodup:=hy.perm.nodup_iff.2 hu
 unfold List.Nodup
 rw [List.pairwise_map]
 refine List.Pairwise.imp_of_mem (fun {a b} ha hb hne e=>hne ?_) hn
 exact hm.apart a b (hy.perm.mem_iff.1 ha) (hy.perm.mem_iff.1 hb) (by rw [e])
theorem setF_same (f:FateF) (t:ByteArray) (x:Option (List Nat)):setF f t x t=some x:=by unfold setF;rw [if_pos rfl]
theorem setF_ne (f:FateF) {t u:ByteArray} (x:Option (List Nat)) (h:u≠t):setF f t x u=f u:=by unfold setF;rw [if_neg h]
def sA:ByteArray:=⟨#[97]⟩
def sB:ByteArray:=⟨#[98]⟩
theorem sAB:sA≠sB:=by decide
theorem okA:NameOk sA:=⟨by decide,by decide,by decide⟩
theorem okB:NameOk sB:=⟨by decide,by decide,by decide⟩
def knOps:List OpV:=[⟨false,sA,[49]⟩,⟨false,sB,[50]⟩,⟨true,sA,[]⟩]
theorem kn_fate (has:ByteArray→Bool):fateS has knOps (fun _=>none) = .inr (setF (setF (setF (fun _=>none) sA (some [49])) sB (some [50])) sA none):=by
 have e:setF (setF (fun _=>none) sA (some [49])) sB (some [50]) sA=some (some [49]):=by rw [setF_ne _ _ sAB,setF_same]
 unfold knOps
 simp only [fateS,e,okA,okB]
 simp
def knF:FateF:=setF (setF (setF (fun _=>none) sA (some [49])) sB (some [50])) sA none
theorem knF_a:knF sA=some none:=setF_same _ _ _
theorem knF_b:knF sB=some (some [50]):=by unfold knF;rw [setF_ne _ _ sAB.symm,setF_same]
theorem knF_o {t:ByteArray} (h1:t≠sA) (h2:t≠sB):knF t=none:=by unfold knF;rw [setF_ne _ _ h1,setF_ne _ _ h2,setF_ne _ _ h1]
theorem kn_keys:KeysF knF [sA,sB]:=by
 refine ⟨by simp [sAB],fun t=>?_,?_⟩
 ·by_cases h1:t=sA
  ·subst h1;rw [knF_a];simp
  ·by_cases h2:t=sB
   ·subst h2;rw [knF_b];simp
   ·rw [knF_o h1 h2];simp [h1,h2]
 ·refine List.Pairwise.cons (fun a ha=>?_) (List.pairwise_singleton _ _)
  rw [List.mem_singleton.1 ha]
  decide
theorem known_done {ns ns':List Nd} {r:Nat} {s':Dk} (hm:Mounts (fmtD 60) ns) (hm':Mounts s' ns') (h60:s'.many=60) (h:DoL (fateS (hasN ns) knOps (fun _=>none)) (fmtD 60) ns 60 r s' ns') :
  r=0∧leftN s' ns'=19∧∀ ys,Slots ns' ys→(ys.map fun x=>(nmS ns' x.val,dataN s' (ns'.getD x.val default)))=[(sB,[50])]:=by
 have he:∀ i,i<40→nvOf ns i=zV:=fun i hi=>empty_nv (by omega) (by omega) hm hi
 have hl:=empty_left hm he
 have hmm:(fmtD 60).many=60:=(fmtD_facts (m:=60) (by omega) (by omega)).1.many
 rw [hmm] at hl
 have hv0:∀ t,viewN (fmtD 60) ns t=none:=fun t=>by unfold viewN;rw [empty_slot he];rfl
 have hc:=usL_free hm (K:=[]) List.nodup_nil fun t=>by rw [empty_slot he];simp
 rw [kn_fate] at h
 obtain ⟨ks,hk,h⟩:=h
 obtain rfl:=hk.one kn_keys
 have hroom:RoomFor (nvOf ns) knF [sA,sB] (usL ns) (leftN (fmtD 60) ns):=by
  have w1:wantL knF [sA,sB]=1:=by simp [wantL,wantF,knF_a,knF_b,needN]
  have w2:newC (nvOf ns) knF [sA,sB]=1:=by simp [newC,knF_a,knF_b,empty_slot he]
  have w3:putC knF [sA,sB]=1:=by simp [putC,knF_a,knF_b]
  have w4:dropC (nvOf ns) knF [sA,sB]=0:=by simp [dropC,knF_a,knF_b,empty_slot he]
  rw [List.length_nil] at hc
  exact ⟨by omega,by omega,by omega⟩
 rcases h with ⟨h1,_⟩ | ⟨_,h1,h2,h3,h4⟩
 ·exact absurd hroom h1
 have hv:∀ t,viewN s' ns' t=if t=sB then some [50] else none:=fun t=>by
  have:=h2 t
  rw [show (setF (setF (setF (fun _=>none) sA (some [49])) sB (some [50])) sA none)=knF from rfl] at this
  rw [this]
  by_cases a:t=sA
  ·subst a;rw [knF_a,if_neg sAB]
  ·by_cases b:t=sB
   ·subst b;rw [knF_b,if_pos rfl]
   ·rw [knF_o a b,if_neg b];exact hv0 t
 have hK:∀ t,t∈[sB]↔slotO (nvOf ns') t≠none:=fun t=>by
  rw [view_none (s:=s'),hv t]
  by_cases b:t=sB
  ·simp [b]
  ·simp [b]
 refine ⟨h1,?_,fun ys hy=>?_⟩
 ·rw [left_of hm' (by simp) hK,h60]
  have:=h3 sB [50] knF_b
  simp [this,needN]
 ·rw [slots_view hm' hy]
  have hp:(ys.map fun x=>nmS ns' x.val).Perm [sB]:=(List.perm_ext_iff_of_nodup (slots_nodup hm' hy) (by simp)).2 fun t=>by
   rw [slots_mem hm' hy,hK,view_none (s:=s')]
  rw [List.perm_singleton.1 hp]
  simp [hv]
end Go.Proofs.YtnedpkhehiijhaaGreat
namespace Go.Proofs.YtnedpkhehiijhaaGreat
open Go.RowKit
set_option linter.unusedVariables false
set_option linter.unusedSimpArgs false
attribute [local go_sem ↓] Go.wp_at_zero Go.wp_at_succ
set_option maxRecDepth 100000 in
set_option maxHeartbeats 2000000 in
theorem known5_any (w:World) :
  Calls Tryz.prog 26 #[] w fun e w'=>e = .returned (.bool true)∧Below w.heap.size w w':=by
 have HD:=Lib.hid (disk5_any w 60 (by omega) (by omega))
 have HP1:=Lib.hid fun W (x y:ByteArray) (hx:x=sA) (hy:y=str [49])=>(by subst hx hy;exact put5_any W sA [49] (by intro x hx;rcases List.mem_singleton.1 hx;omega) (by decide):Calls Tryz.prog 27 #[.string x,.string y] W (PutPst W sA [49]))
 have HP2:=Lib.hid fun W (x y:ByteArray) (hx:x=sB) (hy:y=str [50])=>(by subst hx hy;exact put5_any W sB [50] (by intro x hx;rcases List.mem_singleton.1 hx;omega) (by decide):Calls Tryz.prog 27 #[.string x,.string y] W (PutPst W sB [50]))
 go_enter Tryz.func26,Tryz.ntmps26
 go_wp2_with fail
 refine HD.out.mono ?_
 rintro e w1 ⟨gd,gx,rfl,hd1,hb1⟩
 have hr1:=(fmtD_facts (m:=60) (by omega) (by omega)).1
 have hm1:=mounts_fmt (m:=60) (by omega) (by omega)
 have HM:=Lib.hid (mount_law hd1 hr1 (by omega) hm1)
 have HB1:=Lib.hid hb1
 have HR1:=Lib.hid hr1
 clear hd1 hr1 hm1 hb1 HD
 go_wp2_with fail
 refine HM.out.mono ?_
 rintro e w2 ⟨gf,F2,ns,rfl,hf2,hF2,hg2,ho2⟩
 have HF2:=Lib.hid hf2
 have HB2:Hid (Below w.heap.size w w2):=Lib.hid (HB1.out.trans (ho2.below (fun k hk=>hk.1) HB1.out.size))
 have HFB:Hid (∀ k,F2 k∨k=gf→w.heap.size≤k):=Lib.hid fun k hk=>by
  have:=HB1.out.size
  rcases hk with hk | hk
  ·rcases hF2 k hk with h | h
   ·exact h.1
   ·omega
  ·omega
 clear hf2 hF2 hg2 ho2 HM
 go_wp2_with fail
 refine (HP1.out w2 _ _ rfl (by decide +kernel)).mono ?_
 rintro e w3 ⟨o1,rfl,ho1,hr1,hb3⟩
 unfold opAgg
 have HO1:=Lib.hid (And.intro ho1 hr1)
 have HB3:=Lib.hid hb3
 clear ho1 hr1 hb3
 go_wp2_with fail
 refine (HP2.out w3 _ _ rfl (by decide +kernel)).mono ?_
 rintro e w4 ⟨o2,rfl,ho2,hr2,hb4⟩
 unfold opAgg
 have HO2:=Lib.hid (And.intro ho2 hr2)
 have HB4:=Lib.hid hb4
 clear ho2 hr2 hb4
 go_wp2_with fail
 refine (drop5_any w4 sA).mono ?_
 rintro e w5 ⟨o3,rfl,ho3,hr3,hb5⟩
 unfold opAgg
 have HO3:=Lib.hid (And.intro ho3 hr3)
 have HB5:=Lib.hid hb5
 clear ho3 hr3 hb5
 go_wp2_with fail
 obtain ⟨w6,hw6⟩:∃ W,W=(w5.alloc (.cells #[.bool o1.drop,.string o1.name,.slice o1.da o1.d.length o1.dc,.bool o2.drop,.string o2.name,.slice o2.da o2.d.length o2.dc,.bool o3.drop,.string o3.name,.slice o3.da o3.d.length o3.dc] 58)):=⟨_,rfl⟩
 have HB6:Hid (Below w5.heap.size w5 w6):=Lib.hid (by rw [hw6];exact (Below.refl _ _).alloc (Nat.le_refl _) _)
 have HH6:Hid (Holds w6 w5.heap.size 58 #[.bool o1.drop,.string o1.name,.slice o1.da o1.d.length o1.dc,.bool o2.drop,.string o2.name,.slice o2.da o2.d.length o2.dc,.bool o3.drop,.string o3.name,.slice o3.da o3.d.length o3.dc]):=Lib.hid (by rw [hw6];exact Holds.fresh _ _ _)
 have HS6:Hid (w6.heap.size=w5.heap.size+1):=Lib.hid (by rw [hw6];simp)
 have HB26:Hid (Below w2.heap.size w2 w6):=Lib.hid (by
  have h3:=HB3.out
  have h4:=HB4.out
  have h5:=HB5.out
  have h6:=HB6.out
  exact ((h3.trans (h4.mono h3.size)).trans (h5.mono (Nat.le_trans h3.size h4.size))).trans (h6.mono (Nat.le_trans (Nat.le_trans h3.size h4.size) h5.size)))
 have HRO:Hid (RdOp w6 w6.heap.size (some ⟨w5.heap.size,0,none⟩) 3 [o1,o2,o3]):=Lib.hid (by
  have h4:=HB4.out
  have h5:=HB5.out
  have h6:=HB6.out
  have r1:=(((HO1.out.2.under h4).under (h5.mono h4.size)).under (h6.mono (Nat.le_trans h4.size h5.size))).more (Nat.le_trans (Nat.le_trans h4.size h5.size) h6.size)
  have r2:=((HO2.out.2.under h5).under (h6.mono h5.size)).more (Nat.le_trans h5.size h6.size)
  have r3:=(HO3.out.2.under h6).more h6.size
  have n1:o1.name=sA:=congrArg (fun q=>q.name) HO1.out.1
  have n2:o2.name=sB:=congrArg (fun q=>q.name) HO2.out.1
  have n3:o3.name=sA:=congrArg (fun q=>q.name) HO3.out.1
  refine ⟨Nat.le_refl _,by omega,fun o ho=>?_,fun _=>⟨_,_,rfl,by have:=HS6.out;omega,fun j hj=>?_⟩⟩
  ·simp only [List.mem_cons,List.not_mem_nil,or_false] at ho
   rcases ho with rfl | rfl | rfl
   ·exact ⟨r1,by rw [n1];decide⟩
   ·exact ⟨r2,by rw [n2];decide⟩
   ·exact ⟨r3,by rw [n3];decide⟩
  ·have hh:=HH6.out
   have hj:j<3:=hj
   have:j=0∨j=1∨j=2:=by omega
   rcases this with rfl | rfl | rfl
   ·exact ⟨hh.cell 0,hh.cell 1,hh.cell 2⟩
   ·exact ⟨hh.cell 3,hh.cell 4,hh.cell 5⟩
   ·exact ⟨hh.cell 6,hh.cell 7,hh.cell 8⟩)
 rw [←hw6]
 clear hw6
 have HDO:=Lib.hid (do_law (HF2.out.under HB26.out) HR1.out (by omega) (some ⟨w5.heap.size,0,none⟩) 3 3 [o1,o2,o3] rfl HRO.out (by omega) (fun o ho=>by
  simp only [List.mem_cons,List.not_mem_nil,or_false] at ho
  rcases ho with rfl | rfl | rfl
  ·rw [show o.d=[49] from congrArg (fun q=>q.data) HO1.out.1];exact fun x hx=>by rcases List.mem_singleton.1 hx;omega
  ·rw [show o.d=[50] from congrArg (fun q=>q.data) HO2.out.1];exact fun x hx=>by rcases List.mem_singleton.1 hx;omega
  ·rw [show o.d=[] from congrArg (fun q=>q.data) HO3.out.1];exact fun x hx=>nomatch hx))
 refine HDO.out.mono ?_
 rintro e w7 ⟨r,F3,s3,ns3,rfl,hf3,hr3,ho3,hF3,hdo⟩
 have hkd:=known_done HF2.out.mt hf3.mt hr3.many (by
  have:[o1,o2,o3].map OpA.v=knOps:=by
   unfold knOps
   rw [List.map_cons,List.map_cons,List.map_cons,List.map_nil,HO1.out.1,HO2.out.1,HO3.out.1]
  rw [this] at hdo
  exact hdo)
 obtain ⟨rfl,hleft,hlist⟩:=hkd
 have HF3:=Lib.hid hf3
 have HR3:=Lib.hid hr3
 have HLF:=Lib.hid hleft
 have HLI:=Lib.hid hlist
 have HB7:Hid (Below w.heap.size w w7):=Lib.hid (((HB2.out.trans (HB26.out.mono HB2.out.size)).trans (ho3.below HFB.out (Nat.le_trans HB2.out.size HB26.out.size))))
 clear HDO hf3 hr3 hleft hlist hdo
 go_wp2_with fail
 refine (list_fs HF3.out).mono ?_
 rintro e w8 ⟨hb8,ys,Ax,cx,L,hy,rfl,hL,hLv,hrx,_⟩
 have HV:=Lib.hid (hLv.trans (HLI.out ys hy))
 have HRX:=Lib.hid hrx
 have HB8:=Lib.hid hb8
 have HLL:=Lib.hid hL
 obtain ⟨nx,hnx⟩:∃ n,n=ys.length:=⟨_,rfl⟩
 rw [←hnx]
 have HNX:=Lib.hid hnx
 clear hy hL hLv hrx hb8 hnx
 have hcv:=Go.Joins.run_convert_bytes_const_at (P:=Tryz.prog) w8 44 5 #[.int .u8 50] 1 1 w8.heap.size rfl Tryz.underlying44 Tryz.underlying5
 go_wp2_with fail
 clear hcv
 obtain ⟨w9,hw9⟩:∃ W,W=((w8.alloc (.cells #[.int .u8 50] 5 (1,2))).alloc (.cells #[.string ⟨#[98]⟩,.slice (some ⟨w8.heap.size,0,none⟩) 1 1] 56)):=⟨_,rfl⟩
 have HS9:Hid (w9.heap.size=w8.heap.size+2):=Lib.hid (by rw [hw9];simp)
 have HB9:Hid (Below w8.heap.size w8 w9):=Lib.hid (by rw [hw9];exact ((Below.refl _ _).alloc (Nat.le_refl _) _).alloc (by simp) _)
 have HC9:Hid (w9.cell? ⟨w8.heap.size,0,none⟩=some (.int .u8 50)∧w9.cell? ⟨w8.heap.size+1,0,none⟩=some (.string sB)∧w9.cell? ⟨w8.heap.size+1,1,none⟩=some (.slice (some ⟨w8.heap.size,0,none⟩) 1 1)):=Lib.hid (by
  have h1:=World.cell?_alloc_mark w8 #[.int .u8 50] 5 (1,2) 0
  have hs:(w8.alloc (.cells #[.int .u8 50] 5 (1,2))).heap.size=w8.heap.size+1:=by simp
  have hh:=Holds.fresh (w8.alloc (.cells #[.int .u8 50] 5 (1,2))) 56 #[.string ⟨#[98]⟩,.slice (some ⟨w8.heap.size,0,none⟩) 1 1]
  rw [hs,←hw9] at hh
  refine ⟨?_,hh.cell 0,hh.cell 1⟩
  have hb:Below (w8.heap.size+1) (w8.alloc (.cells #[.int .u8 50] 5 (1,2))) w9:=by rw [hw9];exact (Below.refl _ _).alloc (by rw [hs];exact Nat.le_refl _) _
  exact (hb.cell (p:=⟨w8.heap.size,0,none⟩) (by show w8.heap.size<_;omega)).trans h1)
 rw [←hw9]
 clear hw9
 have HRB:Hid (RdFi w9 w9.heap.size (some ⟨w8.heap.size+1,0,none⟩) 1 [⟨sB,some ⟨w8.heap.size,0,none⟩,1,[50]⟩]):=Lib.hid (by
  have hz:=HS9.out
  refine ⟨Nat.le_refl _,by omega,fun f hf=>?_,fun _=>⟨_,_,rfl,by omega,fun j hj=>?_⟩⟩
  ·rw [List.mem_singleton.1 hf]
   refine ⟨Nat.le_refl _,by show 1≤9223372036854775807;omega,fun _=>⟨_,_,rfl,by omega,fun j hj=>?_⟩⟩
   obtain rfl:j=0:=by simpa using hj
   exact HC9.out.1
  ·obtain rfl:j=0:=by simpa using hj
   exact ⟨HC9.out.2.1,HC9.out.2.2⟩)
 have HOC:Hid (∀ f∈L,Oct1 f.d):=Lib.hid fun f hf=>by
  have h1:f.v∈L.map Fi.v:=List.mem_map.2 ⟨f,hf,rfl⟩
  rw [HV.out] at h1
  have h2:=List.mem_singleton.1 h1
  rw [show f.d=[50] from congrArg (fun q=>q.2) h2]
  intro x hx
  rcases List.mem_singleton.1 hx
  omega
 have HRX9:Hid (RdFi w9 w9.heap.size Ax cx L):=Lib.hid (by
  have h:=HRX.out
  have hb:=HB9.out
  refine ⟨h.1,h.2.1,fun f hf=>((h.2.2.1 f hf).under hb).more hb.size,fun h0=>?_⟩
  obtain ⟨b,off,e,hlt,hc⟩:=h.2.2.2 h0
  exact ⟨b,off,e,Nat.lt_of_lt_of_le hlt hb.size,fun j hj=>⟨(hb.cell (p:=⟨b,_,none⟩) hlt).trans (hc j hj).1,(hb.cell (p:=⟨b,_,none⟩) hlt).trans (hc j hj).2⟩⟩)
 refine (sameF_any w9 Ax _ cx 1 nx 1 L [⟨sB,some ⟨w8.heap.size,0,none⟩,1,[50]⟩] HRX9.out HRB.out (HLL.out.trans HNX.out.symm) rfl HOC.out (fun f hf=>by
  rw [List.mem_singleton.1 hf]
  intro x hx
  rcases List.mem_singleton.1 hx
  omega)).mono ?_
 rintro e w10 ⟨rfl,hb10⟩
 rw [decide_eq_true (show L.map Fi.v=[(⟨sB,some ⟨w8.heap.size,0,none⟩,1,[50]⟩:Fi)].map Fi.v from HV.out)]
 have HB10:=Lib.hid hb10
 clear hb10
 have HL:=Lib.hid (left_any ((HF3.out.under (HB8.out)).under HB9.out |>.under HB10.out))
 rw [HLF.out] at HL
 go_wp2_with fail
 refine HL.out.mono ?_
 rintro e w11 ⟨rfl,hb11⟩
 have HB11:=Lib.hid hb11
 clear hb11 HL
 go_wp2_with fail
 go_ret
 have s7:=HB7.out.size
 have s8:=HB8.out.size
 have s9:=HB9.out.size
 have s10:=HB10.out.size
 exact ⟨rfl,(((HB7.out.trans (HB8.out.mono s7)).trans (HB9.out.mono (by omega))).trans (HB10.out.mono (by omega))).trans (HB11.out.mono (by omega))⟩
end Go.Proofs.YtnedpkhehiijhaaGreat
namespace Go.Proofs.YtnedpkhehiijhaaGreat
open Go.RowKit
set_option linter.unusedVariables false
set_option linter.unusedSimpArgs false
def sX:ByteArray:=⟨#[120]⟩
def sY:ByteArray:=⟨#[121]⟩
def sAsB:ByteArray:=⟨#[97,32,98]⟩
structure OnlyX (s:Dk) (ns:List Nd) (m:Nat) (l:List Nat):Prop where
 mt:Mounts s ns
 many:s.many=m
 view:∀ t,viewN s ns t=if t=sX then some l else none
 plc:placeN (nvOf ns) sX=needN l
theorem OnlyX.keys {s:Dk} {ns:List Nd} {m:Nat} {l:List Nat} (h:OnlyX s ns m l) (t:ByteArray):t∈[sX]↔slotO (nvOf ns) t≠none:=by
 rw [view_none (s:=s),h.view t]
 by_cases e:t=sX <;> simp [e]
theorem OnlyX.left {s:Dk} {ns:List Nd} {m:Nat} {l:List Nat} (h:OnlyX s ns m l):leftN s ns=m - 40 - needN l:=by
 rw [left_of h.mt (by simp) h.keys,h.many]
 simp [h.plc]
theorem OnlyX.no {s:Dk} {ns:List Nd} {m:Nat} {l:List Nat} (h:OnlyX s ns m l) {t:ByteArray} (ht:t≠sX):slotO (nvOf ns) t=none:=Classical.byContradiction fun hne=>by
 have:=(h.keys t).2 hne
 exact ht (List.mem_singleton.1 this)
end Go.Proofs.YtnedpkhehiijhaaGreat
namespace Go.Proofs.YtnedpkhehiijhaaGreat
open Go.RowKit
set_option linter.unusedVariables false
set_option linter.unusedSimpArgs false
attribute [local go_sem ↓] Go.wp_at_zero Go.wp_at_succ
section
variable {w w5:World} {F:Nat→Prop} {gf gd:Nat} {s:Dk} {ns:List Nd} {m k:Nat}
end
def zeros (n:Nat):List Nat:=List.replicate n 0
end Go.Proofs.YtnedpkhehiijhaaGreat
namespace Go.Proofs.YtnedpkhehiijhaaGreat
open Go.RowKit
set_option linter.unusedVariables false
set_option linter.unusedSimpArgs false
theorem DoL.cases {has:ByteArray→Bool} {l:List OpV} {f0:FateF} {s s':Dk} {ns ns':List Nd} {m r:Nat} (h:DoL (fateS has l f0) s ns m r s' ns'):(r≠0∧s'=s∧ns'=ns)∨r=0:=by
 rcases hf:fateS has l f0 with k | fs
 ·rw [hf] at h
  obtain ⟨h1,h2,h3⟩:=h
  have:=fateS_err hf
  exact .inl ⟨by omega,h2,h3⟩
 ·rw [hf] at h
  obtain ⟨ks,_,h⟩:=h
  rcases h with ⟨_,h1,h2,h3⟩ | ⟨_,h1,_⟩
  ·exact .inl ⟨by omega,h2,h3⟩
  ·exact .inr h1
theorem dataN_oct {s:Dk} (h:∀ i,Oct1 (s.read i)) (d:Nd):Oct1 (dataN s d):=fun x hx=>by
 unfold dataN secsN at hx
 obtain ⟨p,_,hp⟩:=List.mem_flatMap.1 (List.mem_of_mem_take hx)
 exact h _ x hp
theorem Mounts.nv_one {s:Dk} {ns ns':List Nd} (h:Mounts s ns) (h':Mounts s ns') (i:Nat):nvOf ns i=nvOf ns' i:=by
 have e:=h.one h'.n40 h'.rd
 have e2:(ns.map Nd.v).getD i default=(ns'.map Nd.v).getD i default:=by rw [e]
 rwa [vd,vd] at e2
theorem Slots.by_v {ns ns':List Nd} (he:∀ i,nvOf ns i=nvOf ns' i) {ys:List (Fin 40)} (h:Slots ns ys):Slots ns' ys:=by
 have hn:∀ i,nmS ns i=nmS ns' i:=fun i=>congrArg (fun v:V3=>v.1) (he i)
 have hu:usedK ns 40=usedK ns' 40:=by
  unfold usedK
  refine List.filter_congr fun x _=>?_
  rw [←used_nv,←used_nv,he]
 refine ⟨by rw [←hu];exact h.perm,?_⟩
 refine h.up.imp fun {i j} hij=>?_
 rw [←hn,←hn]
 exact hij
theorem data_by_v {s:Dk} {ns ns':List Nd} (he:∀ i,nvOf ns i=nvOf ns' i) (i:Nat):(nmS ns i,dataN s (ns.getD i default))=(nmS ns' i,dataN s (ns'.getD i default)):=by
 have h:=he i
 have h1:(ns.getD i default).name=(ns'.getD i default).name:=congrArg (fun v:V3=>v.1) h
 have h2:(ns.getD i default).size=(ns'.getD i default).size:=congrArg (fun v:V3=>v.2.1) h
 have h3:(ns.getD i default).pl=(ns'.getD i default).pl:=congrArg (fun v:V3=>v.2.2) h
 unfold nmS dataN
 rw [h1,h2,h3]
/-- List tells one thing of one disk, whoever has mounted it. -/
theorem list_one {s:Dk} {ns ns':List Nd} (h:Mounts s ns) (h':Mounts s ns') {ys zs:List (Fin 40)} (hy:Slots ns ys) (hz:Slots ns' zs):(ys.map fun x=>(nmS ns x.val,dataN s (ns.getD x.val default)))=(zs.map fun x=>(nmS ns' x.val,dataN s (ns'.getD x.val default))):=by
 have he:=h.nv_one h'
 rw [h'.slots (hy.by_v he) hz] at *
 exact List.map_congr_left fun x _=>data_by_v he x.val
theorem left_one {s:Dk} {ns ns':List Nd} (h:Mounts s ns) (h':Mounts s ns'):leftN s ns=leftN s ns':=by
 have a:=left_len h
 have b:=left_len h'
 have e:allP (nvOf ns)=allP (nvOf ns'):=by
  unfold allP
  rw [show (fun i=>(nvOf ns i).2.2)=fun i=>(nvOf ns' i).2.2 from funext fun i=>by rw [h.nv_one h' i]]
 rw [e] at a
 omega
/-- What List answers, put plainly. -/
theorem listP_facts {w w':World} {s:Dk} {ns:List Nd} {e:Ending} (h:ListP w s ns e w') (ho:∀ i,Oct1 (s.read i)):∃ ys A c n L,Slots ns ys∧e = .returned (.slice A n c)∧L.length=n∧L.map Fi.v=(ys.map fun x=>(nmS ns x.val,dataN s (ns.getD x.val default)))∧RdFi w' w'.heap.size A c L∧(∀ f∈L,Oct1 f.d)∧Below w.heap.size w w'∧NewFi w.heap.size A L:=by
 obtain ⟨hb,ys,A,c,L,hy,rfl,hl,hv,hr,hnw⟩:=h
 refine ⟨ys,A,c,_,L,hy,rfl,hl,hv,hr,fun f hf=>?_,hb,hnw⟩
 have h1:f.v∈L.map Fi.v:=List.mem_map.2 ⟨f,hf,rfl⟩
 rw [hv] at h1
 obtain ⟨x,_,e⟩:=List.mem_map.1 h1
 have e2:dataN s (ns.getD x.val default)=f.d:=congrArg (fun q:ByteArray×List Nat=>q.2) e
 rw [←e2]
 exact dataN_oct ho _
end Go.Proofs.YtnedpkhehiijhaaGreat
namespace Go.Proofs.YtnedpkhehiijhaaGreat
open Go.RowKit
set_option linter.unusedVariables false
set_option linter.unusedSimpArgs false
attribute [local go_sem ↓] Go.wp_at_zero Go.wp_at_succ
def HvPst (w:World) (n:Nat) (e:Ending) (w':World):Prop:=∃ b,e = .returned (.bool b)∧(b=false→n≤20)∧Below w.heap.size w w'
def RelHv (w:World) (n:Nat) (i x:Value) (wr:World):Prop:=∃ (j:Nat) (y:Int),j≤n∧i = .int .i64 (j:Int)∧x = .int .i64 y∧Below w.heap.size w wr
set_option maxRecDepth 100000 in
set_option maxHeartbeats 2000000 in
theorem heavy_any (w:World) (A:Option Addr) (c n:Nat) (L:List OpA) (hl:L.length=n) (hr:RdOp w w.heap.size A c L) :
  Calls Tryz.prog 12 #[.slice A n c] w (HvPst w n):=by
 have HL:=Lib.hid (And.intro hl hr)
 have hnc:n≤c:=by rw [←hl];exact hr.1
 have hc63:=hr.2.1
 clear hl hr
 go_enter Tryz.func12,Tryz.ntmps12
 go_wp2_with fail
 go_loopw [3,4] (fun x i wr=>RelHv w n i x wr) (fun _ i _=>n - (intOf i).toNat)
 case atStart=>exact ⟨0,0,Nat.zero_le _,rfl,rfl,Below.refl _ _⟩
 case round =>
  obtain ⟨j,y,hj,rfl,rfl,hb⟩:=hrel
  obtain ⟨V,hV⟩:∃ V,V=wr:=⟨_,rfl⟩
  subst hV
  have HQ:=Lib.hid hb
  clear hb
  by_cases hgo:j<n∧j<30
  case pos =>
   have hjI:(j:Int)<(n:Int):=by omega
   have h30:(j:Int)<30:=by omega
   have hj0:(0:Int)≤(j:Int):=by omega
   have hwj:IntKind.i64.wrap ((j:Int)+1)=(j:Int)+1:=IntWalk.i64_in _ (by omega)
   have hjl:j<L.length:=by rw [HL.out.1];exact hgo.1
   obtain ⟨b,off,rfl,hbl,hcs⟩:=HL.out.2.2.2.2 (by omega)
   obtain ⟨c0,c1,c2⟩:=hcs j hjl
   generalize L[j]=o at c0 c1 c2
   replace c0:=(HQ.out.cell (p:=⟨b,_,none⟩) hbl).trans c0
   replace c1:=(HQ.out.cell (p:=⟨b,_,none⟩) hbl).trans c1
   replace c2:=(HQ.out.cell (p:=⟨b,_,none⟩) hbl).trans c2
   clear hcs hjl
   go_wp2_with fail
   go_quiet (fail)
   go_wp2_with fail
   go_roundw
   case rel=>exact ⟨j+1,_,by omega,by go_num,rfl,belowN HQ.out _⟩
   case measure=>simp [intOf];omega
  case neg =>
   have fin:∀ b:Bool,(b=false→n≤20)→b=b:=fun _ _=>rfl
   by_cases h1:j<n
   ·have hjI:(j:Int)<(n:Int):=by omega
    have h30:¬ ((j:Int)<30):=by omega
    have h20:(20:Int)<(n:Int):=by omega
    have hn20:20<n:=by omega
    go_wp2_with fail
    go_ret
    exact ⟨true,rfl,fun h=>(by cases h),HQ.out⟩
   ·have hjI:¬ ((j:Int)<(n:Int)):=by omega
    by_cases h2:20<n
    ·have h20:(20:Int)<(n:Int):=by omega
     go_wp2_with fail
     go_ret
     exact ⟨true,rfl,fun h=>(by cases h),HQ.out⟩
    ·have h20:¬ ((20:Int)<(n:Int)):=by omega
     have HN:Hid (n≤20):=Lib.hid (by omega)
     obtain ⟨bb,hbb⟩:∃ bb,bb=decide (4000<y):=⟨_,rfl⟩
     go_wp2_with fail
     go_ret
     exact ⟨_,rfl,fun _=>HN.out,HQ.out⟩
end Go.Proofs.YtnedpkhehiijhaaGreat
namespace Go.Proofs.YtnedpkhehiijhaaGreat
open Go.RowKit
set_option linter.unusedVariables false
set_option linter.unusedSimpArgs false
attribute [local go_sem ↓] Go.wp_at_zero Go.wp_at_succ
theorem Fsy.low {w:World} {F:Nat→Prop} {gf gd:Nat} {s:Dk} {ns:List Nd} (h:Fsy w F gf gd s ns):Fsy w (fun k=>F k∧k<w.heap.size) gf gd s ns :=
 ⟨h.dk.low,h.fs,fun hh=>h.nf hh.1,fun d hd h0 g hg=>⟨fun hh=>(h.nd d hd h0 g hg).1 hh.1,(h.nd d hd h0 g hg).2⟩,h.mt⟩
theorem RdFi.onlyB {w w':World} {B0 B1:Nat} {G:Nat→Prop} {A:Option Addr} {c:Nat} {L:List Fi} (h:RdFi w B1 A c L) (hn:NewFi B0 A L) (hlt:B1≤w.heap.size) (ho:Only G w w') (hG:∀ g,B0≤g→g<B1→¬ G g):RdFi w' B1 A c L:=by
 refine ⟨h.1,h.2.1,fun f hf=>(h.2.2.1 f hf).onB fun h0 g hg hl=>ho.block g (by omega) (hG g (hn.2 f hf h0 g hg) hl),fun h0=>?_⟩
 obtain ⟨b,off,e,hl,hc⟩:=h.2.2.2 h0
 have hb:=ho.block b (by omega) (hG b (hn.1 b (by rw [e];rfl)) hl)
 exact ⟨b,off,e,hl,fun j hj=>⟨(cell_same hb _).trans (hc j hj).1,(cell_same hb _).trans (hc j hj).2⟩⟩
theorem RdFi.moreF {w:World} {B B':Nat} {A:Option Addr} {c:Nat} {L:List Fi} (h:RdFi w B A c L) (hB:B≤B'):RdFi w B' A c L:=by
 refine ⟨h.1,h.2.1,fun f hf=>(h.2.2.1 f hf).more hB,fun h0=>?_⟩
 obtain ⟨b,off,e,hl,hc⟩:=h.2.2.2 h0
 exact ⟨b,off,e,Nat.lt_of_lt_of_le hl hB,hc⟩
def TrueP (w:World) (e:Ending) (w':World):Prop:=e = .returned (.bool true)∧Below w.heap.size w w'
set_option maxRecDepth 100000 in
set_option maxHeartbeats 2000000 in
theorem law_refused (w:World) (A1 A2:Option Addr) (c1 c2 n1 n2:Nat) (L1 L2:List OpA) (hl1:L1.length=n1) (hr1:RdOp w w.heap.size A1 c1 L1) (ho1:∀ o∈L1,∀ x∈o.d,x<256) (hl2:L2.length=n2) (hr2:RdOp w w.heap.size A2 c2 L2) (ho2:∀ o∈L2,∀ x∈o.d,x<256) (p:Int) :
  Calls Tryz.prog 5 #[.slice A1 n1 c1,.slice A2 n2 c2,.int .i64 p] w (TrueP w):=by
 have H1:=Lib.hid (And.intro hl1 (And.intro hr1 ho1))
 have H2:=Lib.hid (And.intro hl2 (And.intro hr2 ho2))
 have HV1:=Lib.hid (heavy_any w A1 c1 n1 L1 hl1 hr1)
 clear hl1 hr1 ho1 hl2 hr2 ho2
 go_enter Tryz.func5,Tryz.ntmps5
 go_wp2_with fail
 refine HV1.out.mono ?_
 rintro e w1 ⟨v1,rfl,hv1,hb1⟩
 have HB1:=Lib.hid hb1
 have HVA:=Lib.hid hv1
 clear hb1 hv1 HV1
 cases v1 with
 | true =>
  go_wp2_with fail
  go_ret
  exact ⟨rfl,HB1.out⟩
 | false =>
  have hv2:=heavy_any w1 A2 c2 n2 L2 H2.out.1 ((H2.out.2.1.under HB1.out).more HB1.out.size)
  have HV2:=Lib.hid hv2
  clear hv2
  go_wp2_with fail
  refine HV2.out.mono ?_
  rintro e w2 ⟨v2,rfl,hv2,hb2⟩
  have HB2:Hid (Below w.heap.size w w2):=Lib.hid (HB1.out.trans (hb2.mono HB1.out.size))
  have HVB:=Lib.hid hv2
  clear hb2 hv2 HV2
  cases v2 with
  | true =>
   go_wp2_with fail
   go_ret
   exact ⟨rfl,HB2.out⟩
  | false =>
   by_cases h5:p<41
   ·have d5:decide (p<41)=true:=decide_eq_true h5
    go_wp2_with fail
    go_ret
    exact ⟨rfl,HB2.out⟩
   by_cases h6:100<p
   ·have d5:decide (p<41)=false:=decide_eq_false h5
    have d6:decide (100<p)=true:=decide_eq_true h6
    go_wp2_with fail
    go_ret
    exact ⟨rfl,HB2.out⟩
   obtain ⟨m,rfl⟩:=Int.eq_ofNat_of_zero_le (show 0≤p by omega)
   have d5:decide ((m:Int)<41)=false:=decide_eq_false (by omega)
   have d6:decide (100<(m:Int))=false:=decide_eq_false (by omega)
   have HG:Hid (41≤m∧m≤100∧n1≤20∧n2≤20):=Lib.hid ⟨by omega,by omega,HVA.out (by first | trivial | rfl),HVB.out (by first | trivial | rfl)⟩
   have HD:=Lib.hid (disk5_any w2 m (by omega) (by omega))
   clear h5 h6
   go_wp2_with fail
   refine HD.out.mono ?_
   rintro e w3 ⟨gd,gx,rfl,hd3,hb3⟩
   have hr3:=(fmtD_facts (m:=m) (by have:=HG.out;omega) (by have:=HG.out;omega)).1
   have hm3:=mounts_fmt (m:=m) (by have:=HG.out;omega) (by have:=HG.out;omega)
   have HM:=Lib.hid (mount_law hd3 hr3 (by omega) hm3)
   have HB3:Hid (Below w.heap.size w w3):=Lib.hid (HB2.out.trans (hb3.mono HB2.out.size))
   have HB23:=Lib.hid hb3
   have HR3:=Lib.hid hr3
   clear hd3 hr3 hm3 hb3 HD
   go_wp2_with fail
   refine HM.out.mono ?_
   rintro e w4 ⟨gf,F4,ns,rfl,hf4,hF4,hg4,ho4⟩
   have HF4:=Lib.hid hf4
   have HB4:Hid (Below w.heap.size w w4):=Lib.hid (HB3.out.trans (ho4.below (fun k hk=>Nat.le_trans HB2.out.size hk.1) HB3.out.size))
   have HFB4:Hid (∀ k,F4 k∨k=gf→w.heap.size≤k):=Lib.hid fun k hk=>by
    have:=HB3.out.size
    have:=HB2.out.size
    rcases hk with hk | hk
    ·rcases hF4 k hk with h | h
     ·omega
     ·omega
    ·omega
   clear hf4 hF4 hg4 ho4 HM
   have HDO:=Lib.hid (do_law HF4.out HR3.out (by omega) A1 c1 n1 L1 H1.out.1 ((H1.out.2.1.under HB4.out).more HB4.out.size) (by have:=HG.out;omega) H1.out.2.2)
   go_wp2_with fail
   refine HDO.out.mono ?_
   rintro e w5 ⟨r5,F5,s5,ns5,rfl,hf5,hr5,ho5,hF5,-⟩
   have HF5:=Lib.hid hf5.low
   have HR5:=Lib.hid hr5
   have HB5:Hid (Below w.heap.size w w5):=Lib.hid (HB4.out.trans (ho5.below HFB4.out HB4.out.size))
   have HFB5:Hid (∀ k,(F5 k∧k<w5.heap.size)∨k=gf→w.heap.size≤k):=Lib.hid fun k hk=>by
    have h1:=HB4.out.size
    rcases hk with hk | hk
    ·rcases hF5 k hk.1 with h | h
     ·exact HFB4.out k (.inl h)
     ·omega
    ·exact HFB4.out k (.inr hk)
   have HO5:Hid (∀ i,Oct1 (s5.read i)):=Lib.hid (hr5.oct.read hr5.snd)
   clear hf5 hr5 ho5 hF5 HDO
   go_wp2_with fail
   refine (list_fs HF5.out).mono ?_
   intro e w6 hq
   obtain ⟨ys6,A6,k6,n6,L6,hy6,rfl,hl6,hv6,hx6,hc6,hb6,hn6⟩:=listP_facts hq HO5.out
   have HN6:=Lib.hid hn6
   have HQ6:=Lib.hid (And.intro hy6 (And.intro hl6 (And.intro hv6 (And.intro hx6 hc6))))
   have HB6:=Lib.hid hb6
   clear hq hy6 hl6 hv6 hx6 hc6 hb6 hn6
   have HL6:=Lib.hid (left_any (HF5.out.under HB6.out))
   go_wp2_with fail
   refine HL6.out.mono ?_
   rintro e w7 ⟨rfl,hb7⟩
   have HB57:Hid (Below w5.heap.size w5 w7):=Lib.hid (HB6.out.trans (hb7.mono HB6.out.size))
   have HB67:=Lib.hid hb7
   have HB7:Hid (Below w.heap.size w w7):=Lib.hid (HB5.out.trans (HB57.out.mono HB5.out.size))
   clear hb7 HL6
   have HDO:=Lib.hid (do_law (HF5.out.under HB57.out) HR5.out (by omega) A2 c2 n2 L2 H2.out.1 ((H2.out.2.1.under HB7.out).more HB7.out.size) (by have:=HG.out;omega) H2.out.2.2)
   go_wp2_with fail
   refine HDO.out.mono ?_
   rintro e w8 ⟨r8,F8,s8,ns8,rfl,hf8,hr8,ho8,hF8,hdo⟩
   have HB8:Hid (Below w.heap.size w w8):=Lib.hid (HB7.out.trans (ho8.below HFB5.out HB7.out.size))
   clear HDO
   rcases hdo.cases with ⟨hne,rfl,rfl⟩ | rfl
   case inr =>
    have HKN:=Lib.hid (known5_any w8)
    clear hf8 hr8 ho8 hF8 hdo
    go_wp2_with fail
    refine HKN.out.mono ?_
    rintro e w9 ⟨rfl,hb9⟩
    go_wp2_with fail
    go_ret
    exact ⟨rfl,HB8.out.trans (hb9.mono HB8.out.size)⟩
   case inl =>
    have d8:((r8:Int) == 0)=false:=by rw [beq_eq_false_iff_ne];omega
    have hgf:=HF5.out.fs.hd.lt
    have hX7:RdFi w7 w6.heap.size A6 k6 L6:=HQ6.out.2.2.2.1.under HB67.out
    have hX8:RdFi w8 w6.heap.size A6 k6 L6:=hX7.onlyB HN6.out HB67.out.size ho8 fun g h1 h2 hh=>by rcases hh with hh | hh <;> omega
    have HX8:=Lib.hid hX8
    have HF8:=Lib.hid hf8.low
    have HM:=Lib.hid (mount_law hf8.low.dk hr8 (by omega) hf8.mt)
    have HG8:Hid (∀ g,w5.heap.size≤g→g<w6.heap.size→¬ (F8 g∧g<w8.heap.size)):=Lib.hid fun g h1 h2 hh=>by
     have:=HB67.out.size
     rcases hF8 g hh.1 with h | h
     ·have:=h.2;omega
     ·omega
    have HFB8:Hid (∀ k,(F8 k∧k<w8.heap.size)→w.heap.size≤k):=Lib.hid fun k hk=>by
     have h1:=HB7.out.size
     rcases hF8 k hk.1 with h | h
     ·exact HFB5.out k (.inl h)
     ·omega
    have HS8:Hid (w6.heap.size≤w8.heap.size):=Lib.hid (Nat.le_trans HB67.out.size ho8.size)
    clear hf8 hr8 ho8 hF8 hdo hX7 hX8 hne hgf
    go_wp2_with fail
    refine HM.out.mono ?_
    rintro e w9 ⟨gm,F9,nsm,rfl,hf9,hF9,hg9,ho9⟩
    have HX9:=Lib.hid (HX8.out.onlyB HN6.out HS8.out ho9 HG8.out)
    have HFf:=Lib.hid (HF8.out.disk ho9 hf9.dk hF9)
    have HFm:=Lib.hid hf9
    have HB9:Hid (Below w.heap.size w w9):=Lib.hid (HB8.out.trans (ho9.below HFB8.out HB8.out.size))
    have HS9:Hid (w6.heap.size≤w9.heap.size):=Lib.hid (Nat.le_trans HS8.out ho9.size)
    clear hf9 hF9 hg9 ho9 HM
    go_wp2_with fail
    refine (list_fs HFf.out).mono ?_
    intro e w10 hq
    obtain ⟨ys10,A10,k10,n10,L10,hy10,rfl,hl10,hv10,hx10,hc10,hb10,_⟩:=listP_facts hq HO5.out
    have HQ10:=Lib.hid (And.intro hy10 (And.intro hl10 (And.intro hv10 (And.intro hx10 hc10))))
    have HB10:=Lib.hid hb10
    clear hq hy10 hl10 hv10 hx10 hc10 hb10
    have HX10:Hid (RdFi w10 w6.heap.size A6 k6 L6):=Lib.hid (HX9.out.under (HB10.out.mono HS9.out))
    have HS10:Hid (w6.heap.size≤w10.heap.size):=Lib.hid (Nat.le_trans HS9.out HB10.out.size)
    go_wp2_with fail
    refine (sameF_any w10 A10 A6 k10 k6 n10 n6 L10 L6 HQ10.out.2.2.2.1 (HX10.out.moreF HS10.out) HQ10.out.2.1 HQ6.out.2.1 HQ10.out.2.2.2.2 HQ6.out.2.2.2.2).mono ?_
    rintro e w11 ⟨rfl,hb11⟩
    rw [decide_eq_true (show L10.map Fi.v=L6.map Fi.v by rw [HQ10.out.2.2.1,HQ6.out.2.2.1];exact list_one HFf.out.mt HFf.out.mt HQ10.out.1 HQ6.out.1)]
    have HB911:Hid (Below w9.heap.size w9 w11):=Lib.hid (HB10.out.trans (hb11.mono HB10.out.size))
    clear hb11
    have HLf:=Lib.hid (left_any (HFf.out.under HB911.out))
    go_wp2_with fail
    refine HLf.out.mono ?_
    rintro e w12 ⟨rfl,hb12⟩
    have HB912:Hid (Below w9.heap.size w9 w12):=Lib.hid (HB911.out.trans (hb12.mono HB911.out.size))
    clear hb12 HLf
    go_wp2_with fail
    refine (list_fs (HFm.out.under HB912.out)).mono ?_
    intro e w13 hq
    obtain ⟨ys13,A13,k13,n13,L13,hy13,rfl,hl13,hv13,hx13,hc13,hb13,_⟩:=listP_facts hq HO5.out
    have HQ13:=Lib.hid (And.intro hy13 (And.intro hl13 (And.intro hv13 (And.intro hx13 hc13))))
    have HB913:Hid (Below w9.heap.size w9 w13):=Lib.hid (HB912.out.trans (hb13.mono HB912.out.size))
    clear hq hy13 hl13 hv13 hx13 hc13 hb13
    have HX13:Hid (RdFi w13 w6.heap.size A6 k6 L6):=Lib.hid (HX9.out.under (HB913.out.mono HS9.out))
    have HS13:Hid (w6.heap.size≤w13.heap.size):=Lib.hid (Nat.le_trans HS9.out HB913.out.size)
    go_wp2_with fail
    refine (sameF_any w13 A13 A6 k13 k6 n13 n6 L13 L6 HQ13.out.2.2.2.1 (HX13.out.moreF HS13.out) HQ13.out.2.1 HQ6.out.2.1 HQ13.out.2.2.2.2 HQ6.out.2.2.2.2).mono ?_
    rintro e w14 ⟨rfl,hb14⟩
    rw [decide_eq_true (show L13.map Fi.v=L6.map Fi.v by rw [HQ13.out.2.2.1,HQ6.out.2.2.1];exact list_one HFm.out.mt HFf.out.mt HQ13.out.1 HQ6.out.1)]
    have HB914:Hid (Below w9.heap.size w9 w14):=Lib.hid (HB913.out.trans (hb14.mono HB913.out.size))
    clear hb14
    have hlm:=left_any (HFm.out.under HB914.out)
    rw [left_one HFm.out.mt HFf.out.mt] at hlm
    have HLm:=Lib.hid hlm
    clear hlm
    go_wp2_with fail
    refine HLm.out.mono ?_
    rintro e w15 ⟨rfl,hb15⟩
    have HB915:Hid (Below w9.heap.size w9 w15):=Lib.hid (HB914.out.trans (hb15.mono HB914.out.size))
    clear hb15 HLm
    have HKN:=Lib.hid (known5_any w15)
    go_wp2_with fail
    refine HKN.out.mono ?_
    rintro e w16 ⟨rfl,hb16⟩
    go_wp2_with fail
    go_ret
    have s1:=HB9.out.size
    have s2:=HB915.out.size
    exact ⟨rfl,(HB9.out.trans (HB915.out.mono s1)).trans (hb16.mono (by omega))⟩
end Go.Proofs.YtnedpkhehiijhaaGreat
namespace Go.Proofs.YtnedpkhehiijhaaGreat
open Go.RowKit Go.ChangeShapes

theorem rd_of_row {k:IntKind} {m:Nat} (hk:∀ n:Int,(Lit.int k n).wf=true→0≤n∧n<(m:Int)) {w:World} {a:Option Addr} {len cap:Nat} {zs:List Int}
  (h:(a=none∧len=0∧cap=0∧zs=[]) ∨
   ∃ x,a=some x∧len≤cap∧cap≤maxLen∧zs.length=cap∧(∀ i,i<zs.length→w.cell? (x.add i)=some (.int k (zs.getD i 0)))∧∀ n∈zs,(Lit.int k n).wf=true) :
  ∃ l:List Nat,l.length=len∧Rd k w w.heap.size a cap l∧∀ x∈l,x<m:=by
 rcases h with ⟨rfl,rfl,rfl,rfl⟩ | ⟨x,rfl,hl,hm,hz,hc,hwf⟩
 ·exact ⟨[],rfl,Rd.nil_ k w _,fun x hx=>by cases hx⟩
 ·refine ⟨(zs.take len).map Int.toNat,by simp;omega,⟨by simp;omega,by unfold maxLen at hm;exact hm,fun hn=>?_⟩,fun y hy=>?_⟩
  ·have h0:0<zs.length:=by simp at hn;omega
   obtain ⟨b,off,sp⟩:=x
   have hc0:=hc 0 h0
   have hsp:sp=none:=by simpa [Addr.add] using World.cell?_spot hc0
   subst hsp
   have hadd:∀ j,(⟨b,off,none⟩:Addr).add j=⟨b,off+j,none⟩:=fun j=>by unfold Addr.add;split <;> simp_all
   refine ⟨b,off,rfl,?_,fun j hj=>?_⟩
   ·have:=World.block_lt_of_cell? w _ hc0
    rw [hadd] at this
    exact this
   ·have hj':j<len∧j<zs.length:=by simp at hj;omega
    rw [←hadd,hc j hj'.2]
    have hw:=(hk zs[j] (hwf _ (List.getElem_mem hj'.2))).1
    simp [List.getD,hj'.1,hj'.2,Int.toNat_of_nonneg hw]
  ·obtain ⟨z,hz',rfl⟩:=List.mem_map.1 hy
   have:=hk z (hwf z (List.mem_of_mem_take hz'))
   omega
theorem wf_u8 (n:Int) (h:(Lit.int .u8 n).wf=true):0≤n∧n<((256:Nat):Int):=by
 have:=bounds_u8 h
 omega
end Go.Proofs.YtnedpkhehiijhaaGreat
namespace Go.Proofs.YtnedpkhehiijhaaGreat
open Go.RowKit Go.ChangeShapes Go.WideShapes
set_option linter.unusedVariables false

theorem rd1_open {H:Type} {enc:TypeId×Value→H} {w:World} {base:Nat} {held:Bool} {fuel:Nat} {v:Value} {x:DataW H×List MemPlace} (h:DataW.trod enc Tryz.prog w base (fun _=>true) held fuel 44 v.cells.toList=some x) (hv:∃ a n c,v = .slice a n c) :
  ∃ (A:Option Addr) (n c:Nat) (l:List Nat),v = .slice A n c∧l.length=n∧Rd .u8 w w.heap.size A c l∧∀ x∈l,x<256:=by
 obtain ⟨a,n,c,rfl⟩:=hv
 rcases open_ints Tryz.underlying44 Tryz.underlying5 (by kernel_rfl) h with ⟨hcs,_⟩ | ⟨x,l,c',zs,hcs,_,hl,hm,hz,_,hcell,hwz⟩
 ·simp [Value.cells] at hcs
  obtain ⟨rfl,rfl,rfl⟩:=hcs
  exact ⟨none,0,0,[],rfl,rfl,Rd.nil_ _ _ _,fun x hx=>by cases hx⟩
 ·simp [Value.cells] at hcs
  obtain ⟨rfl,rfl,rfl⟩:=hcs
  obtain ⟨b,h1,h2,h3⟩:=rd_of_row wf_u8 (w:=w) (a:=some x) (len:=n) (cap:=c) (zs:=zs) (.inr ⟨x,rfl,hl,hm,by simpa using hz,hcell,hwz⟩)
  exact ⟨_,_,_,b,rfl,h1,h2,h3⟩
theorem list_of {α:Type} [Inhabited α] {P:Nat→α→Prop}:∀ n,(∀ i,i<n→∃ a,P i a)→∃ l:List α,l.length=n∧∀ i,i<n→P i (l.getD i default)
 | 0,_=>⟨[],rfl,fun i h=>absurd h (by omega)⟩
 | n+1,h=>by
  obtain ⟨l,hl,hp⟩:=list_of n (fun i hi=>h i (by omega))
  obtain ⟨a,ha⟩:=h n (by omega)
  refine ⟨l ++ [a],by simp [hl],fun i hi=>?_⟩
  by_cases e:i=n
  ·subst e
   have e2:(l ++ [a]).getD i default=a:=by simp [List.getD,←hl]
   rw [e2];exact ha
  ·have e2:(l ++ [a]).getD i default=l.getD i default:=by simp [List.getD,List.getElem?_append_left (show i<l.length by omega)]
   rw [e2];exact hp i (by omega)
end Go.Proofs.YtnedpkhehiijhaaGreat
namespace Go.Proofs.YtnedpkhehiijhaaGreat
open Go.RowKit Go.ChangeShapes Go.WideShapes
set_option linter.unusedVariables false

theorem cells_op:Tryz.prog.cellsOf 58 = 3:=by kernel_rfl
theorem cells_fileO:Tryz.prog.cellsOf 56 = 2:=by kernel_rfl
theorem cells_boolO:Tryz.prog.cellsOf 4 = 1:=by kernel_rfl
theorem cells_stringO:Tryz.prog.cellsOf 9 = 1:=by kernel_rfl
theorem cells_bytesO:Tryz.prog.cellsOf 44 = 1:=by kernel_rfl
theorem slice_formO {H:Type} {enc:TypeId×Value→H} {P:Program} {w:World} {base:Nat} {sp:Nat→Bool} {held:Bool} {fuel:Nat} {t e:TypeId} {v:Value} {x:DataW H×List MemPlace} (ht:P.underlying t=some (.slice e)) (h:DataW.trod enc P w base sp held fuel t [v]=some x):∃ a n c,v = .slice a n c:=by
 rcases Deep.open_slice ht h with ⟨hcs,_⟩ | ⟨a,len,cap,m,n,D,Pl,hcs,_⟩
 ·exact ⟨none,0,0,by simpa using hcs⟩
 ·exact ⟨some a,len,cap,by simpa using hcs⟩
theorem op_open {H:Type} {enc:TypeId×Value→H} {w:World} {base:Nat} {held:Bool} {n:Nat} {v0 v1 v2:Value} {x:DataW H×List MemPlace} (h:DataW.trod enc Tryz.prog w base (fun _=>true) held n 58 [v0,v1,v2]=some x) :
  ∃ o:OpA,v0 = .bool o.drop∧v1 = .string o.name∧v2 = .slice o.da o.d.length o.dc∧Rd .u8 w w.heap.size o.da o.dc o.d∧o.name.size≤9223372036854775807∧∀ x∈o.d,x<256:=by
 obtain ⟨z0,z1,k,_,_,g0,g1⟩:=trod_struct2 Tryz.underlying58 h
 simp [cells_boolO,cells_fileO] at g0 g1
 obtain ⟨z2,z3,k',_,_,g2,g3⟩:=trod_struct2 Tryz.underlying56 g1
 simp [cells_stringO,cells_bytesO] at g2 g3
 obtain ⟨b0,e0,_⟩:=DataW.trod_bool Tryz.underlying4 g0
 obtain ⟨s1,e1,_,hs1⟩:=DataW.trod_string Tryz.underlying9 g2
 obtain ⟨a2,n2,c2,rfl⟩:=slice_formO Tryz.underlying44 g3
 obtain ⟨A2,n2',c2',l2,e2,hl2,hr2,ho2⟩:=rd1_open (v:=.slice a2 n2 c2) g3 ⟨_,_,_,rfl⟩
 injection e2 with e2a e2b e2c
 subst e2a e2b e2c
 unfold maxLen at hs1
 exact ⟨⟨b0,s1,a2,c2,l2⟩,by simpa using e0,by simpa using e1,by rw [←hl2],hr2,hs1,ho2⟩
theorem ops_open {H:Type} {enc:TypeId×Value→H} {w:World} {base:Nat} {held:Bool} {fuel:Nat} {v:Value} {x:DataW H×List MemPlace} (h:DataW.trod enc Tryz.prog w base (fun _=>true) held fuel 34 v.cells.toList=some x) (hv:∃ a n c,v = .slice a n c) :
  ∃ (A:Option Addr) (n c:Nat) (l:List OpA),v = .slice A n c∧l.length=n∧RdOp w w.heap.size A c l∧∀ o∈l,∀ x∈o.d,x<256:=by
 obtain ⟨a,n,c,rfl⟩:=hv
 rcases Deep.open_slice Tryz.underlying34 h with ⟨hcs,_⟩ | ⟨a',len,cap,m,n',D,Pl,hcs,_,hl,hm,hmm,_,hc⟩
 ·simp [Value.cells] at hcs
  obtain ⟨rfl,rfl,rfl⟩:=hcs
  exact ⟨none,0,0,[],rfl,rfl,⟨by simp,by omega,fun o ho=>by simp at ho,fun hn=>by simp at hn⟩,fun o ho=>by simp at ho⟩
 ·simp [Value.cells] at hcs
  obtain ⟨rfl,rfl,rfl⟩:=hcs
  have hlm:n≤m:=by rw [hmm];split <;> omega
  obtain ⟨l,hln,hlp⟩:=list_of (P:=fun i (t:OpA)=>(w.cell? (a'.add (i*3))=some (.bool t.drop)∧w.cell? (a'.add (i*3+1))=some (.string t.name)∧w.cell? (a'.add (i*3+2))=some (.slice t.da t.d.length t.dc))∧Rd .u8 w w.heap.size t.da t.dc t.d∧t.name.size≤9223372036854775807∧∀ x∈t.d,x<256) n (fun i hi=>by
   obtain ⟨cs',h1,h2⟩:=hc i (by omega)
   rw [cells_op] at h1
   obtain ⟨_,hlen,hcell⟩:=World.cells?_some h1
   match cs',hlen with
   | [v0,v1,v2],_ =>
    obtain ⟨t,e0,e1,e2,r1,r2,r3⟩:=op_open h2
    have k0:=hcell 0 (by omega)
    have k1:=hcell 1 (by omega)
    have k2:=hcell 2 (by omega)
    rw [Deep.add_add] at k0 k1 k2
    exact ⟨t,⟨by rw [←e0];simpa using k0,by rw [←e1];simpa using k1,by rw [←e2];simpa using k2⟩,r1,r2,r3⟩)
  have hget:∀ o∈l,∃ i,i<n∧l.getD i default=o:=fun o ho=>by
   obtain ⟨i,hi,rfl⟩:=List.getElem_of_mem ho
   exact ⟨i,by omega,by simp [List.getD,hi]⟩
  refine ⟨some a',n,c,l,rfl,hln,⟨by omega,by unfold maxLen at hm;exact hm,fun o ho=>?_,fun hn=>?_⟩,fun o ho=>?_⟩
  ·obtain ⟨i,hi,rfl⟩:=hget o ho
   exact ⟨(hlp i hi).2.1,(hlp i hi).2.2.1⟩
  ·obtain ⟨b,off,sp'⟩:=a'
   have hc0:=(hlp 0 (by omega)).1.1
   have hsp:sp'=none:=by simpa [Addr.add] using World.cell?_spot hc0
   subst hsp
   have hadd:∀ j,(⟨b,off,none⟩:Addr).add j=⟨b,off+j,none⟩:=fun j=>by unfold Addr.add;split <;> simp_all
   refine ⟨b,off,rfl,?_,fun j hj=>?_⟩
   ·have:=World.block_lt_of_cell? w _ hc0
    rw [hadd] at this
    exact this
   ·obtain ⟨⟨k0,k1,k2⟩,_⟩:=hlp j (by omega)
    rw [hadd] at k0 k1 k2
    have e:l.getD j default=l[j]:=by simp [List.getD,hj]
    rw [e] at k0 k1 k2
    exact ⟨k0,by rw [show off+j*3+1=off+(j*3+1) by omega];exact k1,by rw [show off+j*3+1+1=off+(j*3+2) by omega];exact k2⟩
  ·obtain ⟨i,hi,rfl⟩:=hget o ho
   exact (hlp i hi).2.2.2
end Go.Proofs.YtnedpkhehiijhaaGreat
