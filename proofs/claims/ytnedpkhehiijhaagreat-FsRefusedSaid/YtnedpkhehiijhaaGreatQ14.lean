/- Words and laws for the statement, part 14. -/
import Derived.Laws.Tables
import Derived.Maps.Range
import Derived.Maps.RangeWalk
import Derived.Sort.KeysCollected
import Derived.Test.YtnedpkhehiijhaaGreatQ09
import Derived.Test.YtnedpkhehiijhaaGreatQ11
import Derived.Test.YtnedpkhehiijhaaGreatQ13
namespace Go.Proofs.YtnedpkhehiijhaaGreat
open Go.RowKit
set_option linter.unusedVariables false
set_option linter.unusedSimpArgs false

theorem set_all:∀ (L:List Value) (o:Nat) (Z:List Value),o+L.length≤Z.length→(L.zipIdx o).foldl (fun (cs:List Value) x=>cs.set x.2 x.1) Z=Z.take o ++ (L ++ Z.drop (o+L.length))
 | [],o,Z,h=>by simp
 | v :: L,o,Z,h=>by
  rw [List.length_cons] at h
  rw [List.zipIdx_cons,List.foldl_cons,set_all L (o+1) _ (by rw [List.length_set];omega)]
  have e1:(Z.set o v).take (o+1)=Z.take o ++ [v]:=by
   rw [List.take_set,List.take_add_one,List.getElem?_eq_getElem (by omega)]
   simp only [Option.toList_some]
   rw [List.set_append_right _ _ (by rw [List.length_take];omega),List.length_take,Nat.min_eq_left (by omega),Nat.sub_self]
   rfl
  have e2:(Z.set o v).drop (o+1+L.length)=Z.drop (o+(v :: L).length):=by
   rw [List.drop_set_of_lt (by omega),List.length_cons]
   congr 1
   omega
  dsimp only
  rw [e1,e2,List.append_assoc]
  rfl
def zplan (ns:List Nd):List Value:=pcs ns (List.replicate 40 false) none 0 0 none 0 0
def isBuilt (r:Option (Array Value)) (l:List Value):Bool:=match r with | some a=>a.size == l.length | none=>false
set_option maxRecDepth 100000 in
set_option maxHeartbeats 8000000 in
theorem built_plan {ns:List Nd} (h:ns.length=40):Tryz.prog.built 99 [(0,.agg (ncs ns).toArray)]=some (zplan ns).toArray:=by
 have hl:=ncs_len ns
 have h0:(Tryz.prog.info? 99).map (fun i=>(i.zero.map fun z=>(z.cells.toList.drop 120,z.cells.size)))=some (some (bcs (List.replicate 40 false) ++ [.slice none 0 0,.slice none 0 0],162)):=by kernel_rfl
 have hmm:(match Tryz.prog.underlying 99 with | some (.struct fields)=>fields.toList.mapM (fun f=>(Tryz.prog.info? f.type).map fun i=>(f.offset,i.size)) | _=>none)=some [(0,120),(120,40),(160,1),(161,1)]:=by kernel_rfl
 unfold Program.built
 rw [Tryz.underlying99] at hmm ⊢
 dsimp only at hmm
 cases hit:Tryz.prog.info? 99 with
 | none=>rw [hit] at h0;cases h0
 | some it =>
  rw [hit] at h0
  simp only [Option.map_some,Option.some.injEq] at h0
  cases hz:it.zero with
  | none=>rw [hz] at h0;cases h0
  | some z =>
   rw [hz] at h0
   simp only [Option.map_some,Option.some.injEq,Prod.mk.injEq] at h0
   obtain ⟨h1,h2⟩:=h0
   dsimp only
   rw [hz,hmm]
   dsimp only
   unfold Instr.fill
   have hp:([(0,120),(120,40),(160,1),(161,1)]:List (Nat×Nat)).toArray[0]?=some (0,120):=rfl
   rw [hp]
   dsimp only
   have hc:(Value.agg (ncs ns).toArray).cells=(ncs ns).toArray:=rfl
   rw [hc,if_neg (by rw [List.size_toArray,hl,h,h2];simp)]
   unfold Instr.fill
   congr 1
   apply Array.ext'
   have e:((ncs ns).toArray.zipIdx.foldl (fun (cs:Array Value) (x:Value×Nat)=>cs.setIfInBounds (0+x.2) x.1) z.cells).toList=((ncs ns).zipIdx 0).foldl (fun (cs:List Value) x=>cs.set x.2 x.1) z.cells.toList:=by
    rw [←Array.foldl_toList]
    have gen:∀ (L:List (Value×Nat)) (Z:Array Value),(L.foldl (fun (cs:Array Value) (x:Value×Nat)=>cs.setIfInBounds (0+x.2) x.1) Z).toList=L.foldl (fun (cs:List Value) x=>cs.set x.2 x.1) Z.toList:=by
     intro L
     induction L with
     | nil=>intro Z;rfl
     | cons v L ih =>
      intro Z
      rw [List.foldl_cons,List.foldl_cons,ih,Array.toList_setIfInBounds,Nat.zero_add]
    rw [gen]
    simp
   rw [show (fun (cs:Array Value) (x:Value×Nat)=>match x with | (c,j)=>cs.setIfInBounds (0+j) c)=fun cs x=>cs.setIfInBounds (0+x.2) x.1 from rfl]
   rw [e,set_all _ 0 _ (by rw [hl,h,Array.length_toList,h2];omega)]
   rw [hl,h,show 0+3*40=120 by omega,h1]
   rfl
end Go.Proofs.YtnedpkhehiijhaaGreat
namespace Go.Proofs.YtnedpkhehiijhaaGreat
open Go.RowKit Go.WideMaps Go.Maps Go.Sort
set_option linter.unusedVariables false
set_option linter.unusedSimpArgs false

def bA (l:List UInt8):ByteArray:=⟨l.toArray⟩
theorem bA_data (s:ByteArray):bA s.data.toList=s:=by
 unfold bA
 exact ByteArray.ext (Array.toArray_toList ..)
theorem data_bA (l:List UInt8):(bA l).data.toList=l:=rfl
theorem bA_inj {a b:List UInt8} (h:bA a=bA b):a=b:=by
 have:=congrArg (fun s:ByteArray=>s.data.toList) h
 exact this
theorem zplan_len {ns:List Nd} (h:ns.length=40):(zplan ns).length=162:=by
 have hl:=ncs_len ns
 unfold zplan pcs
 rw [List.length_append,List.length_append,hl,h]
 simp [bcs]
theorem zplan_one (ns:List Nd):(zplan ns).toArray.all (·.oneCell')=true:=all_oneCell_toArray (by
 intro u hu
 unfold zplan pcs at hu
 rcases List.mem_append.1 hu with hu | hu
 ·exact ncs_one ns u hu
 ·rcases List.mem_append.1 hu with hu | hu
  ·unfold bcs at hu
   obtain ⟨b,_,rfl⟩:=List.mem_map.1 hu
   rfl
  ·simp at hu
   rcases hu with rfl | rfl <;> rfl)
theorem zcells_size:Tryz.zeroCells99.size=162:=by kernel_rfl
theorem size_plan:(Tryz.prog.info? 99).map (·.size)=some 162:=by kernel_rfl
/-- A value is built in a list's order. -/
theorem wpList_built {P:Program} (w:World) {ops:Array Oper} {rest:List Oper} {o:Oper} {a:Act} {Q:Exit→Act→World→Prop} (hgd:o.guard=none) (t:TypeId) (parts:Array (Nat×Operand)) (ho:o.op = .build t parts) (cells:Array Value)
  (hb:P.built t (parts.map fun p=>(p.1,a.eval p.2)).toList=some cells) (hK:wpList P ops Q rest (a.put o.dst (.agg cells)) w):wpList P ops Q (o :: rest) a w :=
 wpList_plain hgd fun K hK'=>by
  have hr:=run_build w t (parts.map fun p=>(p.1,a.eval p.2)) cells hb
  unfold Oper.wp
  have e:execOp a.eval o=(Next.value <$> Instr.build t (parts.map fun (i,x)=>(i,a.eval x))):=by simp [execOp,ho]
  rw [e]
  have e2:(parts.map fun (i,x)=>(i,a.eval x))=(parts.map fun p=>(p.1,a.eval p.2)):=rfl
  rw [e2]
  have:(Next.value <$> Instr.build t (parts.map fun p=>(p.1,a.eval p.2))).run P w = .ok (.value (.agg cells)) w:=by simp [hr,Result.andThen]
  rw [this]
  exact hK' _ _ hK
theorem wpList_built1 {P:Program} (w:World) {ops:Array Oper} {rest:List Oper} {o:Oper} {a:Act} {Q:Exit→Act→World→Prop} (hgd:o.guard=none) (t:TypeId) (i:Nat) (x:Operand) (ho:o.op = .build t #[(i,x)]) (v:Value) (hx:a.eval x=v) (cells:Array Value)
  (hb:P.built t [(i,v)]=some cells) (hK:wpList P ops Q rest (a.put o.dst (.agg cells)) w):wpList P ops Q (o :: rest) a w :=
 wpList_built w hgd t _ ho cells (by subst hx;simpa using hb) hK
theorem setCells_same:∀ (L:List Value) (w:World) (g o:Nat),(w.setCells g o L).os=w.os∧(w.setCells g o L).tape=w.tape∧(w.setCells g o L).output=w.output
 | [],_,_,_=>⟨rfl,rfl,rfl⟩
 | v :: L,w,g,o=>setCells_same L (w.setCell ⟨g,o,none⟩ v) g (o+1)
theorem setCells_all:∀ (L:List Value) (w:World) (g o:Nat) (T:TypeId) (cs:Array Value),Holds w g T cs→Holds (w.setCells g o L) g T ((L.zipIdx o).foldl (fun (cs:List Value) x=>cs.set x.2 x.1) cs.toList).toArray
 | [],w,g,o,T,cs,h=>h
 | v :: L,w,g,o,T,cs,h=>by
  have h1:=setCells_all L (w.setCell ⟨g,o,none⟩ v) g (o+1) T _ (h.stored o v)
  rw [List.zipIdx_cons,List.foldl_cons]
  rw [Array.toList_setIfInBounds] at h1
  exact h1
/-- A block's cells are stored, all of them. -/
theorem Holds.whole {w:World} {g:Nat} {T:TypeId} {cs:Array Value} {L:List Value} (h:Holds w g T cs) (hl:L.length=cs.size):Holds (w.setCells g 0 L) g T L.toArray:=by
 have h1:=setCells_all L w g 0 T cs h
 have hl3:cs.toList.length=cs.size:=Array.length_toList
 have hl2:0+L.length≤cs.toList.length:=by omega
 rw [set_all L 0 cs.toList hl2] at h1
 have e:cs.toList.take 0 ++ (L ++ cs.toList.drop (0+L.length))=L:=by
  rw [List.take_zero,List.nil_append,List.drop_of_length_le (by omega),List.append_nil]
 rw [e] at h1
 exact h1
theorem Holds.there {w:World} {g:Nat} {T:TypeId} {cs:Array Value} (h:Holds w g T cs) {n:Nat} (hn:n=cs.size):w.there g 0 n:=fun j hj=>by
 refine ⟨?_,h.open_ _⟩
 rw [h.cell,Nat.zero_add,Array.getElem?_eq_getElem (by omega)]
 rfl
theorem zplan_size {ns:List Nd} (h:ns.length=40):(Tryz.prog.info? 99).map (·.size)=some (zplan ns).toArray.size:=by rw [size_plan,List.size_toArray,zplan_len h]
theorem Holds.onlyB {F:Nat→Prop} {W W':World} {g:Nat} {T:TypeId} {cs:Array Value} (h:Holds W g T cs) (ho:Only F W W') (hn:¬ F g):Holds W' g T cs:=(ho.block g h.lt hn).trans h
theorem zcells_one:Tryz.zeroCells99.all (·.oneCell')=true:=by kernel_rfl
theorem zcells_info:(Tryz.prog.info? 99).map (·.size)=some Tryz.zeroCells99.size:=by rw [size_plan,zcells_size]
theorem Holds.rangeAll {W:World} {g:Nat} {T:TypeId} {cs:Array Value} (h:Holds W g T cs):W.rangeAt g 0 cs.toList:=fun j v hv=>by
 rw [h.cell,Nat.zero_add,←hv,Array.getElem?_toList]
/-- A whole plan is loaded. -/
theorem load_plan {W:World} {g:Nat} {cs:Array Value} (h:Holds W g 99 cs) (hs:cs.size=162):(loadVar 99 ⟨g,0,none⟩).run Tryz.prog W = .ok (.agg cs) W:=by
 have:=run_loadVar_mid (P:=Tryz.prog) W g 0 99 cs.toList _ h.rangeAll Tryz.underlying99 rfl (by rw [size_plan,Array.length_toList,hs])
 rwa [Array.toArray_toList] at this
theorem results_box_tmp {fn:Func} {x y:Tmp} {t:TypeId} (h:fn.results=#[.cell x t,.tmp y]) (tmps:Array Value) (P:Program) (w:World) {ad:Addr} (hx:tmps.getD x undef = .pointer (some ad)) {v:Value} (hv:(loadVar t ad).run P w = .ok v w) :
  (results fn tmps).run P w = .ok (.tuple #[v,tmps.getD y undef]) w:=by
 rw [results_cell_tmp h,hx]
 simp [asAddr,hv,Result.andThen]
theorem wpIn_tmps {F:Fence} {n:Nat} {P:Program} {c:Code} {Q:Exit→Act→World→Prop} {tmps:Array Value} {ds:List Deferred} {w:World} (h:∀ T,T=tmps→c.wpIn F n P Q { tmps:=T,defers:=ds } w):c.wpIn F n P Q { tmps:=tmps,defers:=ds } w:=h _ rfl
/-- The whole of what is wanted by these names. -/
def wantK (fs:FateF) (ss:List (List UInt8)):Nat:=(ss.map fun x=>wantF fs (bA x)).sum
def RelSum (V3:World) (b it nn:Nat) (D:DataW Value) (fs:FateF) (si:Value) (wr:World):Prop :=
 ∃ left cnt ss,wr.ranges Tryz.prog 9 heldV b it nn D left cnt∧Collected D left ss∧ss.length+cnt≤Maps.size D∧si = .int .i64 ((wantK fs ss:Nat):Int)∧wantK fs ss≤10*ss.length∧Only (fun k=>k=it) V3 wr
theorem wantK_snoc (fs:FateF) (ss:List (List UInt8)) (x:List UInt8):wantK fs (ss ++ [x])=wantK fs ss+wantF fs (bA x):=by
 unfold wantK
 rw [List.map_append,List.sum_append]
 simp
theorem size_keys {D:DataW Value} (h:IsMap D):(strKeys D).length=Maps.size D:=by
 obtain ⟨es,rfl⟩:=h
 unfold strKeys
 rw [List.length_map]
 rfl
theorem FateR.want {W:World} {B:Nat} {fs:FateF} {vf:ByteArray→Option FV} (h:FateR W B fs vf) (hok:∀ s d,fs s=some (some d)→NameOk s∧d.length≤600) {s:ByteArray} {x:FV} (hx:vf s=some x):needI (x.dn:Int)=(wantF fs s:Int)∧wantF fs s≤10∧x.dn≤600:=by
 have:=h s
 revert this
 unfold wantF
 cases hf:fs s with
 | none=>intro h2;rw [hx] at h2;cases h2
 | some y =>
  cases y with
  | none =>
   intro h2
   rw [hx] at h2
   injection h2 with h2
   subst h2
   exact ⟨rfl,by show 0≤10;omega,by show 0≤600;omega⟩
  | some d =>
   rintro ⟨A,c,h2,_⟩
   rw [hx] at h2
   injection h2 with h2
   subst h2
   have h6:=(hok s d hf).2
   exact ⟨(needN_I d).symm,by show needN d≤10;unfold needN;omega,h6⟩
theorem FV.val_inj {x y:FV} (h:x.val=y.val):x=y:=by
 obtain ⟨a,b,c,d⟩:=x
 obtain ⟨a',b',c',d'⟩:=y
 unfold FV.val at h
 simp only [Value.agg.injEq,Array.mk.injEq,List.cons.injEq,Value.bool.injEq,Value.slice.injEq,and_true] at h
 obtain ⟨rfl,rfl,rfl,rfl⟩:=h
 rfl
theorem MapF.key {W:World} {b n:Nat} {D:DataW Value} {vf:ByteArray→Option FV} (h:MapF W b n D vf) {key v:Value} {kl:Lit} {y:DataW Value×List MemPlace} (hkey:keyOf Tryz.prog 9 key=some kl) (hv:heldV v=some y) (hat:∀ zd,D.atKey kl zd=y.1) :
  ∃ l x,kl = .string l∧v=x.val∧vf (bA l)=some x:=by
 obtain ⟨x,rfl,rfl⟩:=heldV_inv hv
 obtain ⟨l,_,rfl,_⟩:=Maps.keyOf_str Tryz.underlying9 hkey
 have h1:=has_true_of_atKey hat
 have h2:=h.2 (bA l)
 rw [data_bA,h1] at h2
 cases hv2:vf (bA l) with
 | none=>rw [hv2] at h2;exact absurd h2.1 (by simp)
 | some x1 =>
  have h3:=h2.2 x1 hv2 .nil
  rw [hat .nil] at h3
  injection h3 with h3
  exact ⟨l,x,rfl,rfl,by rw [FV.val_inj h3];exact hv2⟩
/-- The slots that are had are noted. -/
def InvU (V W4:World) (gp:Nat) (ns:List Nd) (A:Option Addr) (n c:Nat) (pre:List (Fin 40)) (W:World):Prop :=
 Only (fun k=>k=gp) W4 W∧∃ us,PlanAt W gp ns us A n c none 0 0∧∀ i,i<40→us.getD i false=decide (∃ x∈pre,x.val=i)
theorem invU_own {V W4:World} {gp:Nat} {ns:List Nd} {A:Option Addr} {n c B:Nat} (hB:W4.heap.size≤B):OwnFrom B (InvU V W4 gp ns A n c):=fun pre W W' row h hg hr=>by
 obtain ⟨h1,us,h2,h3⟩:=h
 have hr':∀ q,row=some q→∃ o:Obj,W.heap[q]?=some o∧o.isCells=false:=fun q hq=>(hr q hq).2
 exact ⟨h1.grown hg fun g e=>.inr (Nat.le_trans hB (hr g e).1),us,⟨h2.n40,h2.u40,h2.hd.stay hg hr'⟩,h3⟩
theorem us_of_slots {ns:List Nd} {ys:List (Fin 40)} (h:Slots ns ys) {i:Nat} (hi:i<40):decide (∃ x∈ys,x.val=i)=usedV (nvOf ns i):=by
 cases hu:usedV (nvOf ns i) with
 | true =>
  rw [decide_eq_true_eq]
  exact ⟨⟨i,hi⟩,h.perm.mem_iff.2 (usedK_mem.2 hu),rfl⟩
 | false =>
  rw [decide_eq_false_iff_not]
  rintro ⟨x,hx,rfl⟩
  have:=usedK_mem.1 (h.perm.mem_iff.1 hx)
  rw [←used_nv,hu] at this
  cases this
theorem plan_int:99≠3:=by decide
end Go.Proofs.YtnedpkhehiijhaaGreat
namespace Go.Proofs.YtnedpkhehiijhaaGreat
open Go.RowKit Go.WideMaps Go.Maps
set_option linter.unusedVariables false
set_option linter.unusedSimpArgs false

theorem RdN.more {w:World} {B B':Nat} {A:Option Addr} {c:Nat} {l:List Nd} (h:RdN w B A c l) (hB:B≤B'):RdN w B' A c l :=
 ⟨h.1,h.2.1,fun j hj=>(h.2.2.1 j hj).more hB,fun hn=>by
  obtain ⟨b,off,e,hlt,hc⟩:=h.2.2.2 hn
  exact ⟨b,off,e,by omega,hc⟩⟩
end Go.Proofs.YtnedpkhehiijhaaGreat
namespace Go.Proofs.YtnedpkhehiijhaaGreat
open Go.RowKit
set_option linter.unusedVariables false
set_option linter.unusedSimpArgs false
attribute [local go_sem ↓] Go.wp_at_zero Go.wp_at_succ
set_option maxRecDepth 100000 in
set_option maxHeartbeats 2000000 in
theorem take_new (w:World) (A:Option Addr) (c n:Nat) (l:List Nd) (hn:l.length=n) (hr:RdN w w.heap.size A c l) (hs:∀ j,j<n→(l.getD j default).name.size≤9223372036854775807∧(l.getD j default).size≤9223372036854775807) (m:Nat) (want:Int) (hv:RoomOk l (m:Int)) (hb:Nat→Bool) (hh:∀ x:Nat,hb x=true↔hasL l x n) :
  Calls Tryz.prog 83 #[.slice A n c,.int .i64 (m:Int),.int .i64 want] w fun e w'=>∃ A' c' n' b,e = .returned (.tuple #[.slice A' n' c',.bool b])∧(takeN hb (m - 40) want).1.length=n'∧(takeN hb (m - 40) want).2=b∧Rd .i64 w' w'.heap.size A' c' (takeN hb (m - 40) want).1∧Below w.heap.size w w'∧∀ g,blockOf A'=some g→w.heap.size≤g:=by
 have HF:=Lib.hid (free_yes w A c n l hn hr hs m hv hb hh)
 have HI:Hid (∀ W,Below w.heap.size w W→Calls Tryz.prog 37 #[.slice A n c,.int .i64 (m:Int)] W fun e w'=>e = .returned (.bool true)∧Below W.heap.size W w'∧Below w.heap.size w w'):=Lib.hid fun W hW=>(room_any W A c n l hn ((hr.under hW).more hW.size) hs (m:Int) true ⟨fun _=>hv,fun _=>rfl⟩).mono fun _ _ h=>⟨h.1,h.2,hW.trans (h.2.mono hW.size)⟩
 clear hn hr hs hv hh
 go_enter Tryz.func83,Tryz.ntmps83
 go_wp2_with fail
 refine HF.out.mono ?_
 rintro e w1 ⟨A',c',n',rfl,hl,ho,hq⟩
 have hrd:=ho.rd
 have HL:=Lib.hid hl
 have HRD1:=Lib.hid hrd
 have HQ1:=Lib.hid hq
 have hcap:n'≤c':=by have:=hrd.1;omega
 have hc63:=hrd.2.1
 have HNW:Hid (∀ g,blockOf A'=some g→w.heap.size≤g):=Lib.hid fun g hg=>(ho.block hg).1
 clear hl ho hq hrd HF
 go_wp2_with fail
 refine (HI.out _ HQ1.out).mono ?_
 rintro e w2 ⟨rfl,hb2,hb3⟩
 have HRD:Hid (Rd .i64 w2 w2.heap.size A' c' (freeN hb (m - 40))):=Lib.hid ((HRD1.out.under hb2).more hb2.size)
 have HQ:=Lib.hid hb3
 clear hb2 hb3 HI HRD1 HQ1
 by_cases h1:want<0
 case pos =>
  have d1:decide (want<0)=true:=decide_eq_true h1
  have HT:Hid (takeN hb (m - 40) want=([],false)):=Lib.hid (by unfold takeN;rw [if_neg (by omega)])
  go_wp2_with fail
  exact bodyPost_ret (v:=.tuple #[.slice none 0 0,.bool false]) (by simp [results,Tryz.results83,go_sem]) rfl ⟨none,0,0,false,rfl,by rw [HT.out];rfl,by rw [HT.out],by rw [HT.out];exact Rd.nil_ _ _ _,HQ.out,fun g hg=>nomatch hg⟩
 have d1:decide (want<0)=false:=decide_eq_false h1
 by_cases h2:(n':Int)<want
 case pos =>
  have d2:decide ((n':Int)<want)=true:=decide_eq_true h2
  have HT:Hid (takeN hb (m - 40) want=([],false)):=Lib.hid (by unfold takeN;rw [if_neg (by rw [HL.out];omega)])
  go_wp2_with fail
  exact bodyPost_ret (v:=.tuple #[.slice none 0 0,.bool false]) (by simp [results,Tryz.results83,go_sem]) rfl ⟨none,0,0,false,rfl,by rw [HT.out];rfl,by rw [HT.out],by rw [HT.out];exact Rd.nil_ _ _ _,HQ.out,fun g hg=>nomatch hg⟩
 obtain ⟨k,rfl⟩:∃ k:Nat,want=(k:Int):=⟨want.toNat,by omega⟩
 have d2:decide ((n':Int)<(k:Int))=false:=decide_eq_false h2
 have hk:k≤n':=by omega
 have hkc:(k:Int)≤(c':Int):=by omega
 have hk0:(0:Int)≤(k:Int):=by omega
 have HT:Hid (takeN hb (m - 40) (k:Int)=((freeN hb (m - 40)).take k,true)):=Lib.hid (by unfold takeN;rw [if_pos ⟨by omega,by rw [HL.out];omega⟩,Int.toNat_natCast])
 have HK:Hid (((freeN hb (m - 40)).take k).length=k):=Lib.hid (by rw [List.length_take,HL.out];omega)
 go_wp2_with fail
 exact bodyPost_ret (v:=.tuple #[.slice A' k c',.bool true]) (by simp [results,Tryz.results83,go_sem]) rfl ⟨_,_,k,true,rfl,by rw [HT.out];exact HK.out,by rw [HT.out],by rw [HT.out];exact HRD.out.cut k,HQ.out,HNW.out⟩
end Go.Proofs.YtnedpkhehiijhaaGreat
namespace Go.Proofs.YtnedpkhehiijhaaGreat
open Go.RowKit Go.WideMaps Go.Maps Go.Sort
set_option linter.unusedVariables false
set_option linter.unusedSimpArgs false

theorem own_strs {w:World} {base k:Nat} {T:TypeId} {v:Value} {xs:List Value} (h:w.ownsRow base T 1 v k xs):∃ A c,v = .slice A k c∧OwnV T 1 w A c k xs:=by
 have h0:=ownsRow_base_a (base':=0) h (Nat.zero_le _)
 rcases h.2 with ⟨rfl,h1⟩ | ⟨g,cap,cur,rfl,_⟩
 ·subst h1
  exact ⟨none,0,rfl,h0⟩
 ·exact ⟨some ⟨g,0,none⟩,cap,rfl,h0⟩
/-- The names, in their order. -/
def ksOf (ls:List (List UInt8)):List ByteArray:=ls.map bA
theorem wantK_L (fs:FateF) (ls:List (List UInt8)):wantK fs ls=wantL fs (ksOf ls):=by
 unfold wantK wantL ksOf
 rw [List.map_map]
 rfl
theorem wantK_perm (fs:FateF) {a b:List (List UInt8)} (h:a.Perm b):wantK fs a=wantK fs b:=(h.map _).sum_nat
theorem wantL_drop (fs:FateF) (l:List ByteArray) {k:Nat} (hk:k<l.length):wantL fs (l.drop k)=wantF fs l[k] + wantL fs (l.drop (k+1)):=by
 rw [List.drop_eq_getElem_cons hk]
 rfl
/-- While files are put. -/
structure PutI (p0:Pln) (fs:FateF) (l:List ByteArray) (k:Nat) (p:Pln):Prop where
 fr:∃ t,p.fr=p0.fr.drop t∧t+wantL fs (l.drop k)≤p0.fr.length
 ws:p.ws.length≤11*k
theorem PutI.start {p0:Pln} {fs:FateF} {l:List ByteArray} (h:wantL fs l≤p0.fr.length) (hw:p0.ws=[]):PutI p0 fs l 0 p0:=⟨⟨0,by simp,by simpa using h⟩,by rw [hw];simp⟩
theorem PutI.skip {p0 p:Pln} {fs:FateF} {l:List ByteArray} {k:Nat} (h:PutI p0 fs l k p) (hk:k<l.length) (hf:fs l[k]=some none):PutI p0 fs l (k+1) p:=by
 obtain ⟨t,h1,h2⟩:=h.fr
 rw [wantL_drop fs l hk] at h2
 exact ⟨⟨t,h1,by omega⟩,by have:=h.ws;omega⟩
theorem put_fr {p q:Pln} {slot:Option Nat} {s:ByteArray} {d:List Nat} (h:p.put slot s d=some q):q.fr=p.fr.drop (needN d)∧q.ws.length=p.ws.length+needN d+1:=by
 have key:∀ i us,(p.into i us s d).fr=p.fr.drop (needN d)∧(p.into i us s d).ws.length=p.ws.length+needN d+1:=fun i us=>⟨rfl,by
  show (p.ws ++ putWs p.fr d (needN d) ++ [((i:Int),enc s d.length (p.fr.take (needN d)))]).length=_
  rw [List.length_append,List.length_append]
  simp [putWs]⟩
 unfold Pln.put at h
 cases slot with
 | some i=>injection h with h;subst h;exact key _ _
 | none =>
  dsimp only at h
  split at h
  ·cases h
  ·injection h with h;subst h;exact key _ _
theorem PutI.put {p0 p q:Pln} {fs:FateF} {l:List ByteArray} {k:Nat} (h:PutI p0 fs l k p) (hk:k<l.length) {d:List Nat} (hf:fs l[k]=some (some d)) (hd:d.length≤600) {slot:Option Nat} {s:ByteArray} (hq:p.put slot s d=some q):PutI p0 fs l (k+1) q:=by
 obtain ⟨t,h1,h2⟩:=h.fr
 obtain ⟨h3,h4⟩:=put_fr hq
 rw [wantL_drop fs l hk] at h2
 have hw:wantF fs l[k]=needN d:=by unfold wantF;rw [hf]
 have h10:needN d≤10:=by unfold needN;omega
 refine ⟨⟨t+needN d,by rw [h3,h1,List.drop_drop],by omega⟩,by have:=h.ws;omega⟩
theorem PutI.need {p0 p:Pln} {fs:FateF} {l:List ByteArray} {k:Nat} (h:PutI p0 fs l k p) (hk:k<l.length) {d:List Nat} (hf:fs l[k]=some (some d)):needN d≤p.fr.length:=by
 obtain ⟨t,h1,h2⟩:=h.fr
 rw [wantL_drop fs l hk] at h2
 have hw:wantF fs l[k]=needN d:=by unfold wantF;rw [hf]
 rw [h1,List.length_drop]
 omega
def RelPut (O:Nat→Prop) (w6:World) (gp:Nat) (ov:Nat→V3) (fs:FateF) (l:List ByteArray) (p0:Pln) (si:Value) (wr:World):Prop :=
 ∃ k p,k≤l.length∧si = .int .i64 (k:Int)∧PlAny O w6 gp p wr∧PutI p0 fs l k p∧putAll ov fs l p0=putAll ov fs (l.drop k) p
def RelDrop (O:Nat→Prop) (w6:World) (gp:Nat) (ov:Nat→V3) (fs:FateF) (l:List ByteArray) (p1:Pln) (n:Nat) (si:Value) (wr:World):Prop :=
 ∃ k p,k≤l.length∧si = .int .i64 (k:Int)∧PlAny O w6 gp p wr∧p.ws.length≤n+k∧dropAll ov fs l p1=dropAll ov fs (l.drop k) p
theorem PlAny.only {O:Nat→Prop} {w0 W:World} {gp:Nat} {p:Pln} (h:PlAny O w0 gp p W):Only (fun k=>k=gp) w0 W:=by
 obtain ⟨_,_,_,_,_,_,h⟩:=h
 exact h.only
theorem PlAny.below {O:Nat→Prop} {w0 W W':World} {gp:Nat} {p:Pln} (h:PlAny O w0 gp p W) (hb:Below W.heap.size W W'):PlAny O w0 gp p W':=by
 obtain ⟨ns,fA,fc,wA,wc,l,h⟩:=h
 exact ⟨ns,fA,fc,wA,wc,l,h.other (Only.of_below hb) fun _ e=>e.elim⟩
theorem field_fate0 (t:Bool) (A:Option Addr) (n c:Nat) (W:World):(Instr.field 144 (.agg #[.bool t,.slice A n c]) 0).run Tryz.prog W = .ok (.bool t) W:=by kernel_rfl
theorem field_fate1 (t:Bool) (A:Option Addr) (n c:Nat) (W:World):(Instr.field 144 (.agg #[.bool t,.slice A n c]) 1).run Tryz.prog W = .ok (.slice A n c) W:=by kernel_rfl
def PutQ (O:Nat→Prop) (w0:World) (gp:Nat) (r:Option Pln) (b:Bool) (w':World):Prop:=match r with | none=>b=false | some q=>b=true∧PlAny O w0 gp q w'
theorem PutP.split {O:Nat→Prop} {w0 w:World} {gp:Nat} {r:Option Pln} {e:Ending} {w':World} (h:PutP O w0 w gp r e w'):∃ b,e = .returned (.bool b)∧Only (fun k=>k=gp) w0 w'∧PutQ O w0 gp r b w':=by
 cases r with
 | none=>exact ⟨false,h.1,h.2,rfl⟩
 | some q=>exact ⟨true,h.1,h.2.only,rfl,h.2⟩
/-- What reckon answers. -/
def endM (ov:Nat→V3) (fs:FateF) (l:List ByteArray):Option Pln→Option Pln
 | none=>none
 | some p1=>if (dropAll ov fs l p1).ws.length≤150 then some (dropAll ov fs l p1) else none
noncomputable def reckM (ov:Nat→V3) (fs:FateF) (l:List ByteArray) (us:List Bool) (hb:Nat→Bool) (m:Nat):Option Pln :=
 if wantL fs l≤(freeN hb (m - 40)).length then endM ov fs l (putAll ov fs l ⟨ov,us,(freeN hb (m - 40)).take (wantL fs l),[]⟩) else none
def usL (ns:List Nd):List Bool:=(List.range 40).map fun i=>usedV (nvOf ns i)
theorem usL_is {ns:List Nd} {us:List Bool} (hl:us.length=40) (h:∀ i,i<40→us.getD i false=usedV (nvOf ns i)):us=usL ns:=by
 apply List.ext_getElem
 ·rw [hl];simp [usL]
 ·intro i h1 h2
  have:=h i (by omega)
  simp only [List.getD,List.getElem?_eq_getElem h1,Option.getD_some] at this
  rw [this]
  simp [usL]
/-- A plan, handed back. -/
structure PlOut (O:Nat→Prop) (B:Nat) (p:Pln) (ns:List Nd) (wA:Option Addr) (wc:Nat) (l:List Wr) (W:World):Prop where
 n40:ns.length=40
 nv:∀ i,i<40→nvOf ns i=p.nv i
 pl:∀ d∈ns,RdI .i64 W W.heap.size d.pa d.pc d.pl∧(0<d.pl.length→∀ g,blockOf d.pa=some g→O g∨B≤g)
 own:OwnV 132 2 W wA wc l.length (l.flatMap wrCells)
 wnew:∀ g,blockOf wA=some g→B≤g
 ws:wv l=p.ws
 rd:∀ x∈l,Rd .u8 W W.heap.size x.da x.dc x.d∧(0<x.d.length→∀ g,blockOf x.da=some g→B≤g)
def RckQ (O:Nat→Prop) (B:Nat) (r:Option Pln) (cells:Array Value) (b:Bool) (w':World):Prop :=
 match r with
 | none=>b=false
 | some q=>b=true∧∃ ns us fA fn fc wA wc l,us.length=40∧PlOut O B q ns wA wc l w'∧cells=(pcs ns us fA fn fc wA l.length wc).toArray
def RckP (O:Nat→Prop) (w:World) (r:Option Pln) (e:Ending) (w':World):Prop :=
 Below w.heap.size w w'∧∃ cells b,e = .returned (.tuple #[.agg cells,.bool b])∧cells.size=162∧cells.all (·.oneCell')=true∧RckQ O w.heap.size r cells b w'
theorem pcs_one {ns:List Nd} {us:List Bool} {fA:Option Addr} {fn fc:Nat} {wA:Option Addr} {wn wc:Nat}:(pcs ns us fA fn fc wA wn wc).toArray.all (·.oneCell')=true:=all_oneCell_toArray (by
 intro u hu
 unfold pcs at hu
 rcases List.mem_append.1 hu with hu | hu
 ·exact ncs_one ns u hu
 ·rcases List.mem_append.1 hu with hu | hu
  ·unfold bcs at hu
   obtain ⟨b,_,rfl⟩:=List.mem_map.1 hu
   rfl
  ·simp at hu
   rcases hu with rfl | rfl <;> rfl)
theorem PlanAt.size {w:World} {gp:Nat} {ns:List Nd} {us:List Bool} {fA:Option Addr} {fn fc:Nat} {wA:Option Addr} {wn wc:Nat} (h:PlanAt w gp ns us fA fn fc wA wn wc):(pcs ns us fA fn fc wA wn wc).length=162:=by
 unfold pcs
 rw [List.length_append,List.length_append,h.ncsl,h.bcsl]
 rfl
theorem MapF.ofKey {W:World} {b n:Nat} {D:DataW Value} {vf:ByteArray→Option FV} (h:MapF W b n D vf) {l:List UInt8} (hmem:l∈strKeys D) {nm:ByteArray} (hnm:nm=bA l):nm.size≤9223372036854775807∧∃ x,vf nm=some x:=by
 constructor
 ·have:=strKeys_le h.1 Tryz.underlying9 _ hmem
  rw [hnm]
  unfold bA
  unfold maxLen at this
  show l.toArray.size≤_
  rw [List.size_toArray]
  omega
 ·have h1:=(h.2 nm).1
  have h2:has D (.string nm.data.toList)=true:=by
   rw [hnm,data_bA]
   obtain ⟨es,rfl⟩:=h.1.isMap
   unfold strKeys at hmem
   obtain ⟨q,hq,he⟩:=List.mem_map.1 hmem
   obtain ⟨es',h3,hko⟩:=h.1.keysOf
   injection h3 with h3
   subst h3
   obtain ⟨v0,hv0⟩:=hko q hq
   obtain ⟨x0,_,hx0,_⟩:=Maps.keyOf_str Tryz.underlying9 hv0
   rw [has_eq,List.any_eq_true]
   refine ⟨q,hq,?_⟩
   rw [←he,hx0]
   simp [Lit.sameKey,strOf]
  rw [h2] at h1
  exact Option.isSome_iff_exists.1 h1.symm
theorem PlAny.drew {O:Nat→Prop} {w0 W:World} {gp:Nat} {p:Pln} (h:PlAny O w0 gp p W):PlAny O w0 gp p W.drew:=h.below (Below.refl _ W).drew
theorem PlAny.writeNil {O:Nat→Prop} {w0 W:World} {gp:Nat} {p:Pln} (h:PlAny O w0 gp p W) (hwn:p.ws.length≤8000) (at_:Int) :
  Calls Tryz.prog 87 #[.pointer (some ⟨gp,0,none⟩),.int .i64 at_,.slice none 0 0] W fun e w'=>e = .returned (.tuple #[])∧PlAny O w0 gp { p with ws:=p.ws ++ [(at_,zsec)] } w':=by
 obtain ⟨ns,fA,fc,wA,wc,l,h⟩:=h
 have hl:l.length≤8000:=by
  have h1:=congrArg List.length h.ws
  rw [wv_length] at h1
  omega
 refine (planWrite_nil h.at_ l rfl h.own (fun e=>(h.wnew gp e).2.1 rfl) hl at_).mono ?_
 intro e w' hw
 obtain ⟨he,g',c',x,hst,_⟩:=h.wrote hw
 rw [secOf_nil] at hst
 exact ⟨he,ns,fA,fc,_,c',l ++ [x],hst⟩
theorem PlAny.zero {O:Nat→Prop} {w0 W:World} {gp:Nat} {p:Pln} (h:PlAny O w0 gp p W) {i:Nat} (hi:i<40):W.there gp (i*3) 3∧PlAny O w0 gp { p with nv:=updV p.nv i zV } (W.setCells gp (i*3) [.string ⟨#[]⟩,.int .i64 0,.slice none 0 0]):=by
 obtain ⟨ns,fA,fc,wA,wc,l,h⟩:=h
 refine ⟨fun j hj=>?_,ns.set i zNd,fA,fc,wA,wc,l,h.node (G':=fun _=>False) hi (d:=zNd) ⟨Nat.le_refl _,by show 0≤_;omega,fun hn=>(nomatch hn)⟩ (fun hn=>(nomatch hn)) (fun _ e=>e) (fun hn=>(nomatch hn)) (fun hn=>(nomatch hn))⟩
 have hh:Holds W gp 99 _:=h.at_.hd
 refine ⟨?_,hh.open_ _⟩
 rw [hh.cell]
 have hl:=h.at_.ncsl
 unfold pcs
 simp
 omega
end Go.Proofs.YtnedpkhehiijhaaGreat
