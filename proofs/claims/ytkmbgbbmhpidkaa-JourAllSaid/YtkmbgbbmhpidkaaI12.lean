/- Words and laws for the statement, part 12. -/
import Derived.OpenShut
import Derived.ChangeSlices
import Derived.ChangeArms
import Derived.WideShapes
import Derived.Deep.Matrix
import Derived.Deep.Slices
import Derived.Lib.SmallJoins
import Derived.Test.YtkmbgbbmhpidkaaI01
import Derived.Test.YtkmbgbbmhpidkaaI05
import Derived.Test.YtkmbgbbmhpidkaaI08
import Derived.Test.YtkmbgbbmhpidkaaI10
import Derived.Test.YtkmbgbbmhpidkaaI11
namespace Go.Proofs.Ytkmbgbbmhpidkaa
open Go.RowKit Go.Shelf
set_option linter.unusedVariables false
set_option linter.unusedSimpArgs false

/-- An act of the argument. -/
structure Aj where
 kind:Int
 wa:Option Addr
 wc:Nat
 wl:List Wr
 ca:Int
 ka:Option Addr
 kc:Nat
 kl:List Bool
instance:Inhabited Aj:=⟨⟨0,none,0,[],0,none,0,[]⟩⟩
def AjAt (w:World) (g o:Nat) (a:Aj):Prop :=
 w.cell? ⟨g,o,none⟩=some (.int .i64 a.kind)∧w.cell? ⟨g,o+1,none⟩=some (.slice a.wa a.wl.length a.wc)∧w.cell? ⟨g,o+2,none⟩=some (.int .i64 a.ca)∧w.cell? ⟨g,o+3,none⟩=some (.slice a.ka a.kl.length a.kc)
def RdAj (w:World) (A:Option Addr) (c:Nat) (l:List Aj):Prop :=
 l.length≤c∧c≤9223372036854775807∧(∀ j,j<l.length→RdWr (l.getD j default).wa (l.getD j default).wc (l.getD j default).wl w∧(∀ x∈(l.getD j default).wl,Oct1 x.d)∧Truths w (l.getD j default).ka (l.getD j default).kc (l.getD j default).kl) ∧
  (0<l.length→∃ b off,A=some ⟨b,off,none⟩∧b<w.heap.size∧∀ j,j<l.length→AjAt w b (off+j*4) (l.getD j default))
theorem RdWr.keepLow {A:Option Addr} {c:Nat} {l:List Wr} {w w':World} (h:RdWr A c l w) (hs:w.heap.size≤w'.heap.size) (hk:∀ g,g<w.heap.size→w'.heap[g]?=w.heap[g]?):RdWr A c l w' :=
 ⟨h.1,h.2.1,fun j hj=>(h.2.2.1 j hj).keepB hs fun g _ hg=>hk g hg,fun hn=>by
  obtain ⟨b,off,e,hlt,hc⟩:=h.2.2.2 hn
  exact ⟨b,off,e,Nat.lt_of_lt_of_le hlt hs,fun j hj=>⟨(World.cell?_of_block (a:=⟨b,_,none⟩) (hk b hlt)).trans (hc j hj).1,(World.cell?_of_block (a:=⟨b,_,none⟩) (hk b hlt)).trans (hc j hj).2⟩⟩⟩
/-- What lies below w is off all that lies from it on. -/
theorem RdWr.offLow {A:Option Addr} {c:Nat} {l:List Wr} {w w1:World} (h:RdWr A c l w) (hb:Below w.heap.size w w1) (F:Nat→Prop) (hF:∀ k,F k→w.heap.size≤k):OffF F (RdWr A c l) w1:=fun w' hs hk =>
 h.keepLow (Nat.le_trans hb.size hs) fun g hg=>(hk g (fun e=>by have:=hF g e;omega) (Nat.lt_of_lt_of_le hg hb.size)).trans (hb.block g hg)
/-- Both disks, and block bx is none of theirs. -/
def TwoX (w:World) (B bx gd:Nat) (s1:Dk) (gx:Nat) (s2:Dk):Prop :=
 bx<w.heap.size∧B≤w.heap.size∧∃ F1 F2:Nat→Prop,Disk w F1 gd s1∧Ref w F2 gx s2∧(∀ k,F1 k→B≤k∧k<w.heap.size∧k≠bx)∧(∀ k,F2 k→B≤k∧k<w.heap.size∧k≠bx)∧∀ k,F1 k→¬ F2 k
section
variable {w w':World} {B bx gd gx:Nat} {s1 s2 s1' s2':Dk}
theorem TwoX.to (h:TwoX w B bx gd s1 gx s2):Two w B gd s1 gx s2:=by
 obtain ⟨hx,hB,F1,F2,d,r,l1,l2,hd⟩:=h
 exact ⟨hB,F1,F2,d,r,fun k hk=>⟨(l1 k hk).1,(l1 k hk).2.1⟩,fun k hk=>⟨(l2 k hk).1,(l2 k hk).2.1⟩,hd⟩
theorem TwoX.of (h:Two w B gd s1 gx s2) (hb:Below w.heap.size w w') (hw:w.heap.size≤bx) (hlt:bx<w'.heap.size):TwoX w' B bx gd s1 gx s2:=by
 obtain ⟨hB,F1,F2,d,r,l1,l2,hd⟩:=h
 exact ⟨hlt,Nat.le_trans hB hb.size,F1,F2,d.keep (Only.of_below (F:=fun _=>False) hb) (fun _ _ e=>e),r.under hb,fun k hk=>⟨(l1 k hk).1,Nat.lt_of_lt_of_le (l1 k hk).2 hb.size,by have:=(l1 k hk).2;omega⟩,fun k hk=>⟨(l2 k hk).1,Nat.lt_of_lt_of_le (l2 k hk).2 hb.size,by have:=(l2 k hk).2;omega⟩,hd⟩
theorem TwoX.under (h:TwoX w B bx gd s1 gx s2) (hb:Below w.heap.size w w'):TwoX w' B bx gd s1 gx s2:=by
 obtain ⟨hx,hB,F1,F2,d,r,l1,l2,hd⟩:=h
 exact ⟨Nat.lt_of_lt_of_le hx hb.size,Nat.le_trans hB hb.size,F1,F2,d.keep (Only.of_below (F:=fun _=>False) hb) (fun _ _ e=>e),r.under hb,fun k hk=>⟨(l1 k hk).1,Nat.lt_of_lt_of_le (l1 k hk).2.1 hb.size,(l1 k hk).2.2⟩,fun k hk=>⟨(l2 k hk).1,Nat.lt_of_lt_of_le (l2 k hk).2.1 hb.size,(l2 k hk).2.2⟩,hd⟩
theorem TwoX.left {P:Program} {f:FuncId} {args:Array Value} {v:Value} (h:TwoX w B bx gd s1 gx s2) (hc:∀ F1:Nat→Prop,Disk w F1 gd s1→(∀ k,F1 k→B≤k)→Calls P f args w fun e w'=>e = .returned v∧Disk w' (grow F1 w w') gd s1'∧Only F1 w w') :
  Calls P f args w fun e w'=>e = .returned v∧TwoX w' B bx gd s1' gx s2∧Below B w w'∧w'.heap[bx]?=w.heap[bx]?:=by
 obtain ⟨hx,hB,F1,F2,d,r,l1,l2,hd⟩:=h
 refine (hc F1 d fun k hk=>(l1 k hk).1).mono ?_
 rintro e w' ⟨rfl,d',ho⟩
 refine ⟨rfl,⟨Nat.lt_of_lt_of_le hx ho.size,Nat.le_trans hB ho.size,_,F2,d',r.keep ho fun k a b=>hd k b a,fun k hk=>?_,fun k hk=>⟨(l2 k hk).1,Nat.lt_of_lt_of_le (l2 k hk).2.1 ho.size,(l2 k hk).2.2⟩,fun k hk hk2=>?_⟩,ho.below (fun k hk=>(l1 k hk).1) hB,ho.block bx hx fun e=>(l1 bx e).2.2 rfl⟩
 ·rcases hk with hk | hk
  ·exact ⟨(l1 k hk).1,Nat.lt_of_lt_of_le (l1 k hk).2.1 ho.size,(l1 k hk).2.2⟩
  ·exact ⟨Nat.le_trans hB hk.1,hk.2,by omega⟩
 ·rcases hk with hk | hk
  ·exact hd k hk hk2
  ·have:=(l2 k hk2).2.1;omega
theorem TwoX.right {P:Program} {f:FuncId} {args:Array Value} {v:Value} (h:TwoX w B bx gd s1 gx s2) (hc:∀ F2:Nat→Prop,Ref w F2 gx s2→(∀ k,F2 k→B≤k)→Calls P f args w fun e w'=>e = .returned v∧Ref w' (grow F2 w w') gx s2'∧Only F2 w w') :
  Calls P f args w fun e w'=>e = .returned v∧TwoX w' B bx gd s1 gx s2'∧Below B w w'∧w'.heap[bx]?=w.heap[bx]?:=by
 obtain ⟨hx,hB,F1,F2,d,r,l1,l2,hd⟩:=h
 refine (hc F2 r fun k hk=>(l2 k hk).1).mono ?_
 rintro e w' ⟨rfl,r',ho⟩
 refine ⟨rfl,⟨Nat.lt_of_lt_of_le hx ho.size,Nat.le_trans hB ho.size,F1,_,d.keep ho fun k a b=>hd k a b,r',fun k hk=>⟨(l1 k hk).1,Nat.lt_of_lt_of_le (l1 k hk).2.1 ho.size,(l1 k hk).2.2⟩,fun k hk=>?_,fun k hk hk2=>?_⟩,ho.below (fun k hk=>(l2 k hk).1) hB,ho.block bx hx fun e=>(l2 bx e).2.2 rfl⟩
 ·rcases hk with hk | hk
  ·exact ⟨(l2 k hk).1,Nat.lt_of_lt_of_le (l2 k hk).2.1 ho.size,(l2 k hk).2.2⟩
  ·exact ⟨Nat.le_trans hB hk.1,hk.2,by omega⟩
 ·rcases hk2 with hk2 | hk2
  ·exact hd k hk hk2
  ·have:=(l1 k hk).2.1;omega
end
section
variable {w w':World} {B bx gd gx:Nat} {s s1 s2:Dk}
theorem commit_le (s:Dk) (l:List (Int×List Nat)) (hn:l.length≤12):(s.commit l).1.waits.length≤s.waits.length+100∧(s.commit l).1.ops≤s.ops+100:=by
 have h1:=putf_le s (logD l ++ logS l)
 have h2:(logD l ++ logS l).length≤13:=by
  have:sheetsN l.length≤1:=by unfold sheetsN;omega
  simp [logD,logS]
  omega
 have h3:=putf_le (s.putf (logD l ++ logS l)).1 [(1,markB l.length)]
 have h4:=fin_le ((s.putf (logD l ++ logS l)).1.putf [(1,markB l.length)]).1 l
 simp only [List.length_cons,List.length_nil] at h3
 unfold Dk.commit
 split
 ·split
  ·exact ⟨Nat.le_add_right _ _,Nat.le_add_right _ _⟩
  ·split
   ·exact ⟨Nat.le_add_right _ _,Nat.le_add_right _ _⟩
   ·split
    ·split
     ·omega
     ·omega
    ·omega
 ·exact ⟨Nat.le_add_right _ _,Nat.le_add_right _ _⟩
theorem fin_now (s:Dk) (l:List (Int×List Nat)):(s.fin l).1.now.length=s.now.length:=by
 unfold Dk.fin
 split
 ·rw [putf_now,putf_now]
 ·rw [putf_now]
theorem commit_now (s:Dk) (l:List (Int×List Nat)):(s.commit l).1.now.length=s.now.length:=by
 unfold Dk.commit
 split
 ·split
  ·rfl
  ·split
   ·rfl
   ·split
    ·split
     ·rw [fin_now,putf_now,putf_now]
     ·rw [putf_now,putf_now]
    ·rw [putf_now]
 ·rfl
end
end Go.Proofs.Ytkmbgbbmhpidkaa
namespace Go.Proofs.Ytkmbgbbmhpidkaa
open Go.RowKit
set_option linter.unusedVariables false
set_option linter.unusedSimpArgs false

theorem getDs {a:List (List Nat)} {j i:Nat} {x:List Nat}:(a.set j x).getD i []=a.getD i []∨(j=i∧(a.set j x).getD i []=x):=by
 by_cases h:j=i
 ·subst h
  rcases Nat.lt_or_ge j a.length with h1 | h1
  ·exact .inr ⟨rfl,by simp [List.getD,h1]⟩
  ·exact .inl (by rw [List.set_eq_of_length_le h1])
 ·exact .inl (by simp [List.getD,List.getElem?_set_ne h])
/-- Some of the writes have become of what was. -/
def Mix (a:List (List Nat)) (W:List (Int×List Nat)) (b:List (List Nat)):Prop:=b.length=a.length∧∀ i,b.getD i []=a.getD i []∨∃ p∈W,p.1.toNat=i∧b.getD i []=p.2
theorem setAll_mix (a:List (List Nat)) (W:List (Int×List Nat)):Mix a W (setAll a W):=by
 refine ⟨setAll_length _ _,fun i=>?_⟩
 induction W generalizing a with
 | nil=>exact .inl rfl
 | cons p l ih =>
  rcases ih (a.set p.1.toNat p.2) with h | ⟨q,hq,h1,h2⟩
  ·rcases getDs (a:=a) (j:=p.1.toNat) (i:=i) (x:=p.2) with h3 | ⟨h3,h4⟩
   ·exact .inl (h.trans h3)
   ·exact .inr ⟨p,List.mem_cons_self,h3,h.trans h4⟩
  ·exact .inr ⟨q,List.mem_cons_of_mem _ hq,h1,h2⟩
theorem fallN_mix (kp:Nat→Bool) (W:List (Nat×List Nat)) (L:List (List Nat)) (i:Nat):∀ k,k≤W.length→(fallN kp W L k).getD i []=L.getD i []∨∃ p∈W,p.1=i∧(fallN kp W L k).getD i []=p.2
 | 0,_=>.inl rfl
 | k+1,hk=>by
  rw [fallN]
  have ih:=fallN_mix kp W L i k (by omega)
  split
  ·rcases getDs (a:=fallN kp W L k) (j:=(W.getD k default).1) (i:=i) (x:=(W.getD k default).2) with h3 | ⟨h3,h4⟩
   ·rw [h3]
    exact ih
   ·have e:W[k]?=some (W.getD k default):=by simp [List.getD,show k<W.length by omega]
    exact .inr ⟨_,List.mem_of_getElem? e,h3,h4⟩
  ·exact ih
def wn (l:List (Int×List Nat)):List (Nat×List Nat):=l.map fun p=>(p.1.toNat,p.2)
/-- What lasts where it crashes among writes. -/
theorem puts_cases {s:Dk} {l:List (Int×List Nat)} (hd:s.down=false) (hf:FitW s.now.length l) :
  ((s.puts l).2=0∧(s.puts l).1.down=false∧(s.puts l).1.now=setAll s.now l∧(s.puts l).1.lasts=s.lasts∧(s.puts l).1.waits=s.waits ++ wn l) ∨
  ((s.puts l).2=6∧(s.puts l).1.down=true∧(s.puts l).1.waits=[]∧(s.puts l).1.lasts.length=s.lasts.length∧∀ i,(s.puts l).1.lasts.getD i []=s.lasts.getD i []∨∃ p∈s.waits ++ wn l,p.1=i∧(s.puts l).1.lasts.getD i []=p.2):=by
 induction l generalizing s with
 | nil=>exact .inl ⟨rfl,hd,rfl,rfl,by simp [wn,Dk.puts]⟩
 | cons p l ih =>
  have hp:=hf p List.mem_cons_self
  rw [Dk.puts]
  by_cases hdue:s.due=true
  ·have e:s.write p.1 p.2=(s.fall,6):=by
    unfold Dk.write
    rw [if_neg (by rw [hd];simp),if_pos (show s.fits p.1 p.2 from hp),if_pos hdue]
   rw [e,if_neg (by simp)]
   refine .inr ⟨rfl,rfl,rfl,fallN_length _ _ _ _,fun i=>?_⟩
   rcases fallN_mix (fun j=>s.keep.getD j false) s.waits s.lasts i _ (Nat.le_refl _) with h | ⟨q,hq,h1,h2⟩
   ·exact .inl h
   ·exact .inr ⟨q,List.mem_append_left _ hq,h1,h2⟩
  ·have e:s.write p.1 p.2=(s.wrote p.1.toNat p.2,0):=by
    unfold Dk.write
    rw [if_neg (by rw [hd];simp),if_pos (show s.fits p.1 p.2 from hp),if_neg hdue]
   rw [e,if_pos rfl]
   have hl:(s.wrote p.1.toNat p.2).now.length=s.now.length:=by show (s.now.set _ _).length=_;simp
   have hw:(s.wrote p.1.toNat p.2).waits ++ wn l=s.waits ++ wn (p :: l):=by
    show (s.waits ++ [(p.1.toNat,p.2)]) ++ wn l=_
    simp [wn]
   rcases ih (s:=s.wrote p.1.toNat p.2) hd (by rw [hl];exact fun q hq=>hf q (List.mem_cons_of_mem _ hq)) with ⟨a1,a2,a3,a4,a5⟩ | ⟨a1,a2,a3,a4,a5⟩
   ·exact .inl ⟨a1,a2,a3,a4,a5.trans hw⟩
   ·rw [hw] at a5
    exact .inr ⟨a1,a2,a3,a4,a5⟩
def Still (s:Dk):Prop:=s.Sound∧s.waits=[]
theorem Still.now {s:Dk} (h:Still s):s.now=s.lasts:=by
 have:=h.1
 unfold Dk.Sound at this
 rw [h.2] at this
 exact this
theorem puts_sound {s:Dk} (h:s.Sound) (l:List (Int×List Nat)):(s.puts l).1.Sound:=by
 induction l generalizing s with
 | nil=>exact h
 | cons p l ih =>
  rw [Dk.puts]
  split
  ·exact ih (h.write _ _)
  ·exact h.write _ _
theorem putf_cases {s:Dk} {l:List (Int×List Nat)} (hs:Still s) (hd:s.down=false) (hf:FitW s.now.length l) :
  Still (s.putf l).1∧(((s.putf l).2=0∧(s.putf l).1.down=false∧(s.putf l).1.now=setAll s.now l)∨((s.putf l).2=6∧(s.putf l).1.down=true∧Mix s.now l (s.putf l).1.now)):=by
 have hsd:=puts_sound hs.1 l
 have hn:=hs.now
 have hmix:∀ b:List (List Nat),b.length=s.lasts.length→(∀ i,b.getD i []=s.lasts.getD i []∨∃ p∈s.waits ++ wn l,p.1=i∧b.getD i []=p.2)→Mix s.now l b:=fun b h1 h2=>by
  rw [hn]
  refine ⟨h1,fun i=>?_⟩
  rcases h2 i with h | ⟨q,hq,h3,h4⟩
  ·exact .inl h
  ·rw [hs.2,List.nil_append] at hq
   obtain ⟨p,hp,rfl⟩:=List.mem_map.1 hq
   exact .inr ⟨p,hp,h3,h4⟩
 rcases puts_cases hd hf with ⟨a1,a2,a3,a4,a5⟩ | ⟨a1,a2,a3,a4,a5⟩
 ·rw [putf_go a1]
  have hfl:=hsd.flush
  unfold Dk.flush at hfl ⊢
  rw [if_neg (by rw [a2];simp)] at hfl ⊢
  by_cases hdue:(s.puts l).1.due=true
  ·rw [if_pos hdue] at hfl ⊢
   have hst:Still (s.puts l).1.fall:=⟨hfl,rfl⟩
   refine ⟨hst,.inr ⟨rfl,rfl,?_⟩⟩
   rw [hst.now]
   refine hmix _ ((fallN_length _ _ _ _).trans (by rw [a4])) fun i=>?_
   rcases fallN_mix (fun j=>(s.puts l).1.keep.getD j false) (s.puts l).1.waits (s.puts l).1.lasts i _ (Nat.le_refl _) with h | ⟨q,hq,h1,h2⟩
   ·exact .inl (h.trans (by rw [a4]))
   ·rw [a5] at hq
    exact .inr ⟨q,hq,h1,h2⟩
  ·rw [if_neg hdue] at hfl ⊢
   exact ⟨⟨hfl,rfl⟩,.inl ⟨rfl,a2,a3⟩⟩
 ·have h0:(s.puts l).2≠0:=by omega
  rw [putf_stop h0]
  have hst:Still (s.puts l).1:=⟨hsd,a3⟩
  refine ⟨hst,.inr ⟨a1,a2,?_⟩⟩
  rw [hst.now]
  exact hmix _ a4 a5
def plW (l:List (Int×List Nat)):List (Int×List Nat):=l.map fun p=>(157+p.1,p.2)
theorem plW_fit {N:Nat} {l:List (Int×List Nat)} (hg:∀ p∈l,0≤p.1∧157+p.1<(N:Int)∧p.2.length=64):FitW N (plW l):=fun p hp=>by
 obtain ⟨q,hq,rfl⟩:=List.mem_map.1 hp
 have:=hg q hq
 exact ⟨by dsimp only;omega,this.2.1,this.2.2⟩
theorem fin_cases {s:Dk} {l:List (Int×List Nat)} (hs:Still s) (hd:s.down=false) (hn:158≤s.now.length) (hg:∀ p∈l,0≤p.1∧157+p.1<(s.now.length:Int)∧p.2.length=64) :
  Still (s.fin l).1∧(((s.fin l).2=0∧(s.fin l).1.down=false∧(s.fin l).1.now=setAll (setAll s.now (plW l)) [(1,zsec)]) ∨
   ((s.fin l).2=6∧(s.fin l).1.down=true∧(Mix s.now (plW l) (s.fin l).1.now∨Mix (setAll s.now (plW l)) [(1,zsec)] (s.fin l).1.now))):=by
 have h1:=putf_cases hs hd (plW_fit hg)
 have e:s.fin l=if (s.putf (plW l)).2=0 then (s.putf (plW l)).1.putf [(1,zsec)] else s.putf (plW l):=rfl
 rw [e]
 obtain ⟨hst,⟨a1,a2,a3⟩ | ⟨a1,a2,a3⟩⟩:=h1
 ·rw [if_pos a1]
  have h2:=putf_cases (l:=[(1,zsec)]) hst a2 (fun p hp=>by
   rw [List.mem_singleton.1 hp,a3,setAll_length]
   exact ⟨by dsimp only;omega,by dsimp only;omega,zsec_len⟩)
  rw [a3] at h2
  obtain ⟨hst2,⟨b1,b2,b3⟩ | ⟨b1,b2,b3⟩⟩:=h2
  ·exact ⟨hst2,.inl ⟨b1,b2,b3⟩⟩
  ·exact ⟨hst2,.inr ⟨b1,b2,.inr b3⟩⟩
 ·rw [if_neg (by omega)]
  exact ⟨hst,.inr ⟨a1,a2,.inl a3⟩⟩

/-! What stands on a disk. -/
structure Cl (a:List (List Nat)) (N:Nat) (P:Nat→List Nat):Prop where
 len:a.length=N
 head:a.getD 0 []=apstB
 mark:a.getD 1 []=zsec
 pl:∀ i,157+i<N→a.getD (157+i) []=P i
def toldA (a:List (List Nat)) (n k:Nat):Int×List Nat :=
 ((((a.getD (2+k / 32) []).getD (2*(k % 32)) 0*256+(a.getD (2+k / 32) []).getD (2*(k % 32)+1) 0:Nat):Int),a.getD (2+sheetsN n+k) [])
def LogA (a:List (List Nat)) (L:List (Int×List Nat)):Prop:=(List.range L.length).map (toldA a L.length)=L
structure Mk (a:List (List Nat)) (N:Nat) (P:Nat→List Nat) (L:List (Int×List Nat)):Prop where
 len:a.length=N
 head:a.getD 0 []=apstB
 mark:a.getD 1 []=markB L.length
 log:LogA a L
 pl:∀ i:Nat,157+i<N→(∀ p∈L,p.1≠(i:Int))→a.getD (157+i) []=P i
def AllA (a:List (List Nat)) (L:List (Int×List Nat)):Prop:=∀ p∈L,a.getD (157+p.1.toNat) []=p.2
structure Dn (a:List (List Nat)) (N:Nat) (P:Nat→List Nat) (L:List (Int×List Nat)):Prop where
 len:a.length=N
 head:a.getD 0 []=apstB
 mark:a.getD 1 []=zsec
 all:AllA a L
 pl:∀ i:Nat,157+i<N→(∀ p∈L,p.1≠(i:Int))→a.getD (157+i) []=P i
structure GoodL (N:Nat) (L:List (Int×List Nat)):Prop where
 n1:158≤N
 n2:N≤400
 fit:∀ p∈L,0≤p.1∧157+p.1<(N:Int)∧p.2.length=64
 nd:(L.map (·.1)).Nodup
 ne:0<L.length
 le:L.length≤10
section
variable {a a':List (List Nat)} {N:Nat} {P:Nat→List Nat} {L:List (Int×List Nat)}
theorem Mix.off {W:List (Int×List Nat)} (h:Mix a W a') {i:Nat} (hi:∀ p∈W,p.1.toNat≠i):a'.getD i []=a.getD i []:=by
 rcases h.2 i with h1 | ⟨p,hp,h1,_⟩
 ·exact h1
 ·exact absurd h1 (hi p hp)
theorem log_idx (hg:GoodL N L):∀ p∈logD L ++ logS L,2≤p.1.toNat∧p.1.toNat<157:=fun p hp=>by
 have h1:=hg.le
 have h2:sheetsN L.length≤1:=by unfold sheetsN;omega
 rcases List.mem_append.1 hp with hp | hp
 ·obtain ⟨k,hk,rfl⟩:=List.mem_mapIdx.1 hp
  dsimp only
  omega
 ·obtain ⟨t,ht,rfl⟩:=List.mem_map.1 hp
  have:=List.mem_range.1 ht
  dsimp only
  omega
theorem Cl.logged (h:Cl a N P) (hg:GoodL N L) (hm:Mix a (logD L ++ logS L) a'):Cl a' N P:=by
 have hi:=log_idx hg
 have ho:∀ i,(i<2∨157≤i)→a'.getD i []=a.getD i []:=fun i hh=>hm.off fun p hp e=>by have:=hi p hp;omega
 exact ⟨hm.1.trans h.len,(ho 0 (by omega)).trans h.head,(ho 1 (by omega)).trans h.mark,fun i hh=>(ho _ (by omega)).trans (h.pl i hh)⟩
theorem fillS_getD (l:List Nat):∀ k,k≤64→∀ j,j<k→(fillS l k).getD j 0=l.getD j 0
 | 0,_,j,h=>by omega
 | k+1,hk,j,h=>by
  rw [fillS]
  by_cases e:k=j
  ·subst e
   have:k<(fillS l k).length:=by rw [fillS_length];omega
   simp [List.getD,this]
  ·have h1:=fillS_getD l k (by omega) j (by omega)
   rw [←h1]
   simp [List.getD,List.getElem?_set_ne e]
theorem secOf_getD {l:List Nat} {j:Nat} (h:j<l.length) (h2:j<64):(secOf l).getD j 0=l.getD j 0:=by
 unfold secOf
 exact fillS_getD l _ (Nat.min_le_right _ _) j (by omega)
theorem placesG (L:List (Int×List Nat)) {k:Nat} (hk:k<L.length):(placesB L).getD (2*k) 0=L[k].1.toNat / 256 % 256∧(placesB L).getD (2*k+1) 0=L[k].1.toNat % 256:=by
 have h0:=flat_at (f:=fun p:Int×List Nat=>two8 p.1.toNat) (m:=2) (L:=L) (fun _ _=>rfl) (i:=k) (j:=0) (x:=L[k]) (by simp [hk]) (by omega)
 have h1:=flat_at (f:=fun p:Int×List Nat=>two8 p.1.toNat) (m:=2) (L:=L) (fun _ _=>rfl) (i:=k) (j:=1) (x:=L[k]) (by simp [hk]) (by omega)
 unfold placesB
 rw [List.getD,List.getD,show 2*k=2*k+0 from rfl,h0,show 2*k+0+1=2*k+1 from rfl,h1]
 exact ⟨rfl,rfl⟩
theorem places_len (L:List (Int×List Nat)):(placesB L).length=2*L.length:=by
 unfold placesB
 induction L with
 | nil=>rfl
 | cons p l ih=>rw [List.flatMap_cons,List.length_append,ih];simp [two8];omega
theorem log_told (hl:a.length=N) (hg:GoodL N L):LogA (setAll a (logD L ++ logS L)) L:=by
 have h1:=hg.le
 have h2:=hg.ne
 have h3:=hg.n1
 have hsh:sheetsN L.length=1:=by unfold sheetsN;omega
 have hS:logS L=[(2,shB L 0)]:=by unfold logS;rw [hsh];rfl
 have hs:(setAll a (logD L ++ logS L)).getD 2 []=shB L 0:=by
  rw [hS]
  exact setAll_on (a:=a) (l:=logD L) (r:=[]) (p:=(2,shB L 0)) (by show 2<a.length;omega) (fun q hq=>by cases hq)
 have hlen:(logD L).length=L.length:=by simp [logD]
 have hd:∀ k (hk:k<L.length),(setAll a (logD L ++ logS L)).getD (2+1+k) []=L[k].2:=fun k hk=>by
  have hk':k<(logD L).length:=by rw [hlen];exact hk
  have he:(logD L)[k]=(((2+1+k:Nat):Int),L[k].2):=by simp [logD,hsh]
  have hsp:logD L ++ logS L=(logD L).take k ++ (((2+1+k:Nat):Int),L[k].2) :: ((logD L).drop (k+1) ++ logS L):=by
   have h0:=List.take_append_drop k (logD L)
   rw [List.drop_eq_getElem_cons hk',he] at h0
   conv=>lhs;rw [←h0]
   rw [List.append_assoc,List.cons_append]
  rw [hsp]
  have:=setAll_on (a:=a) (l:=(logD L).take k) (r:=(logD L).drop (k+1) ++ logS L) (p:=(((2+1+k:Nat):Int),L[k].2)) (by dsimp only;rw [Int.toNat_natCast];omega) (fun q hq=>by
   dsimp only
   rw [Int.toNat_natCast]
   rcases List.mem_append.1 hq with hq | hq
   ·obtain ⟨j,hj,rfl⟩:=List.getElem_of_mem hq
    rw [List.getElem_drop]
    simp only [logD,List.getElem_mapIdx,hsh]
    rw [Int.toNat_natCast]
    omega
   ·rw [hS] at hq
    rw [List.mem_singleton.1 hq]
    dsimp only
    omega)
  dsimp only at this
  rw [Int.toNat_natCast] at this
  exact this
 refine List.ext_getElem (by simp) fun k hk1 hk2=>?_
 have hk:k<L.length:=hk2
 have hp:=placesG L hk
 have hpl:=places_len L
 have hfit:=hg.fit L[k] (List.getElem_mem hk)
 have hn2:=hg.n2
 simp only [List.getElem_map,List.getElem_range]
 unfold toldA
 rw [hsh,hd k hk,show k / 32=0 by omega,show k % 32=k by omega,Nat.add_zero,hs]
 unfold shB
 rw [Nat.mul_zero,List.drop_zero,secOf_getD (by omega) (by omega),secOf_getD (by omega) (by omega),hp.1,hp.2]
 refine Prod.ext ?_ rfl
 show ((L[k].1.toNat / 256 % 256*256+L[k].1.toNat % 256:Nat):Int)=L[k].1
 omega
theorem LogA.same (h:LogA a L) (hs:∀ i,2≤i→i<157→a'.getD i []=a.getD i []) (hl:L.length≤10):LogA a' L:=by
 unfold LogA at h ⊢
 refine (List.map_congr_left fun k hk=>?_).trans h
 have:=List.mem_range.1 hk
 have h1:sheetsN L.length≤1:=by unfold sheetsN;omega
 unfold toldA
 rw [hs (2+k / 32) (by omega) (by omega),hs (2+sheetsN L.length+k) (by omega) (by omega)]
theorem Cl.marked (h:Cl a N P) (hg:GoodL N L) (hlog:LogA a L) (hm:Mix a [(1,markB L.length)] a'):Cl a' N P∨Mk a' N P L:=by
 have ho:∀ i,i≠1→a'.getD i []=a.getD i []:=fun i hh=>hm.off fun p hp e=>by rw [List.mem_singleton.1 hp] at e;exact hh e.symm
 rcases hm.2 1 with h1 | ⟨p,hp,_,h1⟩
 ·exact .inl ⟨hm.1.trans h.len,(ho 0 (by omega)).trans h.head,h1.trans h.mark,fun i hh=>(ho _ (by omega)).trans (h.pl i hh)⟩
 ·rw [List.mem_singleton.1 hp] at h1
  exact .inr ⟨hm.1.trans h.len,(ho 0 (by omega)).trans h.head,h1,hlog.same (fun i h2 _=>ho i (by omega)) hg.le,fun i hh _=>(ho _ (by omega)).trans (h.pl i hh)⟩
theorem Cl.set (h:Cl a N P) (hg:GoodL N L) (hlog:LogA a L):Mk (setAll a [(1,markB L.length)]) N P L:=by
 have hm:=setAll_mix a [(1,markB L.length)]
 have h3:=hg.n1
 have h4:=h.len
 have ho:∀ i,i≠1→(setAll a [(1,markB L.length)]).getD i []=a.getD i []:=fun i hh=>hm.off fun p hp e=>by rw [List.mem_singleton.1 hp] at e;exact hh e.symm
 exact ⟨hm.1.trans h.len,(ho 0 (by omega)).trans h.head,setAll_on (a:=a) (l:=[]) (r:=[]) (p:=(1,markB L.length)) (by show 1<a.length;omega) (fun q hq=>by cases hq),hlog.same (fun i h2 _=>ho i (by omega)) hg.le,fun i hh _=>(ho _ (by omega)).trans (h.pl i hh)⟩
theorem Mk.placed (h:Mk a N P L) (hg:GoodL N L) (hm:Mix a (plW L) a'):Mk a' N P L:=by
 have hi:∀ p∈plW L,157≤p.1.toNat:=fun p hp=>by
  obtain ⟨q,hq,rfl⟩:=List.mem_map.1 hp
  have:=hg.fit q hq
  dsimp only
  omega
 have ho:∀ i,i<157→a'.getD i []=a.getD i []:=fun i hh=>hm.off fun p hp e=>by have:=hi p hp;omega
 refine ⟨hm.1.trans h.len,(ho 0 (by omega)).trans h.head,(ho 1 (by omega)).trans h.mark,h.log.same (fun i _ h2=>ho i h2) hg.le,fun i hh hn=>(hm.off fun p hp e=>?_).trans (h.pl i hh hn)⟩
 obtain ⟨q,hq,rfl⟩:=List.mem_map.1 hp
 have:=hg.fit q hq
 have h2:=hn q hq
 dsimp only at e
 omega
theorem all_set (hl:a.length=N) (hg:GoodL N L):AllA (setAll a (plW L)) L:=fun p hp=>by
 obtain ⟨k,hk,rfl⟩:=List.getElem_of_mem hp
 have hfit:=hg.fit L[k] hp
 have hk':k<(plW L).length:=by simpa [plW] using hk
 have he:(plW L)[k]=(157+L[k].1,L[k].2):=by simp [plW]
 have hsp:plW L=(plW L).take k ++ (157+L[k].1,L[k].2) :: (plW L).drop (k+1):=by
  rw [←he]
  conv=>lhs;rw [←List.take_append_drop k (plW L),List.drop_eq_getElem_cons hk']
 rw [hsp]
 have:=setAll_on (a:=a) (l:=(plW L).take k) (r:=(plW L).drop (k+1)) (p:=(157+L[k].1,L[k].2)) (by dsimp only;omega) (fun q hq=>by
  obtain ⟨j,hj,rfl⟩:=List.getElem_of_mem hq
  rw [List.getElem_drop]
  have hj2:k+1+j<L.length:=by simp [plW] at hj;omega
  simp only [plW,List.getElem_map]
  intro e
  have hf2:=hg.fit (L[k+1+j]'hj2) (List.getElem_mem _)
  have e2:L[k].1=(L[k+1+j]'hj2).1:=by omega
  have hnd:=hg.nd
  rw [List.nodup_iff_pairwise_ne,List.pairwise_iff_getElem] at hnd
  exact hnd k (k+1+j) (by simpa using hk) (by simpa using hj2) (by omega) (by simpa using e2))
 dsimp only at this
 rw [show (157+L[k].1).toNat=157+L[k].1.toNat by omega] at this
 exact this
theorem Mk.cleared (h:Mk a N P L) (hg:GoodL N L) (hall:AllA a L) (hm:Mix a [(1,zsec)] a'):(Mk a' N P L∧AllA a' L)∨Dn a' N P L:=by
 have ho:∀ i,i≠1→a'.getD i []=a.getD i []:=fun i hh=>hm.off fun p hp e=>by rw [List.mem_singleton.1 hp] at e;exact hh e.symm
 have hal:AllA a' L:=fun p hp=>(ho _ (by omega)).trans (hall p hp)
 rcases hm.2 1 with h1 | ⟨p,hp,_,h1⟩
 ·exact .inl ⟨⟨hm.1.trans h.len,(ho 0 (by omega)).trans h.head,h1.trans h.mark,h.log.same (fun i h2 _=>ho i (by omega)) hg.le,fun i hh hn=>(ho _ (by omega)).trans (h.pl i hh hn)⟩,hal⟩
 ·rw [List.mem_singleton.1 hp] at h1
  exact .inr ⟨hm.1.trans h.len,(ho 0 (by omega)).trans h.head,h1,hal,fun i hh hn=>(ho _ (by omega)).trans (h.pl i hh hn)⟩
theorem Mk.done (h:Mk a N P L) (hg:GoodL N L) (hall:AllA a L):Dn (setAll a [(1,zsec)]) N P L:=by
 have hm:=setAll_mix a [(1,zsec)]
 have h3:=hg.n1
 have h4:=h.len
 have ho:∀ i,i≠1→(setAll a [(1,zsec)]).getD i []=a.getD i []:=fun i hh=>hm.off fun p hp e=>by rw [List.mem_singleton.1 hp] at e;exact hh e.symm
 exact ⟨hm.1.trans h.len,(ho 0 (by omega)).trans h.head,setAll_on (a:=a) (l:=[]) (r:=[]) (p:=(1,zsec)) (by show 1<a.length;omega) (fun q hq=>by cases hq),fun p hp=>(ho _ (by omega)).trans (hall p hp),fun i hh hn=>(ho _ (by omega)).trans (h.pl i hh hn)⟩
/-- What an ending of a log may leave. -/
theorem fin_marked {s:Dk} (hs:Still s) (hd:s.down=false) (hg:GoodL N L) (h:Mk s.now N P L) :
  Still (s.fin L).1∧(((s.fin L).2=0∧(s.fin L).1.down=false∧Dn (s.fin L).1.now N P L)∨((s.fin L).2=6∧(Mk (s.fin L).1.now N P L∨Dn (s.fin L).1.now N P L))):=by
 have hl:=h.len
 have h1:=hg.n1
 obtain ⟨hst,hc⟩:=fin_cases (l:=L) hs hd (by omega) (by rw [hl];exact hg.fit)
 have hp:=h.placed hg (setAll_mix s.now (plW L))
 have hal:=all_set (L:=L) hl hg
 refine ⟨hst,?_⟩
 rcases hc with ⟨a1,a2,a3⟩ | ⟨a1,a2,a3 | a3⟩
 ·exact .inl ⟨a1,a2,by rw [a3];exact hp.done hg hal⟩
 ·exact .inr ⟨a1,.inl (h.placed hg a3)⟩
 ·rcases hp.cleared hg hal a3 with h3 | h3
  ·exact .inr ⟨a1,.inl h3.1⟩
  ·exact .inr ⟨a1,.inr h3⟩
theorem begun_mark {n:Nat} (h1:1≤n) (h2:n≤150):begunN (markB n)=some n:=by
 have h4:(markB n).getD 4 0=n / 256 % 256:=by
  unfold markB
  rw [secOf_getD (by simp [two8]) (by omega)]
  rfl
 have h5:(markB n).getD 5 0=n % 256:=by
  unfold markB
  rw [secOf_getD (by simp [two8]) (by omega)]
  rfl
 have hv:n / 256 % 256*256+n % 256=n:=by omega
 unfold begunN
 rw [h4,h5,hv,if_neg,if_neg (by rintro (h | h | h);omega;omega;exact h rfl)]
 intro e
 rw [e] at h5
 have:zsec.getD 5 0=0:=by decide
 omega
theorem open_marked {s:Dk} (hs:Still s) (hd:s.down=false) (hg:GoodL N L) (h:Mk s.now N P L):s.open_=s.fin L:=by
 have hl:=h.len
 have h1:=hg.n1
 have h2:=hg.ne
 have h3:=hg.le
 have hm:s.many=N - 157:=by unfold Dk.many;rw [hl]
 have e0:s.read 0=apstB:=(Dk.read_now s 0).trans h.head
 have e1:s.read 1=markB L.length:=(Dk.read_now s 1).trans h.mark
 have ht:s.told L.length=L:=by
  refine Eq.trans ?_ h.log
  unfold Dk.told
  refine List.map_congr_left fun k _=>?_
  unfold Dk.toldAt toldA
  rw [Dk.read_now,Dk.read_now]
 unfold Dk.open_
 rw [if_neg (by rw [hd];simp),if_neg (by rintro (e | e);omega;exact e e0),e1,begun_mark (by omega) (by omega)]
 obtain ⟨n,hn⟩:∃ n,L.length=n+1:=⟨L.length - 1,by omega⟩
 rw [hn]
 show (if ∀ p∈s.told (n+1),p.1<(s.many:Int) then s.fin (s.told (n+1)) else (s,13))=s.fin L
 rw [←hn,ht,if_pos]
 intro p hp
 have:=hg.fit p hp
 omega
theorem open_clean {s:Dk} (hd:s.down=false) (hl:158≤s.now.length) (h0:s.now.getD 0 []=apstB) (h1:s.now.getD 1 []=zsec):s.open_=(s,0):=by
 have e0:s.read 0=apstB:=(Dk.read_now s 0).trans h0
 have e1:s.read 1=zsec:=(Dk.read_now s 1).trans h1
 have hm:s.many≠0:=by unfold Dk.many;omega
 have hb:begunN (s.read 1)=some 0:=by unfold begunN;rw [if_pos e1]
 unfold Dk.open_
 rw [if_neg (by rw [hd];simp),if_neg (by rintro (e | e);exact hm e;exact e e0),hb]
 rfl
/-- What an opening may leave of what may be. -/
def May (a:List (List Nat)) (N:Nat) (P:Nat→List Nat) (L:List (Int×List Nat)):Prop:=Cl a N P∨Mk a N P L∨Dn a N P L
theorem open_may {s:Dk} (hs:Still s) (hd:s.down=false) (hg:GoodL N L) (h:May s.now N P L):Still s.open_.1∧May s.open_.1.now N P L∧(Dn s.now N P L→Dn s.open_.1.now N P L):=by
 have h1:=hg.n1
 rcases h with h | h | h
 ·rw [open_clean hd (by rw [h.len];exact h1) h.head h.mark]
  exact ⟨hs,.inl h,id⟩
 ·have hdn:Dn s.now N P L→False:=fun h2=>by
   have e:markB L.length=zsec:=h.mark.symm.trans h2.mark
   have h3:=begun_mark (n:=L.length) hg.ne (by have:=hg.le;omega)
   rw [e] at h3
   have h4:begunN zsec=some 0:=by unfold begunN;rw [if_pos rfl]
   rw [h4] at h3
   injection h3 with h3
   have:=hg.ne
   omega
  rw [open_marked hs hd hg h]
  obtain ⟨hst,⟨_,_,h2⟩ | ⟨_,h2⟩⟩:=fin_marked hs hd hg h
  ·exact ⟨hst,.inr (.inr h2),fun h3=>(hdn h3).elim⟩
  ·exact ⟨hst,.inr h2,fun h3=>(hdn h3).elim⟩
 ·rw [open_clean hd (by rw [h.len];exact h1) h.head h.mark]
  exact ⟨hs,.inr (.inr h),id⟩
/-- An opening that does not crash. -/
theorem open_well {s:Dk} (hs:Still s) (hd:s.down=false) (ha:s.armed=false) (hg:GoodL N L) (h:May s.now N P L):s.open_.2=0∧(Cl s.open_.1.now N P∨Dn s.open_.1.now N P L)∧(Dn s.now N P L→Dn s.open_.1.now N P L)∧s.open_.1.down=false:=by
 have h1:=hg.n1
 have h5:=(open_may hs hd hg h).2.2
 rcases h with h | h | h
 ·rw [open_clean hd (by rw [h.len];exact h1) h.head h.mark] at h5 ⊢
  exact ⟨rfl,.inl h,h5,hd⟩
 ·rw [open_marked hs hd hg h] at h5 ⊢
  have hw:Well s:=⟨hd,ha⟩
  have hp:(s.fin L).2=0:=by
   obtain ⟨b1,b2,b3,_⟩:=hw.putf (l:=plW L) (plW_fit (by rw [h.len];exact hg.fit))
   obtain ⟨c1,_⟩:=b2.putf (l:=[(1,zsec)]) (fun p hp=>by
    rw [List.mem_singleton.1 hp,b3,setAll_length,h.len]
    exact ⟨by dsimp only;omega,by dsimp only;omega,zsec_len⟩)
   have e:s.fin L=if (s.putf (plW L)).2=0 then (s.putf (plW L)).1.putf [(1,zsec)] else s.putf (plW L):=rfl
   rw [e,if_pos b1]
   exact c1
  obtain ⟨hst,⟨_,h3,h2⟩ | ⟨h2,_⟩⟩:=fin_marked hs hd hg h
  ·exact ⟨hp,.inr h2,h5,h3⟩
  ·omega
 ·rw [open_clean hd (by rw [h.len];exact h1) h.head h.mark] at h5 ⊢
  exact ⟨rfl,.inr h,h5,hd⟩
end
end Go.Proofs.Ytkmbgbbmhpidkaa
namespace Go.Proofs.Ytkmbgbbmhpidkaa
open Go.RowKit
set_option linter.unusedVariables false
set_option linter.unusedSimpArgs false

section
variable {N:Nat} {P:Nat→List Nat} {L:List (Int×List Nat)}
theorem good_of {s:Dk} (hl:s.now.length=N) (h1:158≤N) (h2:N≤400) (hm:mayJ s.many L=true) (h0:0<L.length) (h3:L.length≤10):GoodL N L:=by
 have h:=of_decide_eq_true hm
 refine ⟨h1,h2,fun p hp=>?_,h.2,h0,h3⟩
 have:=h.1 p hp
 have hmn:s.many=N - 157:=by unfold Dk.many;rw [hl]
 omega
theorem commitMay {s:Dk} (hs:Still s) (hd:s.down=false) (hg:GoodL N L) (h:Cl s.now N P) (hm:mayJ s.many L=true) :
  Still (s.commit L).1∧(((s.commit L).2=0∧(s.commit L).1.down=false∧Dn (s.commit L).1.now N P L)∨((s.commit L).2=6∧May (s.commit L).1.now N P L)):=by
 have hl:=h.len
 have g1:=hg.n1
 have g2:=hg.ne
 have g3:=hg.le
 have hmn:0<s.many:=by unfold Dk.many;omega
 have hfit:=logs_fit (l:=L) hmn (mayJ_good hm) (by omega)
 unfold Dk.commit
 rw [if_pos hm,if_neg (by omega),if_neg (by rintro rfl;simp at g2)]
 obtain ⟨st1,⟨a1,a2,a3⟩ | ⟨a1,a2,a3⟩⟩:=putf_cases hs hd hfit
 ·rw [if_pos a1]
  have hc:Cl (s.putf (logD L ++ logS L)).1.now N P:=h.logged hg (by rw [a3];exact setAll_mix _ _)
  have hlog:LogA (s.putf (logD L ++ logS L)).1.now L:=by rw [a3];exact log_told hl hg
  obtain ⟨st2,⟨b1,b2,b3⟩ | ⟨b1,b2,b3⟩⟩:=putf_cases (l:=[(1,markB L.length)]) st1 a2 (fun p hp=>by
   rw [List.mem_singleton.1 hp,hc.len]
   exact ⟨by dsimp only;omega,by dsimp only;omega,secOf_length _⟩)
  ·rw [if_pos b1]
   have hk:Mk ((s.putf (logD L ++ logS L)).1.putf [(1,markB L.length)]).1.now N P L:=by rw [b3];exact hc.set hg hlog
   obtain ⟨st3,⟨c1,c2,c3⟩ | ⟨c1,c2⟩⟩:=fin_marked st2 b2 hg hk
   ·exact ⟨st3,.inl ⟨c1,c2,c3⟩⟩
   ·exact ⟨st3,.inr ⟨c1,.inr c2⟩⟩
  ·rw [if_neg (by omega)]
   refine ⟨st2,.inr ⟨b1,?_⟩⟩
   rcases hc.marked hg hlog b3 with h1 | h1
   ·exact .inl h1
   ·exact .inr (.inl h1)
 ·rw [if_neg (by omega)]
  exact ⟨st1,.inr ⟨a1,.inl (h.logged hg a3)⟩⟩
theorem still_restart {s:Dk} (h:Still s):Still s.restart∧s.restart.now=s.now∧s.restart.down=false∧s.restart.armed=false:=by
 have h1:Still s.restart:=⟨h.1.restart,rfl⟩
 exact ⟨h1,h1.now.trans h.now.symm,rfl,rfl⟩
theorem still_arm {s:Dk} (h:Still s) (a:Int) (k:List Bool):Still (s.arm a k)∧(s.arm a k).now=s.now∧(s.arm a k).down=s.down:=⟨⟨h.1.arm a k,h.2⟩,rfl,rfl⟩
/-- What a commit did, and an opening that may crash, and one that does not, leave. -/
theorem all_end {s:Dk} (hs:Still s) (hw:Well s) (h:Cl s.now N P) (h1:158≤N) (h2:N≤400) (h3:L.length≤10) (ca ca2:Int) (kl kl2:List Bool) :
  (((s.restart.arm ca kl).commit L).2=6∨((s.restart.arm ca kl).commit L).2=(s.commit L).2) ∧
  ((((s.restart.arm ca kl).commit L).1.restart.arm ca2 kl2).open_.1.restart.open_.2=0) ∧
  (((((s.restart.arm ca kl).commit L).1.restart.arm ca2 kl2).open_.1.restart.open_).1.now.length=N) ∧
  ((∀ i:Nat,157+i<N→((((s.restart.arm ca kl).commit L).1.restart.arm ca2 kl2).open_.1.restart.open_).1.now.getD (157+i) []=(s.commit L).1.now.getD (157+i) []) ∨
    (((s.restart.arm ca kl).commit L).2≠0∧∀ i:Nat,157+i<N→((((s.restart.arm ca kl).commit L).1.restart.arm ca2 kl2).open_.1.restart.open_).1.now.getD (157+i) []=s.now.getD (157+i) [])):=by
 obtain ⟨r1,r2,r3,r4⟩:=still_restart hs
 obtain ⟨q1,q2,q3⟩:=still_arm r1 ca kl
 obtain ⟨t,ht⟩:∃ t,t=s.restart.arm ca kl:=⟨_,rfl⟩
 rw [←ht] at q1 q2 q3 ⊢
 have htn:t.now=s.now:=q2.trans r2
 have htd:t.down=false:=q3.trans r3
 have htm:t.many=s.many:=by unfold Dk.many;rw [htn]
 have htc:Cl t.now N P:=by rw [htn];exact h
 clear ht
  -- where nothing is done
 have hno:∀ c:Nat,t.commit L=(t,c)→s.commit L=(s,c)→((t.commit L).2=6∨(t.commit L).2=(s.commit L).2)∧(((t.commit L).1.restart.arm ca2 kl2).open_.1.restart.open_.2=0)∧((((t.commit L).1.restart.arm ca2 kl2).open_.1.restart.open_).1.now.length=N) ∧
   ((∀ i:Nat,157+i<N→(((t.commit L).1.restart.arm ca2 kl2).open_.1.restart.open_).1.now.getD (157+i) []=(s.commit L).1.now.getD (157+i) [])∨((t.commit L).2≠0∧∀ i:Nat,157+i<N→(((t.commit L).1.restart.arm ca2 kl2).open_.1.restart.open_).1.now.getD (157+i) []=s.now.getD (157+i) [])):=fun c e1 e2=>by
  rw [e1,e2]
  obtain ⟨u1,u2,u3,u4⟩:=still_restart q1
  obtain ⟨v1,v2,v3⟩:=still_arm u1 ca2 kl2
  have hc1:Cl (t.restart.arm ca2 kl2).now N P:=by rw [v2,u2];exact htc
  have o1:=open_clean (s:=t.restart.arm ca2 kl2) (v3.trans u3) (by rw [hc1.len];exact h1) hc1.head hc1.mark
  dsimp only
  rw [o1]
  dsimp only
  obtain ⟨x1,x2,x3,x4⟩:=still_restart v1
  have hc2:Cl (t.restart.arm ca2 kl2).restart.now N P:=by rw [x2];exact hc1
  have o2:=open_clean x3 (by rw [hc2.len];exact h1) hc2.head hc2.mark
  rw [o2]
  exact ⟨.inr rfl,rfl,hc2.len,.inl fun i hi=>(hc2.pl i hi).trans (h.pl i hi).symm⟩
 rcases hm:mayJ s.many L with _ | _
 ·refine hno 1 ?_ ?_
  ·unfold Dk.commit;rw [htm,hm];rfl
  ·unfold Dk.commit;rw [hm];rfl
 rcases Nat.eq_zero_or_pos L.length with h0 | h0
 ·obtain rfl:=List.eq_nil_of_length_eq_zero h0
  refine hno 0 ?_ ?_
  ·unfold Dk.commit;rw [htm,hm];rfl
  ·unfold Dk.commit;rw [hm];rfl
 clear hno
 have hg:=good_of (s:=s) h.len h1 h2 hm h0 h3
 have hmn:0<s.many:=by unfold Dk.many;rw [h.len];omega
 have hf:=(hw.commit hmn hm (by rintro rfl;simp at h0) (by omega)).1
 have hx:Dn (s.commit L).1.now N P L:=by
  rcases (commitMay hs hw.dn hg h hm).2 with ⟨_,_,hd⟩ | ⟨he,_⟩
  ·exact hd
  ·omega
 obtain ⟨c1,hc⟩:=commitMay q1 htd hg htc (by rw [htm];exact hm)
 obtain ⟨u1,u2,u3,u4⟩:=still_restart c1
 obtain ⟨v1,v2,v3⟩:=still_arm u1 ca2 kl2
 have hmay:May ((t.commit L).1.restart.arm ca2 kl2).now N P L:=by
  rw [v2,u2]
  rcases hc with ⟨_,_,hd⟩ | ⟨_,hd⟩
  ·exact .inr (.inr hd)
  ·exact hd
 obtain ⟨w1,w2,w3⟩:=open_may v1 (v3.trans u3) hg hmay
 obtain ⟨x1,x2,x3,x4⟩:=still_restart w1
 obtain ⟨y1,y2,y3,y4⟩:=open_well x1 x3 x4 hg (by rw [x2];exact w2)
 have hdd:∀ {b:List (List Nat)},Dn b N P L→∀ i:Nat,157+i<N→b.getD (157+i) []=(s.commit L).1.now.getD (157+i) []:=fun hb i hi=>by
  by_cases hp:∃ p∈L,p.1=(i:Int)
  ·obtain ⟨p,hp,he⟩:=hp
   have k1:=hb.all p hp
   have k2:=hx.all p hp
   rw [he,Int.toNat_natCast] at k1 k2
   exact k1.trans k2.symm
  ·have hn:∀ p∈L,p.1≠(i:Int):=fun p hp2 he=>hp ⟨p,hp2,he⟩
   exact (hb.pl i hi hn).trans (hx.pl i hi hn).symm
 refine ⟨?_,y1,?_,?_⟩
 ·rcases hc with ⟨he,_⟩ | ⟨he,_⟩
  ·exact .inr (he.trans hf.symm)
  ·exact .inl he
 ·rcases y2 with hy | hy
  ·exact hy.len
  ·exact hy.len
 ·rcases hc with ⟨he,_,hd⟩ | ⟨he,_⟩
  ·have h4:Dn ((t.commit L).1.restart.arm ca2 kl2).now N P L:=by rw [v2,u2];exact hd
   have h5:=w3 h4
   rw [←x2] at h5
   exact .inl (hdd (y3 h5))
  ·rcases y2 with hy | hy
   ·exact .inr ⟨by omega,fun i hi=>(hy.pl i hi).trans (h.pl i hi).symm⟩
   ·exact .inl (hdd hy)
end
/-! The disk of the law. -/
def secOld:List Nat:=secOf [111,108,100]
def secFive:List Nat:=secOf [102,105,118,101]
def oldL:List (Int×List Nat):=[(0,secOld),(5,secFive)]
def kA0:Dk:=(fresh 170).format.1
def kA:Dk:=(kA0.commit oldL).1
def wasP (i:Nat):List Nat:=if i=0 then secOld else if i=5 then secFive else zsec
theorem kA_facts:(fresh 170).format.2=0∧(kA0.commit oldL).2=0∧Still kA∧Well kA∧Cl kA.now 170 wasP:=by
 have hl:(fresh 170).now.length=170:=List.length_replicate
 obtain ⟨a1,a2,a3⟩:=(well_fresh 170).format (by rw [hl];omega)
 rw [hl] at a3
 have hst:Still kA0:=by
  have h1:Still (fresh 170):=⟨sound_fresh _,rfl⟩
  have e:(fresh 170).format=(fresh 170).putf (formW (fresh 170).now.length):=by unfold Dk.format;rw [if_neg (by unfold Dk.many;omega)]
  unfold kA0
  rw [e]
  exact (putf_cases h1 rfl (by rw [hl];exact format_fit (by omega))).1
 have hl0:kA0.now.length=170:=by unfold kA0;rw [a3,setAll_length,hl]
 have hc:Cl kA0.now 170 (fun _=>zsec):=by
  unfold kA0
  rw [a3]
  exact ⟨by rw [setAll_length,hl],formW_zero (by rw [hl];omega),formW_mark (by rw [hl];omega),fun i hi=>formW_place hl hi⟩
 have hm:mayJ kA0.many oldL=true:=by
  have:kA0.many=13:=by unfold Dk.many;rw [hl0]
  rw [this]
  refine decide_eq_true ⟨fun p hp=>?_,by unfold oldL;decide⟩
  unfold oldL at hp
  rcases List.mem_cons.1 hp with rfl | hp
  ·exact ⟨by dsimp only;omega,by dsimp only;omega,secOf_length _⟩
  ·rw [List.mem_singleton.1 hp]
   exact ⟨by dsimp only;omega,by dsimp only;omega,secOf_length _⟩
 have hg:=good_of (s:=kA0) (N:=170) hl0 (by omega) (by omega) hm (by decide) (by decide)
 obtain ⟨b1,b2,_⟩:=(show Well kA0 from a2).commit (by unfold Dk.many;rw [hl0];omega) hm (by unfold oldL;simp) (by decide)
 obtain ⟨c1,c2⟩:=commitMay hst (show Well kA0 from a2).dn hg hc hm
 have hk:kA=(kA0.commit oldL).1:=rfl
 rw [hk]
 generalize kA0.commit oldL=q at *
 have hd:Dn q.1.now 170 (fun _=>zsec) oldL:=by
  rcases c2 with ⟨_,_,hd⟩ | ⟨he,_⟩
  ·exact hd
  ·exact absurd (b1.symm.trans he) (by decide)
 refine ⟨a1,b1,c1,b2,hd.len,hd.head,hd.mark,fun i hi=>?_⟩
 unfold wasP
 by_cases h0:i=0
 ·subst h0
  exact hd.all (0,secOld) List.mem_cons_self
 by_cases h5:i=5
 ·subst h5
  exact hd.all (5,secFive) (List.mem_cons_of_mem _ (List.mem_singleton.2 rfl))
 rw [if_neg h0,if_neg h5]
 refine hd.pl i hi fun p hp=>?_
 unfold oldL at hp
 rcases List.mem_cons.1 hp with rfl | hp
 ·dsimp only;omega
 ·rw [List.mem_singleton.1 hp]
  dsimp only;omega
end Go.Proofs.Ytkmbgbbmhpidkaa
namespace Go.Proofs.Ytkmbgbbmhpidkaa
open Go.RowKit Go.Shelf
set_option linter.unusedVariables false
set_option linter.unusedSimpArgs false
attribute [local go_sem ↓] Go.wp_at_zero Go.wp_at_succ

section
variable {w:World} {F:Nat→Prop} {gx:Nat} {s:Dk}
set_option maxRecDepth 100000 in
theorem rread'_any (h:Ref w F gx s) (hwl:s.waits.length≤100000) (i:Nat) (hi:i<s.many) (h64:(s.read ((157+i:Nat):Int)).length=64) :
  Calls Try.prog 30 #[.pointer (some ⟨gx,0,none⟩),.int .i64 (i:Int)] w fun e w'=>∃ A' c',e = .returned (.slice A' 64 c')∧Rd .u8 w' w'.heap.size A' c' (s.read ((157+i:Nat):Int))∧Below w.heap.size w w':=by
 have HM:=Lib.hid (rmany h)
 have hr:=ref_read h hwl ((157+i:Nat):Int) _ rfl
 rw [h64] at hr
 have HR:=Lib.hid hr
 have hmn:s.many≤2000:=by have:=h.le;unfold Dk.many;omega
 obtain ⟨j,hj⟩:∃ j,j=157+i:=⟨_,rfl⟩
 rw [←hj] at HR ⊢
 obtain ⟨m,hm⟩:∃ m,m=s.many:=⟨_,rfl⟩
 rw [←hm] at HM hi hmn
 have d0:decide ((i:Int)<0)=false:=decide_eq_false (by omega)
 have d1:decide ((m:Int)≤(i:Int))=false:=decide_eq_false (by omega)
 have hw:IntKind.i64.wrap (157+(i:Int))=(j:Int):=by rw [IntWalk.i64_in _ (by omega)];omega
 clear h hr hj hm h64
 go_enter Try.func30,Try.ntmps30
 go_wp2_with (first | (refine HM.out.mono ?_;rintro e w1 ⟨rfl,rfl⟩) | fail)
 refine HR.out.mono ?_
 rintro e w2 ⟨A,c,rfl,hr,hb⟩
 have HR2:=Lib.hid (And.intro hr hb)
 clear hr hb HR
 go_wp2_with fail
 go_ret
 exact ⟨A,c,rfl,HR2.out⟩
end
def RelWh (w:World) (n:Nat) (l:List Wr) (sl si:Value) (wr:World):Prop :=
 ∃ (k:Nat) (l9:List Wr) (A9:Option Addr) (c9:Nat),k≤n∧si = .int .i64 k∧sl = .slice A9 k c9∧l9.length=k∧wv l9=(List.range k).map (fun i=>((l.getD i default).at_,secOf (l.getD i default).d))∧Wrs w wr w.heap.size A9 c9 l9
set_option maxRecDepth 100000 in
set_option maxHeartbeats 8000000 in
theorem whole_any (w:World) (A0:Option Addr) (c n:Nat) (l:List Wr) (hl:l.length=n) (hr:RdWr A0 c l w) (hn:n≤12) :
  Calls Try.prog 27 #[.slice A0 n c] w fun e w'=>∃ A' c' l',e = .returned (.slice A' n c')∧l'.length=n∧wv l'=(wv l).map (fun p=>(p.1,secOf p.2))∧RdWr A' c' l' w'∧Below w.heap.size w w':=by
 have HR:=Lib.hid hr
 have HL:=Lib.hid hl
 have hnc:n≤c:=by have:=hr.1;omega
 have hc63:=hr.2.1
 clear hr hl
 go_enter Try.func27,Try.ntmps27
 go_wp2_with fail
 go_loopw [3,4] (fun sl si wr=>RelWh w n l sl si wr) (fun _ si _=>n - (intOf si).toNat)
 case atStart=>exact ⟨0,[],none,0,Nat.zero_le _,rfl,rfl,rfl,rfl,Wrs.nil _ _⟩
 case round =>
  obtain ⟨k,l9,A,c9_,hk,rfl,rfl,hll,hwv,hc⟩:=hrel
  obtain ⟨V,hV⟩:∃ V,V=wr:=⟨_,rfl⟩
  subst hV
  have HC:=Lib.hid hc
  have HLL:=Lib.hid hll
  have HWV:=Lib.hid hwv
  clear hc hll hwv
  by_cases hlt:k<n
  case pos =>
   have hkI:(k:Int)<(n:Int):=by omega
   have hk0:(0:Int)≤(k:Int):=by omega
   have hkw:IntKind.i64.wrap ((k:Int)+1)=(k:Int)+1:=IntWalk.i64_in _ (by omega)
   obtain ⟨b,off,rfl,hb,hc0,hc1,hrd⟩:=HR.out.at_ (j:=k) (by rw [HL.out];exact hlt)
   obtain ⟨x,hx⟩:∃ x,x=l.getD k default:=⟨_,rfl⟩
   rw [←hx] at hc0 hc1 hrd
   have HX:=Lib.hid hx
   obtain ⟨xa,da,dc,xd⟩:=x
   dsimp only at *
   obtain ⟨dn,hdn⟩:∃ d,xd.length=d:=⟨_,rfl⟩
   rw [hdn] at hc1
   have HDN:=Lib.hid hdn
   have HRD:=Lib.hid hrd
   clear hdn hrd hx
   go_wp2_with fail
   refine wp_region_noPanic ?_
   refine wp_region_held_drew (S:=fun W=>Below w.heap.size w W) (by kernel_rfl) (HC.out.bel.drew) (fun hHeld=>?_)
   refine wpAnyH_take (i:=0) (oi:={ dst:=some 11,op:=Op.move (Operand.tmp 3),type:=27,pos:=_,after:=_,guard:=none }) (v:=?_) rfl (by kernel_rfl) (by kernel_rfl) (by kernel_rfl) (fun _ _ _ h=>h) (Or.inl ⟨by rfl,?_⟩) hHeld ?_
   rotate_left 1
   ·(intro W hW;(try dsimp only at hW);go_simp;try with_reducible rfl)
   try simp only [Act.put,List.setIfInBounds_toArray,List.set_cons_zero,List.set_cons_succ]
   refine wpAnyH_take (i:=1) (oi:={ dst:=some 12,op:=Op.move (Operand.tmp 0),type:=27,pos:=_,after:=_,guard:=none }) (v:=?_) rfl (by kernel_rfl) (by kernel_rfl) (by kernel_rfl) (fun _ _ _ h=>h) (Or.inl ⟨by rfl,?_⟩) hHeld ?_
   rotate_left 1
   ·(intro W hW;(try dsimp only at hW);go_simp;try with_reducible rfl)
   try simp only [Act.put,List.setIfInBounds_toArray,List.set_cons_zero,List.set_cons_succ]
   refine wpAnyH_take (i:=2) (oi:={ dst:=some 13,op:=Op.move (Operand.tmp 4),type:=3,pos:=_,after:=_,guard:=none }) (v:=?_) rfl (by kernel_rfl) (by kernel_rfl) (by kernel_rfl) (fun _ _ _ h=>h) (Or.inl ⟨by rfl,?_⟩) hHeld ?_
   rotate_left 1
   ·(intro W hW;(try dsimp only at hW);go_simp;try with_reducible rfl)
   try simp only [Act.put,List.setIfInBounds_toArray,List.set_cons_zero,List.set_cons_succ]
   refine wpAnyH_take (i:=3) (oi:={ dst:=some 14,op:=Op.indexAddr 27 (Operand.tmp 12) (Operand.tmp 13),type:=0,pos:=_,after:=_,guard:=none }) (v:=?_) rfl (by kernel_rfl) (by kernel_rfl) (by kernel_rfl) (fun _ _ _ h=>h) (Or.inl ⟨by rfl,?_⟩) hHeld ?_
   rotate_left 1
   ·(intro W hW;(try dsimp only at hW);go_simp;try with_reducible rfl)
   try simp only [Act.put,List.setIfInBounds_toArray,List.set_cons_zero,List.set_cons_succ]
   refine wpAnyH_take (i:=4) (oi:={ dst:=some 15,op:=Op.fieldAddr 42 (Operand.tmp 14) 0,type:=0,pos:=_,after:=_,guard:=none }) (v:=?_) rfl (by kernel_rfl) (by kernel_rfl) (by kernel_rfl) (fun _ _ _ h=>h) (Or.inl ⟨by rfl,?_⟩) hHeld ?_
   rotate_left 1
   ·(intro W hW;(try dsimp only at hW);go_simp;try with_reducible rfl)
   try simp only [Act.put,List.setIfInBounds_toArray,List.set_cons_zero,List.set_cons_succ]
   refine wpAnyH_take (i:=5) (oi:={ dst:=some 16,op:=Op.load 3 (Operand.tmp 15),type:=3,pos:=_,after:=_,guard:=none }) (v:=?_) rfl (by kernel_rfl) (by kernel_rfl) (by kernel_rfl) (fun _ _ _ h=>h) (Or.inl ⟨by rfl,?_⟩) hHeld ?_
   rotate_left 1
   ·(intro W hW;have hk:=(Below.cell (p:=⟨b,off+k*2,none⟩) hW hb).trans hc0;(try dsimp only at hW);go_simp;try with_reducible rfl)
   try simp only [Act.put,List.setIfInBounds_toArray,List.set_cons_zero,List.set_cons_succ]
   refine wpAnyH_take (i:=6) (oi:={ dst:=some 17,op:=Op.move (Operand.tmp 0),type:=27,pos:=_,after:=_,guard:=none }) (v:=?_) rfl (by kernel_rfl) (by kernel_rfl) (by kernel_rfl) (fun _ _ _ h=>h) (Or.inl ⟨by rfl,?_⟩) hHeld ?_
   rotate_left 1
   ·(intro W hW;(try dsimp only at hW);go_simp;try with_reducible rfl)
   try simp only [Act.put,List.setIfInBounds_toArray,List.set_cons_zero,List.set_cons_succ]
   refine wpAnyH_take (i:=7) (oi:={ dst:=some 18,op:=Op.move (Operand.tmp 4),type:=3,pos:=_,after:=_,guard:=none }) (v:=?_) rfl (by kernel_rfl) (by kernel_rfl) (by kernel_rfl) (fun _ _ _ h=>h) (Or.inl ⟨by rfl,?_⟩) hHeld ?_
   rotate_left 1
   ·(intro W hW;(try dsimp only at hW);go_simp;try with_reducible rfl)
   try simp only [Act.put,List.setIfInBounds_toArray,List.set_cons_zero,List.set_cons_succ]
   refine wpAnyH_take (i:=8) (oi:={ dst:=some 19,op:=Op.indexAddr 27 (Operand.tmp 17) (Operand.tmp 18),type:=0,pos:=_,after:=_,guard:=none }) (v:=?_) rfl (by kernel_rfl) (by kernel_rfl) (by kernel_rfl) (fun _ _ _ h=>h) (Or.inl ⟨by rfl,?_⟩) hHeld ?_
   rotate_left 1
   ·(intro W hW;(try dsimp only at hW);go_simp;try with_reducible rfl)
   try simp only [Act.put,List.setIfInBounds_toArray,List.set_cons_zero,List.set_cons_succ]
   refine wpAnyH_take (i:=9) (oi:={ dst:=some 20,op:=Op.fieldAddr 42 (Operand.tmp 19) 1,type:=0,pos:=_,after:=_,guard:=none }) (v:=?_) rfl (by kernel_rfl) (by kernel_rfl) (by kernel_rfl) (fun _ _ _ h=>h) (Or.inl ⟨by rfl,?_⟩) hHeld ?_
   rotate_left 1
   ·(intro W hW;(try dsimp only at hW);go_simp;try with_reducible rfl)
   try simp only [Act.put,List.setIfInBounds_toArray,List.set_cons_zero,List.set_cons_succ]
   refine wpAnyH_take (i:=10) (oi:={ dst:=some 21,op:=Op.load 40 (Operand.tmp 20),type:=40,pos:=_,after:=_,guard:=none }) (v:=?_) rfl (by kernel_rfl) (by kernel_rfl) (by kernel_rfl) (fun _ _ _ h=>h) (Or.inl ⟨by rfl,?_⟩) hHeld ?_
   rotate_left 1
   ·(intro W hW;have hk:=(Below.cell (p:=⟨b,off+k*2+1,none⟩) hW hb).trans hc1;(try dsimp only at hW);go_simp;try with_reducible rfl)
   try simp only [Act.put,List.setIfInBounds_toArray,List.set_cons_zero,List.set_cons_succ]
   refine wpAnyH_ready (rs:=[11]) (by kernel_rfl) (by simp) ?_
   refine AllReadyH.cons (o:={ dst:=some 22,op:=Op.call { callee:=Callee.value (Operand.func 21),args:=#[Operand.tmp 21],argTypes:=#[40] },type:=40,pos:=_,after:=_,guard:=none }) rfl (fun K hK=>?_) AllReadyH.nil
   obtain ⟨y,hy⟩:∃ y,y=V.drew:=⟨_,rfl⟩
   rw [←hy]
   have HC:=Lib.hid (HC.out.under (show Below V.heap.size V y by rw [hy];exact (Below.refl _ V).drew))
   clear hy
   go_simp
   refine (sectorR y da dc dn xd HDN.out ((HRD.out.under HC.out.bel).more HC.out.bel.size)).mono ?_
   rintro e wa ⟨rfl,hrow,hr,hb2⟩
   obtain ⟨gs,hgs⟩:∃ g,g=y.heap.size:=⟨_,rfl⟩
   rw [←hgs] at hrow hr ⊢
   have HGS:Hid (w.heap.size≤gs∧gs<wa.heap.size∧blockOf A≠some gs):=Lib.hid ⟨by have:=HC.out.bel.size;omega,Holds.lt hrow,fun e=>by have:=HC.out.own.lt e;omega⟩
   have HC:=Lib.hid (HC.out.under hb2)
   have HRS:=Lib.hid hr
   clear hgs hrow hr hb2
   go_simp
   refine hK.out _ _ (HC.out.bel) (fun hHeld=>?_)
   clear hK K
   try simp only [Act.put,List.setIfInBounds_toArray,List.set_cons_zero,List.set_cons_succ]
   refine wpAnyH_take (i:=12) (oi:={ dst:=some 23,op:=Op.build 42 #[(0,Operand.tmp 16),(1,Operand.tmp 22)],type:=42,pos:=_,after:=_,guard:=none }) (v:=?_) rfl (by kernel_rfl) (by kernel_rfl) (by kernel_rfl) (fun _ _ _ h=>h) (Or.inl ⟨by rfl,?_⟩) hHeld ?_
   rotate_left 1
   ·(intro W hW;(try dsimp only at hW);go_simp;try with_reducible rfl)
   try simp only [Act.put,List.setIfInBounds_toArray,List.set_cons_zero,List.set_cons_succ]
   refine wpAnyH_ready (rs:=[13]) (by kernel_rfl) (by simp) ?_
   refine AllReadyH.cons (o:={ dst:=some 24,op:=Op.buildSlice 27 1 #[(0,Operand.tmp 23)],type:=27,pos:=_,after:=_,guard:=none }) rfl (fun K hK=>?_) AllReadyH.nil
   go_simp
   have hbd:Below wa.heap.size wa (wa.alloc (.cells #[.int .i64 xa,.slice (some ⟨gs,0,none⟩) 64 64] 42)):=(Below.refl _ _).alloc (Nat.le_refl _) _
   have hfd:Holds (wa.alloc (.cells #[.int .i64 xa,.slice (some ⟨gs,0,none⟩) 64 64] 42)) wa.heap.size 42 #[.int .i64 xa,.slice (some ⟨gs,0,none⟩) 64 64]:=Holds.fresh _ _ _
   generalize wa.alloc (.cells #[.int .i64 xa,.slice (some ⟨gs,0,none⟩) 64 64] 42)=wd at *
   obtain ⟨gd,hgd⟩:∃ g,g=wa.heap.size:=⟨_,rfl⟩
   rw [←hgd] at hfd ⊢
   clear hgd
   have HC:=Lib.hid (HC.out.under hbd)
   have HRS:=Lib.hid ((HRS.out.under hbd).more hbd.size)
   have HGS:=Lib.hid (And.intro HGS.out.1 (And.intro (Nat.lt_of_lt_of_le HGS.out.2.1 hbd.size) HGS.out.2.2))
   have HFd:=Lib.hid (hold_wr (xd:=secOf xd) (secOf_length _) hfd)
   clear hbd hfd
   refine hK.out _ _ (HC.out.bel) (fun hHeld=>?_)
   clear hK K
   try simp only [Act.put,List.setIfInBounds_toArray,List.set_cons_zero,List.set_cons_succ]
   refine wpAnyH_ready (rs:=[14]) (by kernel_rfl) (by simp) ?_
   refine AllReadyH.cons (o:={ dst:=some 25,op:=Op.call { callee:=Callee.builtin Builtin.append,args:=#[Operand.tmp 11,Operand.tmp 24],argTypes:=#[27,27] },type:=27,pos:=_,after:=_,guard:=none }) rfl (fun K hK=>?_) AllReadyH.nil
   have HOW:Hid (OwnV 42 2 wd A c9_ k (l9.flatMap wrCells)):=Lib.hid (by have h1:=HC.out.own;rwa [HLL.out] at h1)
   refine step_pushV _ rfl (.tmp 11) (.tmp 24) 27 rfl 42 (.agg #[.int .i64 0,.slice none 0 0]) 2 32 Try.underlying27 info_write rfl (by omega) (by omega) rfl HOW.out (cs:=wrCells (Wr.mk xa (some ⟨gs,0,none⟩) 64 (secOf xd))) rfl rfl (one_wr _) HFd.out (by omega) ?_
   intro g9 c9 W9 ho9 hg9 hat9 _
   have HC9:=Lib.hid (HC.out.push (x:=Wr.mk xa (some ⟨gs,0,none⟩) 64 (secOf xd)) ⟨HRS.out,fun b o e=>by cases e;exact HGS.out⟩ (by rw [HLL.out];exact ho9) hg9 hat9)
   clear ho9 hg9 hat9 HFd HOW HC
   refine hK.out _ _ (HC9.out.bel) (fun hHeld=>?_)
   clear hK K
   try simp only [Act.put,List.setIfInBounds_toArray,List.set_cons_zero,List.set_cons_succ]
   refine wpAnyH_take (i:=15) (oi:={ dst:=some 3,op:=Op.assign (Operand.tmp 25),type:=27,pos:=_,after:=_,guard:=none }) (v:=?_) rfl (by kernel_rfl) (by kernel_rfl) (by kernel_rfl) (fun _ _ _ h=>h) (Or.inl ⟨by rfl,?_⟩) hHeld ?_
   rotate_left 1
   ·(intro W hW;(try dsimp only at hW);go_simp;try with_reducible rfl)
   try simp only [Act.put,List.setIfInBounds_toArray,List.set_cons_zero,List.set_cons_succ]
   refine wpAnyH_done (by kernel_rfl) ?_ _
   refine NoPanic.normal ?_
   go_wp2_with fail
   go_roundw
   case rel =>
    refine ⟨k+1,l9 ++ [Wr.mk xa (some ⟨gs,0,none⟩) 64 (secOf xd)],_,_,by omega,by go_num,rfl,by rw [List.length_append,HLL.out];rfl,?_,HC9.out⟩
    rw [wv_snoc,List.range_succ,List.map_append,HWV.out,List.map_cons,List.map_nil,←HX.out]
    rfl
   case measure=>simp [intOf];omega
  case neg =>
   obtain rfl:k=n:=by omega
   have hkI:¬ ((k:Int)<(k:Int)):=by omega
   have HG:=Lib.hid (HC.out.rd (Nat.le_refl _))
   have HV2:Hid (wv l9=(wv l).map (fun p=>(p.1,secOf p.2))):=Lib.hid (by
    rw [HWV.out]
    apply List.ext_getElem (by simp [wv,HL.out])
    intro i h1 h2
    have hi:i<l.length:=by rw [HL.out];simpa using h1
    simp [wv,Wr.v,List.getD,hi])
   go_wp2_with fail
   go_ret
   exact ⟨A,c9_,rfl,l9,HLL.out,HV2.out,HG.out.rd,HC.out.bel⟩
/-- Both disks, and no block of G is theirs. -/
def TwoG (w:World) (B:Nat) (G:Nat→Prop) (gd:Nat) (s1:Dk) (gx:Nat) (s2:Dk):Prop :=
 (∀ k,G k→k<w.heap.size)∧B≤w.heap.size∧∃ F1 F2:Nat→Prop,Disk w F1 gd s1∧Ref w F2 gx s2∧(∀ k,F1 k→B≤k∧k<w.heap.size∧¬ G k)∧(∀ k,F2 k→B≤k∧k<w.heap.size∧¬ G k)∧∀ k,F1 k→¬ F2 k
section
variable {w w':World} {B:Nat} {G:Nat→Prop} {gd gx:Nat} {s1 s2 s1' s2':Dk}
theorem TwoG.to (h:TwoG w B G gd s1 gx s2):Two w B gd s1 gx s2:=by
 obtain ⟨hx,hB,F1,F2,d,r,l1,l2,hd⟩:=h
 exact ⟨hB,F1,F2,d,r,fun k hk=>⟨(l1 k hk).1,(l1 k hk).2.1⟩,fun k hk=>⟨(l2 k hk).1,(l2 k hk).2.1⟩,hd⟩
theorem TwoG.of (h:Two w B gd s1 gx s2) (hb:Below w.heap.size w w') (hG:∀ k,G k→w.heap.size≤k∧k<w'.heap.size):TwoG w' B G gd s1 gx s2:=by
 obtain ⟨hB,F1,F2,d,r,l1,l2,hd⟩:=h
 exact ⟨fun k hk=>(hG k hk).2,Nat.le_trans hB hb.size,F1,F2,d.keep (Only.of_below (F:=fun _=>False) hb) (fun _ _ e=>e),r.under hb,fun k hk=>⟨(l1 k hk).1,Nat.lt_of_lt_of_le (l1 k hk).2 hb.size,fun e=>by have:=(l1 k hk).2;have:=hG k e;omega⟩,fun k hk=>⟨(l2 k hk).1,Nat.lt_of_lt_of_le (l2 k hk).2 hb.size,fun e=>by have:=(l2 k hk).2;have:=hG k e;omega⟩,hd⟩
theorem TwoG.under (h:TwoG w B G gd s1 gx s2) (hb:Below w.heap.size w w'):TwoG w' B G gd s1 gx s2:=by
 obtain ⟨hx,hB,F1,F2,d,r,l1,l2,hd⟩:=h
 exact ⟨fun k hk=>Nat.lt_of_lt_of_le (hx k hk) hb.size,Nat.le_trans hB hb.size,F1,F2,d.keep (Only.of_below (F:=fun _=>False) hb) (fun _ _ e=>e),r.under hb,fun k hk=>⟨(l1 k hk).1,Nat.lt_of_lt_of_le (l1 k hk).2.1 hb.size,(l1 k hk).2.2⟩,fun k hk=>⟨(l2 k hk).1,Nat.lt_of_lt_of_le (l2 k hk).2.1 hb.size,(l2 k hk).2.2⟩,hd⟩
theorem TwoG.left {P:Program} {f:FuncId} {args:Array Value} {v:Value} (h:TwoG w B G gd s1 gx s2) (hc:∀ F1:Nat→Prop,Disk w F1 gd s1→(∀ k,F1 k→B≤k∧¬ G k)→Calls P f args w fun e w'=>e = .returned v∧Disk w' (grow F1 w w') gd s1'∧Only F1 w w') :
  Calls P f args w fun e w'=>e = .returned v∧TwoG w' B G gd s1' gx s2∧Below B w w'∧∀ k,G k→w'.heap[k]?=w.heap[k]?:=by
 obtain ⟨hx,hB,F1,F2,d,r,l1,l2,hd⟩:=h
 refine (hc F1 d fun k hk=>⟨(l1 k hk).1,(l1 k hk).2.2⟩).mono ?_
 rintro e w' ⟨rfl,d',ho⟩
 refine ⟨rfl,⟨fun k hk=>Nat.lt_of_lt_of_le (hx k hk) ho.size,Nat.le_trans hB ho.size,_,F2,d',r.keep ho fun k a b=>hd k b a,fun k hk=>?_,fun k hk=>⟨(l2 k hk).1,Nat.lt_of_lt_of_le (l2 k hk).2.1 ho.size,(l2 k hk).2.2⟩,fun k hk hk2=>?_⟩,ho.below (fun k hk=>(l1 k hk).1) hB,fun k hk=>ho.block k (hx k hk) fun e=>(l1 k e).2.2 hk⟩
 ·rcases hk with hk | hk
  ·exact ⟨(l1 k hk).1,Nat.lt_of_lt_of_le (l1 k hk).2.1 ho.size,(l1 k hk).2.2⟩
  ·exact ⟨Nat.le_trans hB hk.1,hk.2,fun e=>by have:=hx k e;omega⟩
 ·rcases hk with hk | hk
  ·exact hd k hk hk2
  ·have:=(l2 k hk2).2.1;omega
theorem TwoG.right {P:Program} {f:FuncId} {args:Array Value} {v:Value} (h:TwoG w B G gd s1 gx s2) (hc:∀ F2:Nat→Prop,Ref w F2 gx s2→(∀ k,F2 k→B≤k∧¬ G k)→Calls P f args w fun e w'=>e = .returned v∧Ref w' (grow F2 w w') gx s2'∧Only F2 w w') :
  Calls P f args w fun e w'=>e = .returned v∧TwoG w' B G gd s1 gx s2'∧Below B w w'∧∀ k,G k→w'.heap[k]?=w.heap[k]?:=by
 obtain ⟨hx,hB,F1,F2,d,r,l1,l2,hd⟩:=h
 refine (hc F2 r fun k hk=>⟨(l2 k hk).1,(l2 k hk).2.2⟩).mono ?_
 rintro e w' ⟨rfl,r',ho⟩
 refine ⟨rfl,⟨fun k hk=>Nat.lt_of_lt_of_le (hx k hk) ho.size,Nat.le_trans hB ho.size,F1,_,d.keep ho fun k a b=>hd k a b,r',fun k hk=>⟨(l1 k hk).1,Nat.lt_of_lt_of_le (l1 k hk).2.1 ho.size,(l1 k hk).2.2⟩,fun k hk=>?_,fun k hk hk2=>?_⟩,ho.below (fun k hk=>(l2 k hk).1) hB,fun k hk=>ho.block k (hx k hk) fun e=>(l2 k e).2.2 hk⟩
 ·rcases hk with hk | hk
  ·exact ⟨(l2 k hk).1,Nat.lt_of_lt_of_le (l2 k hk).2.1 ho.size,(l2 k hk).2.2⟩
  ·exact ⟨Nat.le_trans hB hk.1,hk.2,fun e=>by have:=hx k e;omega⟩
 ·rcases hk2 with hk2 | hk2
  ·exact hd k hk hk2
  ·have:=(l1 k hk).2.1;omega
theorem twg_restart1 (h:TwoG w B G gd s1 gx s2) (hwl:s1.waits.length≤100000) :
  Calls Try.prog 14 #[.pointer (some ⟨gd,0,none⟩)] w fun e w'=>e = .returned (.tuple #[])∧TwoG w' B G gd s1.restart gx s2∧Below B w w'∧∀ k,G k→w'.heap[k]?=w.heap[k]? :=
 h.left fun F1 d hF=>disk_restart d hwl
theorem twg_arm1 (h:TwoG w B G gd s1 gx s2) (a:Int) (K2:Option Addr) (c2 n2:Nat) (l:List Bool) (hn:l.length=n2) (hr:Truths w K2 c2 l) (hsz:n2≤1000) (hne:l≠[]→∀ g,blockOf K2=some g→g≠gd) :
  Calls Try.prog 12 #[.pointer (some ⟨gd,0,none⟩),.agg #[.int .i64 a,.slice K2 n2 c2]] w fun e w'=>e = .returned (.tuple #[])∧TwoG w' B G gd (s1.arm a l) gx s2∧Below B w w'∧∀ k,G k→w'.heap[k]?=w.heap[k]? :=
 h.left fun F1 d hF=>disk_arm d a K2 c2 n2 l hn hr (by omega) hne
theorem twg_format1 (h:TwoG w B G gd s1 gx s2) (hwl:s1.waits.length≤70000) (hops:s1.ops≤700000000) :
  Calls Try.prog 18 #[.pointer (some ⟨gd,0,none⟩)] w fun e w'=>e = .returned (.int .i64 (s1.format.2:Nat))∧TwoG w' B G gd s1.format.1 gx s2∧Below B w w'∧∀ k,G k→w'.heap[k]?=w.heap[k]? :=
 h.left fun F1 d hF=>format_any d hwl hops
theorem twg_format2 (h:TwoG w B G gd s1 gx s2) (hn:s2.now.length≤900) (hwl:s2.waits.length≤60000) (hops:s2.ops≤600000000) :
  Calls Try.prog 19 #[.pointer (some ⟨gx,0,none⟩)] w fun e w'=>e = .returned (.int .i64 (s2.format.2:Nat))∧TwoG w' B G gd s1 gx s2.format.1∧Below B w w'∧∀ k,G k→w'.heap[k]?=w.heap[k]? :=
 h.right fun F2 r hF=>format'_any r hn hwl hops
theorem twg_open1 (h:TwoG w B G gd s1 gx s2) (hoc:∀ i:Nat,Oct1 (s1.read (i:Int))) (hwl:s1.waits.length≤70000) (hops:s1.ops≤700000000) :
  Calls Try.prog 16 #[.pointer (some ⟨gd,0,none⟩)] w fun e w'=>e = .returned (.int .i64 (s1.open_.2:Nat))∧TwoG w' B G gd s1.open_.1 gx s2∧Below B w w'∧∀ k,G k→w'.heap[k]?=w.heap[k]? :=
 h.left fun F1 d hF=>open_any d hoc hwl hops
theorem twg_commit1 (h:TwoG w B G gd s1 gx s2) (A:Option Addr) (c n:Nat) (l:List Wr) (hl:l.length=n) (hr:∀ F:Nat→Prop,(∀ k,F k→B≤k∧¬ G k)→OffF F (RdWr A c l) w) (hn:n≤1000) (hwl:s1.waits.length≤70000) (hops:s1.ops≤700000000) :
  Calls Try.prog 10 #[.pointer (some ⟨gd,0,none⟩),.slice A n c] w fun e w'=>e = .returned (.int .i64 ((s1.commit (wv l)).2:Nat))∧TwoG w' B G gd (s1.commit (wv l)).1 gx s2∧Below B w w'∧∀ k,G k→w'.heap[k]?=w.heap[k]? :=
 h.left fun F1 d hF=>commit_any d A c n l hl (hr F1 hF) hn hwl hops
theorem twg_commit2 (h:TwoG w B G gd s1 gx s2) (A:Option Addr) (c n:Nat) (l:List Wr) (hl:l.length=n) (hr:∀ F:Nat→Prop,(∀ k,F k→B≤k∧¬ G k)→OffF F (RdWr A c l) w) (hne:∀ x∈l,0<x.d.length→∀ g,blockOf x.da=some g→g≠gx) (hn:n≤12) (hwl:s2.waits.length≤60000) (hops:s2.ops≤600000000) :
  Calls Try.prog 11 #[.pointer (some ⟨gx,0,none⟩),.slice A n c] w fun e w'=>e = .returned (.int .i64 ((s2.commit (wv l)).2:Nat))∧TwoG w' B G gd s1 gx (s2.commit (wv l)).1∧Below B w w'∧∀ k,G k→w'.heap[k]?=w.heap[k]? :=
 h.right fun F2 r hF=>commit'_any r A c n l hl (hr F2 hF) hne hn hwl hops
/-- A row of writes that lies in G is off what is not. -/
theorem RdWr.offG {A:Option Addr} {c:Nat} {l:List Wr} (h:RdWr A c l w) (hA:∀ g,blockOf A=some g→G g) (hd:∀ x∈l,∀ g,blockOf x.da=some g→G g) (hs1:w.heap.size≤w'.heap.size) (hk1:∀ k,G k→w'.heap[k]?=w.heap[k]?) (hG:∀ k,G k→k<w.heap.size) (F:Nat→Prop) (hF:∀ k,F k→B≤k∧¬ G k):OffF F (RdWr A c l) w':=fun w2 hs hk=>by
 have hkG:∀ g,G g→w2.heap[g]?=w.heap[g]?:=fun g hg=>(hk g (fun e=>(hF g e).2 hg) (Nat.lt_of_lt_of_le (hG g hg) hs1)).trans (hk1 g hg)
 refine ⟨h.1,h.2.1,fun j hj=>(h.2.2.1 j hj).keepB (Nat.le_trans hs1 hs) fun g hg _=>hkG g (hd _ (getD_memJ hj) g hg),fun hn=>?_⟩
 obtain ⟨b,off,e,hlt,hc⟩:=h.2.2.2 hn
 have hb:=hkG b (hA b (by rw [e];rfl))
 exact ⟨b,off,e,Nat.lt_of_lt_of_le hlt (Nat.le_trans hs1 hs),fun j hj=>⟨(World.cell?_of_block (a:=⟨b,_,none⟩) hb).trans (hc j hj).1,(World.cell?_of_block (a:=⟨b,_,none⟩) hb).trans (hc j hj).2⟩⟩
end
end Go.Proofs.Ytkmbgbbmhpidkaa
namespace Go.Proofs.Ytkmbgbbmhpidkaa
open Go.RowKit Go.ChangeShapes

theorem rd_of_row {k:IntKind} {m:Nat} (hk:∀ n:Int,(Lit.int k n).wf=true→0≤n∧n<(m:Int)) {w:World} {a:Option Addr} {len cap:Nat} {zs:List Int}
  (h:(a=none∧len=0∧cap=0∧zs=[]) ∨
   ∃ x,a=some x∧len≤cap∧cap≤maxLen∧zs.length=cap∧(∀ i,i<zs.length→w.cell? (x.add i)=some (.int k (zs.getD i 0)))∧∀ n∈zs,(Lit.int k n).wf=true) :
  ∃ l:List Nat,l.length=len∧Rd k w w.heap.size a cap l∧∀ x∈l,x<m:=by
 rcases h with ⟨rfl,rfl,rfl,rfl⟩ | ⟨x,rfl,hl,hm,hz,hc,hwf⟩
 ·exact ⟨[],rfl,Rd.nil_ k w _,fun x hx=>by cases hx⟩
 ·refine ⟨(zs.take len).map Int.toNat,by simp;omega,⟨by simp;omega,by unfold maxLen at hm;exact hm,fun hn=>?_⟩,fun y hy=>?_⟩
  ·have h0:0<zs.length:=by simp at hn;omega
   obtain ⟨b,off,sp⟩:=x
   have hc0:=hc 0 h0
   have hsp:sp=none:=by simpa [Addr.add] using World.cell?_spot hc0
   subst hsp
   have hadd:∀ j,(⟨b,off,none⟩:Addr).add j=⟨b,off+j,none⟩:=fun j=>by unfold Addr.add;split <;> simp_all
   refine ⟨b,off,rfl,?_,fun j hj=>?_⟩
   ·have:=World.block_lt_of_cell? w _ hc0
    rw [hadd] at this
    exact this
   ·have hj':j<len∧j<zs.length:=by simp at hj;omega
    rw [←hadd,hc j hj'.2]
    have hw:=(hk zs[j] (hwf _ (List.getElem_mem hj'.2))).1
    simp [List.getD,hj'.1,hj'.2,Int.toNat_of_nonneg hw]
  ·obtain ⟨z,hz',rfl⟩:=List.mem_map.1 hy
   have:=hk z (hwf z (List.mem_of_mem_take hz'))
   omega
theorem wf_u8 (n:Int) (h:(Lit.int .u8 n).wf=true):0≤n∧n<((256:Nat):Int):=by
 have:=bounds_u8 h
 omega
end Go.Proofs.Ytkmbgbbmhpidkaa
namespace Go.Proofs.Ytkmbgbbmhpidkaa
open Go.RowKit Go.ChangeShapes Go.WideShapes
set_option linter.unusedVariables false

theorem rd1_open {H:Type} {enc:TypeId×Value→H} {w:World} {base:Nat} {held:Bool} {fuel:Nat} {v:Value} {x:DataW H×List MemPlace} (h:DataW.trod enc Try.prog w base (fun _=>true) held fuel 40 v.cells.toList=some x) (hv:∃ a n c,v = .slice a n c) :
  ∃ (A:Option Addr) (n c:Nat) (l:List Nat),v = .slice A n c∧l.length=n∧Rd .u8 w w.heap.size A c l∧∀ x∈l,x<256:=by
 obtain ⟨a,n,c,rfl⟩:=hv
 rcases open_ints Try.underlying40 Try.underlying5 (by kernel_rfl) h with ⟨hcs,_⟩ | ⟨x,l,c',zs,hcs,_,hl,hm,hz,_,hcell,hwz⟩
 ·simp [Value.cells] at hcs
  obtain ⟨rfl,rfl,rfl⟩:=hcs
  exact ⟨none,0,0,[],rfl,rfl,Rd.nil_ _ _ _,fun x hx=>by cases hx⟩
 ·simp [Value.cells] at hcs
  obtain ⟨rfl,rfl,rfl⟩:=hcs
  obtain ⟨b,h1,h2,h3⟩:=rd_of_row wf_u8 (w:=w) (a:=some x) (len:=n) (cap:=c) (zs:=zs) (.inr ⟨x,rfl,hl,hm,by simpa using hz,hcell,hwz⟩)
  exact ⟨_,_,_,b,rfl,h1,h2,h3⟩
theorem list_of {α:Type} [Inhabited α] {P:Nat→α→Prop}:∀ n,(∀ i,i<n→∃ a,P i a)→∃ l:List α,l.length=n∧∀ i,i<n→P i (l.getD i default)
 | 0,_=>⟨[],rfl,fun i h=>absurd h (by omega)⟩
 | n+1,h=>by
  obtain ⟨l,hl,hp⟩:=list_of n (fun i hi=>h i (by omega))
  obtain ⟨a,ha⟩:=h n (by omega)
  refine ⟨l ++ [a],by simp [hl],fun i hi=>?_⟩
  by_cases e:i=n
  ·subst e
   have e2:(l ++ [a]).getD i default=a:=by simp [List.getD,←hl]
   rw [e2];exact ha
  ·have e2:(l ++ [a]).getD i default=l.getD i default:=by simp [List.getD,List.getElem?_append_left (show i<l.length by omega)]
   rw [e2];exact hp i (by omega)
theorem truths_open {H:Type} {enc:TypeId×Value→H} {w:World} {base:Nat} {sp:Nat→Bool} {held:Bool} {fuel:Nat} {v:Value} {x:DataW H×List MemPlace} (h:DataW.trod enc Try.prog w base sp held fuel 28 v.cells.toList=some x) (hv:∃ a n c,v = .slice a n c) :
  ∃ (A:Option Addr) (n c:Nat) (l:List Bool),v = .slice A n c∧l.length=n∧Truths w A c l:=by
 obtain ⟨a,n,c,rfl⟩:=hv
 rcases Deep.open_slice1 Try.underlying28 (by kernel_rfl) h with ⟨hcs,_⟩ | ⟨a',len,cap,m,n',V,D,Pl,hcs,_,hl,hm,hmm,_,hc⟩
 ·simp [Value.cells] at hcs
  obtain ⟨rfl,rfl,rfl⟩:=hcs
  exact ⟨none,0,0,[],rfl,rfl,Truths.nil _⟩
 ·simp [Value.cells] at hcs
  obtain ⟨rfl,rfl,rfl⟩:=hcs
  have hlm:n≤m:=by rw [hmm];split <;> omega
  obtain ⟨l,hln,hlp⟩:=list_of (P:=fun i (t:Bool)=>w.cell? (a'.add i)=some (.bool t)) n (fun i hi=>by
   obtain ⟨h0,h1⟩:=hc i (by omega)
   obtain ⟨b,e,_⟩:=DataW.trod_bool Try.underlying4 h1
   obtain e':V i = .bool b:=by simpa using e
   exact ⟨b,by rw [h0,e']⟩)
  refine ⟨some a',n,c,l,rfl,hln,by omega,by unfold maxLen at hm;exact hm,fun hn=>?_⟩
  obtain ⟨b,off,sp'⟩:=a'
  have hc0:=hlp 0 (by omega)
  have hsp:sp'=none:=by simpa [Addr.add] using World.cell?_spot hc0
  subst hsp
  have hadd:∀ j,(⟨b,off,none⟩:Addr).add j=⟨b,off+j,none⟩:=fun j=>by unfold Addr.add;split <;> simp_all
  refine ⟨b,off,rfl,?_,fun j hj=>?_⟩
  ·have:=World.block_lt_of_cell? w _ hc0
   rw [hadd] at this
   exact this
  ·have:=hlp j (by omega)
   rw [hadd] at this
   exact this
end Go.Proofs.Ytkmbgbbmhpidkaa
namespace Go.Proofs.Ytkmbgbbmhpidkaa
open Go.RowKit Go.ChangeShapes Go.WideShapes
set_option linter.unusedVariables false

theorem cells_crashJ:Try.prog.cellsOf 30 = 2:=by kernel_rfl
theorem cells_wrJ:Try.prog.cellsOf 42 = 2:=by kernel_rfl
theorem cells_intJ:Try.prog.cellsOf 3 = 1:=by kernel_rfl
theorem cells_bytesJ:Try.prog.cellsOf 40 = 1:=by kernel_rfl
theorem cells_boolsJ:Try.prog.cellsOf 28 = 1:=by kernel_rfl
theorem slice_formJ {H:Type} {enc:TypeId×Value→H} {P:Program} {w:World} {base:Nat} {sp:Nat→Bool} {held:Bool} {fuel:Nat} {t e:TypeId} {v:Value} {x:DataW H×List MemPlace} (ht:P.underlying t=some (.slice e)) (h:DataW.trod enc P w base sp held fuel t [v]=some x):∃ a n c,v = .slice a n c:=by
 rcases Deep.open_slice ht h with ⟨hcs,_⟩ | ⟨a,len,cap,m,n,D,Pl,hcs,_⟩
 ·exact ⟨none,0,0,by simpa using hcs⟩
 ·exact ⟨some a,len,cap,by simpa using hcs⟩
theorem write_open {H:Type} {enc:TypeId×Value→H} {w:World} {base:Nat} {held:Bool} {n:Nat} {v0 v1:Value} {x:DataW H×List MemPlace} (h:DataW.trod enc Try.prog w base (fun _=>true) held n 42 [v0,v1]=some x) :
  ∃ a:Wr,v0 = .int .i64 a.at_∧v1 = .slice a.da a.d.length a.dc∧Rd .u8 w w.heap.size a.da a.dc a.d∧Oct1 a.d:=by
 obtain ⟨z0,z1,k',_,_,g0,g1⟩:=trod_struct2 Try.underlying42 h
 simp [cells_intJ,cells_bytesJ] at g0 g1
 obtain ⟨i0,e0,_,_⟩:=DataW.trod_int Try.underlying3 g0
 obtain ⟨a2,n2,c2,rfl⟩:=slice_formJ Try.underlying40 g1
 obtain ⟨A2,n2',c2',l2,e2,hl2,hr2,ho2⟩:=rd1_open (v:=.slice a2 n2 c2) g1 ⟨_,_,_,rfl⟩
 injection e2 with e2a e2b e2c
 subst e2a e2b e2c
 exact ⟨⟨i0,a2,c2,l2⟩,by simpa using e0,by rw [←hl2],hr2,ho2⟩
theorem writes_open {H:Type} {enc:TypeId×Value→H} {w:World} {base:Nat} {held:Bool} {fuel:Nat} {v:Value} {x:DataW H×List MemPlace} (h:DataW.trod enc Try.prog w base (fun _=>true) held fuel 27 v.cells.toList=some x) (hv:∃ a n c,v = .slice a n c) :
  ∃ (A:Option Addr) (n c:Nat) (l:List Wr),v = .slice A n c∧l.length=n∧RdWr A c l w∧∀ x∈l,Oct1 x.d:=by
 obtain ⟨a,n,c,rfl⟩:=hv
 rcases Deep.open_slice Try.underlying27 h with ⟨hcs,_⟩ | ⟨a',len,cap,m,n',D,Pl,hcs,_,hl,hm,hmm,_,hc⟩
 ·simp [Value.cells] at hcs
  obtain ⟨rfl,rfl,rfl⟩:=hcs
  exact ⟨none,0,0,[],rfl,rfl,⟨by simp,by omega,fun j hj=>by simp at hj,fun hn=>by simp at hn⟩,fun x hx=>by cases hx⟩
 ·simp [Value.cells] at hcs
  obtain ⟨rfl,rfl,rfl⟩:=hcs
  have hlm:n≤m:=by rw [hmm];split <;> omega
  obtain ⟨l,hln,hlp⟩:=list_of (P:=fun i (t:Wr)=>(w.cell? (a'.add (i*2))=some (.int .i64 t.at_)∧w.cell? (a'.add (i*2+1))=some (.slice t.da t.d.length t.dc))∧Rd .u8 w w.heap.size t.da t.dc t.d∧Oct1 t.d) n (fun i hi=>by
   obtain ⟨cs',h1,h2⟩:=hc i (by omega)
   rw [cells_wrJ] at h1
   obtain ⟨_,hlen,hcell⟩:=World.cells?_some h1
   match cs',hlen with
   | [v0,v1],_ =>
    obtain ⟨t,e0,e1,r1,r2⟩:=write_open h2
    have k0:=hcell 0 (by omega)
    have k1:=hcell 1 (by omega)
    rw [Deep.add_add] at k0 k1
    exact ⟨t,⟨by rw [←e0];simpa using k0,by rw [←e1];simpa using k1⟩,r1,r2⟩)
  refine ⟨some a',n,c,l,rfl,hln,⟨by omega,by unfold maxLen at hm;exact hm,fun j hj=>(hlp j (by omega)).2.1,fun hn=>?_⟩,fun x hx=>?_⟩
  ·obtain ⟨b,off,sp'⟩:=a'
   have hc0:=(hlp 0 (by omega)).1.1
   have hsp:sp'=none:=by simpa [Addr.add] using World.cell?_spot hc0
   subst hsp
   have hadd:∀ j,(⟨b,off,none⟩:Addr).add j=⟨b,off+j,none⟩:=fun j=>by unfold Addr.add;split <;> simp_all
   refine ⟨b,off,rfl,?_,fun j hj=>?_⟩
   ·have:=World.block_lt_of_cell? w _ hc0
    rw [hadd] at this
    exact this
   ·obtain ⟨⟨k0,k1⟩,_⟩:=hlp j (by omega)
    rw [hadd] at k0 k1
    exact ⟨k0,by rw [show off+j*2+1=off+(j*2+1) by omega];exact k1⟩
  ·obtain ⟨i,hi,rfl⟩:=List.getElem_of_mem hx
   have:=(hlp i (by omega)).2.2
   rwa [show l.getD i default=l[i] by simp [List.getD,hi]] at this
end Go.Proofs.Ytkmbgbbmhpidkaa
namespace Go.Proofs.Ytkmbgbbmhpidkaa
open Go.RowKit Go.ChangeShapes Go.WideShapes
set_option linter.unusedVariables false

structure Crr where
 a:Int
 K:Option Addr
 c:Nat
 l:List Bool
theorem array2 {α:Type} {cs:Array α} (h:cs.size=2):∃ c0 c1,cs=#[c0,c1]:=by
 obtain ⟨l⟩:=cs
 match l,h with
 | [a,b],_=>exact ⟨a,b,rfl⟩
theorem crash_openT {H:Type} {enc:TypeId×Value→H} {w:World} {base:Nat} {held:Bool} {fuel:Nat} {v0 v1:Value} {x:DataW H×List MemPlace} (hf:DataW.trod enc Try.prog w base (fun _=>true) held fuel 30 [v0,v1]=some x) :
  ∃ k:Crr,v0 = .int .i64 k.a∧v1 = .slice k.K k.l.length k.c∧Truths w k.K k.c k.l:=by
 obtain ⟨z0,z1,k',_,_,g4,g5⟩:=trod_struct2 Try.underlying30 hf
 simp [cells_intJ,cells_boolsJ] at g4 g5
 obtain ⟨i3,e3,_,_⟩:=DataW.trod_int Try.underlying3 g4
 obtain ⟨a4,n4,c4,rfl⟩:=slice_formJ Try.underlying28 g5
 obtain ⟨A4,n4',c4',l4,e4,hl4,hr4⟩:=truths_open (v:=.slice a4 n4 c4) g5 ⟨_,_,_,rfl⟩
 injection e4 with e4a e4b e4c
 subst e4a e4b e4c
 exact ⟨⟨i3,a4,c4,l4⟩,by simpa using e3,by rw [←hl4],hr4⟩
theorem crash_open {H:Type} {enc:TypeId×Value→H} {w:World} {base b0:Nat} {held:Bool} {r:Reach} {v:Value} {d:DataW H} {p:List MemPlace} (hv:Value.okWide Try.prog w r b0 30 v) (h:DataW.Trod enc Try.prog w base (fun _=>true) held 30 v d p) :
  ∃ k:Crr,v = .agg #[.int .i64 k.a,.slice k.K k.l.length k.c]∧Truths w k.K k.c k.l:=by
 obtain ⟨cs,rfl,hsz⟩:=okWide_struct Try.underlying30 hv
 obtain ⟨v0,v1,rfl⟩:=array2 (hsz.trans cells_crashJ)
 obtain ⟨fuel,hf⟩:=h
 obtain ⟨k,rfl,rfl,hk⟩:=crash_openT hf
 exact ⟨k,rfl,hk⟩
end Go.Proofs.Ytkmbgbbmhpidkaa
