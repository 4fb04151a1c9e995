/- Words and laws for the statement, part 5. -/
import Derived.Handy
import Derived.Test.YtcibjcgipfpniaaGreatDoorG04
namespace Go.Proofs.YtcibjcgipfpniaaGreatDoor
open Go.RowKit
set_option linter.unusedVariables false
set_option linter.unusedSimpArgs false

def noNode:Value:=.agg #[.int .u8 0,.slice none 0 0,.slice none 0 0]
theorem rd_err:∀ (N:Nat),(∀ M d c x,M.length<N→rd M d c = .error x→x≠0)∧(∀ M d c x,M.length<N→rds M d c = .error x→x≠0)
 | 0=>⟨fun M _ _ _ h=>by omega,fun M _ _ _ h=>by omega⟩
 | N+1=>by
  obtain ⟨ih1,ih2⟩:=rd_err N
  have h1:∀ M d c x,M.length<N+1→rd M d c = .error x→x≠0:=by
   intro M d c y hM h
   rcases M with _ | ⟨x,r⟩
   ·rw [rd] at h;injection h with h;omega
   rw [rd] at h
   by_cases g1:tagOk x=false
   ·rw [if_pos g1] at h;injection h with h;omega
   rw [if_neg g1] at h
   by_cases g2:12<d
   ·rw [if_pos g2] at h;injection h with h;omega
   rw [if_neg g2] at h
   by_cases g3:600≤c
   ·rw [if_pos g3] at h;injection h with h;omega
   rw [if_neg g3] at h
   rcases g4:lenOf r with _ | ⟨k,u⟩
   ·rw [g4] at h;injection h with h;omega
   rw [g4] at h
   rw [List.length_cons] at hM
   dsimp only at h
   by_cases g5:parted x=false
   ·rw [if_pos g5] at h;cases h
   rw [if_neg g5] at h
   rcases g6:rds ((r.drop u).take k) (d+1) (c+1) with e | ⟨l,c''⟩
   ·rw [g6] at h
    injection h with h
    subst h
    exact ih2 _ _ _ _ (by simp;omega) g6
   rw [g6] at h;cases h
  refine ⟨h1,?_⟩
  intro M d c y hM h
  rcases M with _ | ⟨x,r⟩
  ·rw [rds] at h;cases h
  rw [rds] at h
  rcases g1:rd (x :: r) d c with e | ⟨t,n,c2⟩
  ·rw [g1] at h
   injection h with h
   subst h
   exact h1 _ _ _ _ hM g1
  rw [g1] at h
  dsimp only at h
  rcases g2:rds (r.drop (n - 1)) d c2 with e | ⟨l2,c3⟩
  ·rw [g2] at h
   injection h with h
   subst h
   exact ih2 _ _ _ _ (by rw [List.length_cons] at hM;simp;omega) g2
  rw [g2] at h;cases h
theorem ret_cell {R:Ending→World→Prop} {tmps:Array Value} {w:World} {g:Nat} {t:TypeId} {cs:Array Value} {v:Value} {fn:Func} {p u:Tmp}
  (hr:fn.results=#[.cell p 32,.tmp u]) (hp:tmps.getD p undef = .pointer (some ⟨g,0,none⟩)) (hu:tmps.getD u undef=v) (hg:Holds w g t cs) (hcs:cs.size=3) (hR:R (.returned (.tuple #[.agg cs,v])) w) :
  bodyPost Tryz.prog fn R .ret { tmps:=tmps,defers:=[] } w:=by
 have hi:(Tryz.prog.info? 32).map (·.size)=some cs.size:=by rw [hcs];kernel_rfl
 refine bodyPost_ret (v:=.tuple #[.agg cs,v]) ?_ rfl hR
 rw [results_cell_tmp hr]
 have hp':tmps[p]?.getD undef = .pointer (some ⟨g,0,none⟩):=by simpa using hp
 have hu':tmps[u]?.getD undef=v:=by simpa using hu
 simp [hp',hu',asAddr,run_loadVar_row w g t _ cs (0,0) _ hg Tryz.underlying32 rfl hi,Result.andThen]
theorem below_br {w w':World} {B Br:Nat} (h:w.grownBy w' (some Br)) (hB:B≤Br) (hs:B≤w.heap.size):Below B w w' :=
 ⟨h.os,h.tape,h.output,h.size,fun g hg=>h.block g (by omega) (fun e=>by injection e with e;omega)⟩
theorem grown_new {w V:World} {r:Option Nat} {p:Addr} (h:w.grownBy V r) (hp:w.heap.size≤p.block) (u:Value):w.grownBy (V.setCell p u) r :=
 ⟨h.os,h.tape,h.output,by show w.heap.size≤(V.heap.modify _ _).size;rw [Array.size_modify];exact h.size,fun g hg hne=>by
  rw [Below.heap_setCell V p u g (by omega)];exact h.block g hg hne⟩
def thingOf (x m:Nat):Except Nat (List Tr×Nat)→Except Nat (Tr×Nat×Nat)
 | .error e=>.error e
 | .ok (l,c)=>.ok (.mk x [] l,m,c)
def preT (ts:List Tr):Except Nat (List Tr×Nat)→Except Nat (List Tr×Nat)
 | .error e=>.error e
 | .ok (l,c)=>.ok (ts ++ l,c)
theorem preT_nil (r:Except Nat (List Tr×Nat)):preT [] r=r:=by rcases r with e | ⟨l,c⟩ <;> rfl
theorem preT_preT (a b:List Tr) (r:Except Nat (List Tr×Nat)):preT a (preT b r)=preT (a ++ b) r:=by
 rcases r with e | ⟨l,c⟩
 ·rfl
 ·simp [preT]
theorem rds_err {M:List Nat} {d c y:Nat} (hM:0<M.length) (h:rd M d c = .error y):rds M d c = .error y:=by
 rcases M with _ | ⟨x,r⟩
 ·simp at hM
 ·rw [rds,h]
theorem rds_ok {M:List Nat} {d c n c':Nat} {t:Tr} (hM:0<M.length) (h:rd M d c = .ok (t,n,c')):rds M d c=preT [t] (rds (M.drop n) d c'):=by
 rcases M with _ | ⟨x,r⟩
 ·simp at hM
 ·have hn:=((rd_fits ((x :: r).length+1)).1 _ _ _ _ _ _ (Nat.lt_succ_self _) h).1
  obtain ⟨m,rfl⟩:∃ m,n=m+1:=⟨n - 1,by omega⟩
  rw [rds,h]
  dsimp only
  rw [List.drop_succ_cons,Nat.add_sub_cancel]
  rcases rds (r.drop m) d c' with e | ⟨l,c2⟩ <;> rfl
theorem Apart.less {w:World} {lo lo':Nat} {A:Option Addr} {l:List Lt} (h:Apart w lo A l) (hlo:lo'≤lo):Apart w lo' A l:=fun t ht=>by
 obtain ⟨a,b,h1,h2⟩:=h t ht
 exact ⟨a,b,by omega,h2⟩
def lenAt (Br:Nat) (w:World):Nat:=match w.cell? ⟨Br,0,none⟩ with
 | some (.slice _ n _)=>n
 | _=>0
section
variable {w V V':World} {B Br x:Nat} {A:Option Addr} {n c cnt:Nat} {L:List Nat} {bv kv:Value}
theorem below_grown {B:Nat} (h:Below B V V') (hB:V.heap.size≤B):V.grownBy V' none:=⟨h.os,h.tape,h.output,h.size,fun g hg _=>h.block g (by omega)⟩
end
end Go.Proofs.YtcibjcgipfpniaaGreatDoor
