/-
  A number copied to new memory.
-/
import Derived.Test.YtflfdglpljodbaaDoorGNat18
import Derived.Deep.Upon
namespace Go.Proofs.YtflfdglpljodbaaDoor
open Go.RowKit
set_option linter.unusedVariables false
theorem run_copied {w:World} {B:Nat} {A:Option Addr} {c:Nat} {l:List Nat} (hr:Rd .u32 w B A c l) (hl:l.length≤5000) (g:Nat) (hg:w.heap[g]?=some (.cells #[] 22 (0,0))) (ty:TypeId) :
  ∃ A2 c2 w',(Builtin.append_ #[24,24] ty #[.slice (some ⟨g,0,none⟩) 0 0,.slice A l.length c]).run Tryd.prog w = .ok (.slice A2 l.length c2) w'∧w.grownBy w' (some g)∧Rd .u32 w' w'.heap.size A2 c2 l:=by
 obtain ⟨i0,hi,hz0,hz1,hz2⟩:=info_parts info_u32
 rcases Nat.eq_zero_or_pos l.length with h0 | h0
 ·obtain rfl:=List.eq_nil_of_length_eq_zero h0
  have hs:Src Tryd.prog i0.size 24 (.slice A 0 c) 0 [] w:=by
   rcases A with _ | a
   ·exact Src.ofNil w Tryd.underlying24 c
   ·exact Src.ofSlice w Tryd.underlying24 a 0 c [] (by simp) (fun j u h=>by simp at h) (fun u h=>by cases h)
  exact ⟨_,_,_,run_append_nothing w 24 24 ty 22 i0 Tryd.underlying24 hi _ 0 0 (Nat.le_refl _) _ hs,World.grownBy.refl w _,by simp,by omega,fun h=>by simp at h⟩
 ·obtain ⟨a,rfl,hnews⟩:=vals_from hr h0
  have hlt:g<w.heap.size:=(Array.getElem?_eq_some_iff.1 hg).1
  obtain ⟨v',w',hrun,hown,hgr,_⟩:=run_append_own (P:=Tryd.prog) w 0 24 ty 22 i0 (.int .u32 0) 1 4 Tryd.underlying24 hi hz0 hz1 hz2 rfl (by omega)
   (.slice (some ⟨g,0,none⟩) 0 0) 0 [] ⟨rfl,.inr ⟨g,0,#[],rfl,Nat.zero_le _,hg,Nat.le_refl _,Nat.zero_le _,rfl,rfl⟩⟩ a l.length c (valsNat10 l) (by rw [vals_lengthNat10];omega) hnews (vals_oneNat10 l) (by simp [maxLen];omega) (by omega) (Nat.zero_le _)
  obtain ⟨hlen,h1 | ⟨g',cap,cur,rfl,_,hcur,hle,hmax,hsz,htk⟩⟩:=hown
  ·omega
  ·rw [Nat.zero_add] at hrun hle htk
   rw [Nat.mul_one,List.nil_append] at htk
   refine ⟨_,_,w',hrun,hgr,hle,by simp only [maxLen] at hmax;omega,fun _=>⟨g',0,rfl,(Array.getElem?_eq_some_iff.1 hcur).1,fun i hi=>?_⟩⟩
   have e1:w'.cell? ⟨g',0+i,none⟩=cur[i]?:=by rw [Nat.zero_add];exact cell_of_row w' g' i cur 22 (0,0) hcur
   rw [e1]
   have e2:(valsNat10 l)[i]?=some (.int .u32 ((l.getD i 0:Nat):Int)):=by simp [valsNat10,List.getD,hi]
   rw [←e2,←htk,List.getElem?_take_of_lt hi,Array.getElem?_toList]
theorem wpList_copied (w:World) {ops:Array Oper} {rest:List Oper} {o:Oper} {a:Act} {Q:Exit→Act→World→Prop} (hgd:o.guard=none) (s x:Operand)
  (ho:o.op = .call { callee:=.builtin .append,args:=#[s,x],argTypes:=#[24,24] })
  (g:Nat) (B:Nat) (A:Option Addr) (c n:Nat) (l:List Nat) (hv:a.eval s = .slice (some ⟨g,0,none⟩) 0 0) (hx:a.eval x = .slice A n c) (hn:l.length=n) (hr:Rd .u32 w B A c l) (hl:n≤5000) (hg:w.heap[g]?=some (.cells #[] 22 (0,0)))
  (hK:∀ A2 c2 w',w.grownBy w' (some g)→Rd .u32 w' w'.heap.size A2 c2 l→wpList Tryd.prog ops Q rest (a.put o.dst (.slice A2 n c2)) w'):wpList Tryd.prog ops Q (o :: rest) a w:=by
 subst hn
 refine wpList_plain hgd fun K hK'=>?_
 obtain ⟨A2,c2,w',hrun,h2,h3⟩:=run_copied hr hl g hg o.type
 unfold Oper.wp
 simp [execOp,ho,resolve,invoke,builtin,hv,hx,hrun,Result.andThen]
 exact hK' _ _ (hK A2 c2 w' h2 h3)
end Go.Proofs.YtflfdglpljodbaaDoor
