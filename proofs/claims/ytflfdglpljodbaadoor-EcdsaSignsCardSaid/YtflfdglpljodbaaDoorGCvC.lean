/-
  The first point; whether two are one. No times a point; the same point. Chapter 10's known things; the law of points.
-/
import Derived.Test.YtflfdglpljodbaaDoorGBoxP
import Derived.Deep.RegionLaw
import Derived.Deep.DrawnRows
import Derived.StillTailTactics
import Derived.Test.YtflfdglpljodbaaDoorGCv9
import Derived.Test.YtflfdglpljodbaaDoorGNat17
import Derived.Test.YtflfdglpljodbaaDoorGRefB
import Derived.Deep.RegionHeld3
set_option maxRecDepth 100000
set_option linter.unusedVariables false
set_option linter.unusedSimpArgs false
namespace Go.Proofs.YtflfdglpljodbaaDoor
open Go.RowKit
def RelQ (w:World) (n:Nat) (i:Value) (wr:World):Prop:=∃ k q:Nat,k≤n∧i = .int .i64 (k:Int)∧Hid (wr=w.drewN q)
def GAt (w:World) (e:Ending) (w':World):Prop :=
 ∃ gx gy,e = .returned (.agg #[.slice (some ⟨gx,0,none⟩) 8 8,.slice (some ⟨gy,0,none⟩) 8 8,.bool false])∧Row .u32 22 w' gx lX∧Row .u32 22 w' gy lY∧Below w.heap.size w w'
theorem ret_pt {R:Ending→World→Prop} {tmps:Array Value} {w:World} {g:Nat} {t:TypeId} {cs:Array Value} {fn:Func} {p:Tmp}
  (hr:fn.results=#[.cell p 26]) (hp:tmps.getD p undef = .pointer (some ⟨g,0,none⟩)) (hg:Holds w g t cs) (hcs:cs.size=3) (hR:R (.returned (.agg cs)) w) :
  bodyPost Tryd.prog fn R .ret { tmps:=tmps,defers:=[] } w:=by
 have hi:(Tryd.prog.info? 26).map (·.size)=some cs.size:=by rw [hcs];kernel_rfl
 refine bodyPost_ret (v:=.agg cs) ?_ rfl hR
 have hp':tmps[p]?.getD undef = .pointer (some ⟨g,0,none⟩):=by simpa using hp
 simp [results,hr,hp',asAddr,run_loadVar_row w g t _ cs (0,0) _ hg Tryd.underlying26 rfl hi,Result.andThen]
theorem curveG_any (w:World):Calls Tryd.prog 28 #[] w (GAt w):=by
 go_enter Tryd.func28,Tryd.ntmps28
 go_wp2_with fail
 generalize hw1:w.alloc (.cells #[.slice (some ⟨w.heap.size+1,0,none⟩) 8 8,.slice (some ⟨w.heap.size+1+1,0,none⟩) 8 8,.bool false] 26)=w1
 have hz1:w1.heap.size=w.heap.size+1:=by rw [←hw1];simp
 generalize hw2:w1.alloc (.cells #[.int .u32 3633889942,.int .u32 4104206661,.int .u32 770388896,.int .u32 1996717441,.int .u32 1671708914,.int .u32 4173129445,.int .u32 3777774151,.int .u32 1796723186] 22)=w2
 have hz2:w2.heap.size=w.heap.size+1+1:=by rw [←hw2];simp [hz1]
 generalize hw3:w2.alloc (.cells #[.int .u32 935285237,.int .u32 3417718888,.int .u32 1798397646,.int .u32 734933847,.int .u32 2081398294,.int .u32 2397563722,.int .u32 4263149467,.int .u32 1340293858] 22)=w3
 have hP:Holds w3 w.heap.size 26 #[.slice (some ⟨w.heap.size+1,0,none⟩) 8 8,.slice (some ⟨w.heap.size+1+1,0,none⟩) 8 8,.bool false]:=by
  rw [←hw3,←hw2,←hw1]
  exact ((Holds.fresh w _ _).alloc _).alloc _
 have hGX:Row .u32 22 w3 (w.heap.size+1) lX:=by
  rw [←hw3,←hw2,←hz1]
  exact (Holds.fresh w1 _ _).alloc _
 have hGY:Row .u32 22 w3 (w.heap.size+1+1) lY:=by
  rw [←hw3,←hz2]
  exact Holds.fresh w2 _ _
 have hb:Below w.heap.size w w3:=by
  rw [←hw3,←hw2,←hw1]
  exact (((Below.refl _ _).alloc (Nat.le_refl _) _).alloc (by simp) _).alloc (by simp;omega) _
 exact ret_pt rfl rfl hP rfl ⟨_,_,rfl,hGX,hGY,hb⟩
theorem refG_any (w:World):Calls Tryd.prog 13 #[] w (GAt w):=by
 go_enter Tryd.func13,Tryd.ntmps13
 go_wp2_with fail
 generalize hw1:w.alloc (.cells #[.slice (some ⟨w.heap.size+1,0,none⟩) 8 8,.slice (some ⟨w.heap.size+1+1,0,none⟩) 8 8,.bool false] 26)=w1
 have hz1:w1.heap.size=w.heap.size+1:=by rw [←hw1];simp
 generalize hw2:w1.alloc (.cells #[.int .u32 3633889942,.int .u32 4104206661,.int .u32 770388896,.int .u32 1996717441,.int .u32 1671708914,.int .u32 4173129445,.int .u32 3777774151,.int .u32 1796723186] 22)=w2
 have hz2:w2.heap.size=w.heap.size+1+1:=by rw [←hw2];simp [hz1]
 generalize hw3:w2.alloc (.cells #[.int .u32 935285237,.int .u32 3417718888,.int .u32 1798397646,.int .u32 734933847,.int .u32 2081398294,.int .u32 2397563722,.int .u32 4263149467,.int .u32 1340293858] 22)=w3
 have hP:Holds w3 w.heap.size 26 #[.slice (some ⟨w.heap.size+1,0,none⟩) 8 8,.slice (some ⟨w.heap.size+1+1,0,none⟩) 8 8,.bool false]:=by
  rw [←hw3,←hw2,←hw1]
  exact ((Holds.fresh w _ _).alloc _).alloc _
 have hGX:Row .u32 22 w3 (w.heap.size+1) lX:=by
  rw [←hw3,←hw2,←hz1]
  exact (Holds.fresh w1 _ _).alloc _
 have hGY:Row .u32 22 w3 (w.heap.size+1+1) lY:=by
  rw [←hw3,←hz2]
  exact Holds.fresh w2 _ _
 have hb:Below w.heap.size w w3:=by
  rw [←hw3,←hw2,←hw1]
  exact (((Below.refl _ _).alloc (Nat.le_refl _) _).alloc (by simp) _).alloc (by simp;omega) _
 exact ret_pt rfl rfl hP rfl ⟨_,_,rfl,hGX,hGY,hb⟩
theorem set3 {w:World} {g:Nat} {t:TypeId} {a b c:Value} (h:Holds w g t #[a,b,c]) (p q r:Value):Holds (((w.setCell ⟨g,0,none⟩ p).setCell ⟨g,1,none⟩ q).setCell ⟨g,2,none⟩ r) g t #[p,q,r] :=
 ((h.stored 0 p).stored 1 q).stored 2 r
theorem below3 {B:Nat} {a w:World} (h:Below B a w) {g:Nat} (hg:B≤g) (p q r:Value):Below B a (((w.setCell ⟨g,0,none⟩ p).setCell ⟨g,1,none⟩ q).setCell ⟨g,2,none⟩ r) :=
 ((h.setCell (p:=⟨g,0,none⟩) hg p).setCell (p:=⟨g,1,none⟩) hg q).setCell (p:=⟨g,2,none⟩) hg r
theorem g_on:ptOk lX lY false=true:=by decide +kernel
end Go.Proofs.YtflfdglpljodbaaDoor
