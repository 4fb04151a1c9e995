/-
  The iterator as a value; how many things a thing is, by the program.
-/
import Derived.Test.YtlggbkacaemdjaaTlv11
namespace Go.Proofs.Ytlggbkacaemdjaa
open Go.RowKit Go.Shelf
set_option linter.unusedVariables false
set_option linter.unusedSimpArgs false
attribute [local go_sem] Oper.semAt_some

set_option maxRecDepth 100000 in
set_option maxHeartbeats 1000000 in
theorem all1_in (F : Fence) (hd : F.depth = none) (m : Nat) (h36 : F.fn 36) (h37 : F.fn 37) (hro : F.round = none) (l Bt c1 c2 B : Nat) (t : Lt) (J Jx : List It → World → Prop) (hJ : ∀ s W o, J s W → J s (W.alloc o))
    (hY : ∀ pre x W, J pre W → pre.length < t.t.count → YieldAt F (m - 1) Try.prog l (itv x) W fun e W' =>
      (e = .returned (.bool true) ∧ J (pre ++ [x]) W' ∧ PassX c1 c2 W W') ∨ (e = .returned (.bool false) ∧ Jx (pre ++ [x]) W'))
    (W : World) (hBt : Holds W Bt 25 t.cells) (hr : TrAt W B t) (hB1 : B ≤ c1) (hB2 : B ≤ c2) (hc1 : c1 < W.heap.size) (hc2 : c2 < W.heap.size) (hmx : t.t.count ≤ 3000000) (h0 : J [] W) :
    CallsIn F m Try.prog 36 #[.func (.yield l) #[] #[], .pointer (some ⟨Bt, 0, none⟩)] W fun e W' => (∃ v, e = .returned v) ∧
      ((∃ ys : List It, ys.map (·.1) = t.items 1 ∧ J ys W') ∨ (∃ pre : List It, pre.map (·.1) <+: t.items 1 ∧ Jx pre W')) := by
  have hdd : ∀ k : Nat, (F.depth.isSome = true → 1 ≤ k) := fun k h => by rw [hd] at h; cases h
  have anyD : ∀ (m' : Nat) (args : Array Value) (W : World) (R : Ending → World → Prop), YieldAt F (m - 1) Try.prog l args W R → YieldAt F m' Try.prog l args W R := fun m' args W R h => by
    obtain ⟨fn, tmps, assign, body, hy, hR⟩ := h
    exact ⟨fn, tmps, assign, body, hy, hR.1, fun c cs _ => hR.2 c cs (room_of_none hd _)⟩
  have hp := Lib.hid (walk_in F hd h37 hro l c1 c2 t.t.count J Jx hJ (fun m' pre x W hj hl => anyD m' _ _ _ (hY pre x W hj hl)) (t.sz + 1) t (Nat.lt_succ_self _) (m - 1) 1 B [] W hr hB1 hB2 hc1 hc2 h0 (by simp) (by omega))
  rw [Lt.val_eq] at hp
  have hcl : t.cells = #[.int .u8 (t.tag : Int), .slice t.ba t.body.length t.bc, .slice t.ka t.kids.length t.kc] := rfl
  rw [hcl] at hBt
  generalize t.tag = tag at *
  generalize t.ba = ba at *
  generalize t.bc = bc at *
  generalize t.body.length = bl at *
  generalize t.ka = ka at *
  generalize t.kids.length = n at *
  generalize t.kc = kc at *
  have z0 : W.cell? ⟨Bt, 0, none⟩ = some (.int .u8 (tag : Int)) := hBt.cell 0
  have z1 : W.cell? ⟨Bt, 1, none⟩ = some (.slice ba bl bc) := hBt.cell 1
  have z2 : W.cell? ⟨Bt, 2, none⟩ = some (.slice ka n kc) := hBt.cell 2
  clear hcl hBt hY anyD hr hJ
  refine callsIn_of_wp Try.func36 rfl h36 ?_ hro
  simp only [Try.ntmps36, List.size_toArray, List.length_cons, List.length_nil, Nat.reduceAdd, Nat.reduceSub, Array.replicate_succ, Array.replicate_zero, List.push_toArray, List.append_toArray, List.nil_append, List.cons_append]
  gi_wp2_with ((try refine ⟨hdd _, ?_⟩); gi_at_call 37; refine hp.out.mono ?_; clear hp; rintro e W1 (⟨rfl, ys, hys, hJ1, _⟩ | ⟨rfl, ys, hys, hx⟩))
  · go_end0
    exact ⟨⟨_, rfl⟩, .inl ⟨ys, hys, by simpa using hJ1⟩⟩
  · go_end0
    exact ⟨⟨_, rfl⟩, .inr ⟨ys, hys, by simpa using hx⟩⟩
set_option maxRecDepth 100000 in
set_option maxHeartbeats 1000000 in
theorem all_in (F : Fence) (m : Nat) (h24 : F.fn 24) (hro : F.round = none) (t : Lt) (w : World) :
    CallsIn F m Try.prog 24 #[t.val] w fun e w' => e = .returned (.func (.func 36) #[] #[.pointer (some ⟨w.heap.size, 0, none⟩)]) ∧ w' = w.alloc (.cells t.cells 25) := by
  have hcl : t.cells = #[.int .u8 (t.tag : Int), .slice t.ba t.body.length t.bc, .slice t.ka t.kids.length t.kc] := rfl
  rw [Lt.val_eq, hcl]
  generalize t.tag = tag at *
  generalize t.ba = ba at *
  generalize t.bc = bc at *
  generalize t.body.length = bl at *
  generalize t.ka = ka at *
  generalize t.kids.length = n at *
  generalize t.kc = kc at *
  clear hcl
  refine callsIn_of_wp Try.func24 rfl h24 ?_ hro
  simp only [Try.ntmps24, List.size_toArray, List.length_cons, List.length_nil, Nat.reduceAdd, Nat.reduceSub, Array.replicate_succ, Array.replicate_zero, List.push_toArray, List.append_toArray, List.nil_append, List.cons_append]
  gi_wp2
  go_ret
  exact ⟨rfl, rfl⟩
theorem all_stops (F : Fence) (hd : F.depth = none) (m : Nat) (h36 : F.fn 36) (h37 : F.fn 37) (hro : F.round = none) (Bt c1 c2 B : Nat) (t : Lt) (w : World) (hBt : Holds w Bt 25 t.cells) (hr : TrAt w B t) (hB : B ≤ w.heap.size) (hB1 : B ≤ c1) (hB2 : B ≤ c2) (hc1 : c1 < w.heap.size) (hc2 : c2 < w.heap.size) (hmx : t.t.count ≤ 3000000) :
    SeqStopsK F m Try.prog 36 #[.pointer (some ⟨Bt, 0, none⟩)] itv (PassX c1 c2) (fun ys => ys.map (·.1) = t.items 1) (fun pre => pre.map (·.1) <+: t.items 1) t.t.count w := fun l J Jx W hW hJ _ hY h0 =>
  all1_in F hd m h36 h37 hro l Bt c1 c2 B t J Jx (fun s W' o h => hJ s W' _ none h (World.grownBy_alloc W' o none) (fun r e => by cases e)) hY W (hBt.under hW hBt.lt) (hr.under' (hW.mono hB)) hB1 hB2 (Nat.lt_of_lt_of_le hc1 hW.size) (Nat.lt_of_lt_of_le hc2 hW.size) hmx h0
end Go.Proofs.Ytlggbkacaemdjaa
