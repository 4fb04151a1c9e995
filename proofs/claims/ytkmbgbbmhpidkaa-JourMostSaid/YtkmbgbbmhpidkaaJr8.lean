/-
  Many sectors at once: a disk while others' blocks turn; all places one after the other, as an iterator.
-/
import Derived.RangeFuncNested
import Derived.RangeFuncBound
import Derived.RangeFuncCalls
import Derived.RangeFuncLeaves
import Derived.RangeFuncKeeps
import Derived.RangeFuncFrom
import Derived.Shelf.Abstract
import Derived.Shelf.RegionOpen
import Derived.OwnWalkIn
import Derived.TacticsInMore
import Derived.LoopNIn
import Derived.LoopIn
import Derived.Test.YtkmbgbbmhpidkaaJr7
namespace Go.Proofs.Ytkmbgbbmhpidkaa
open Go.RowKit Go.Shelf
set_option linter.unusedVariables false
set_option linter.unusedSimpArgs false
attribute [local go_sem] Oper.semAt_some

theorem cells_of {w : World} {g o : Nat} {v : Value} (h : w.cell? ⟨g, o, none⟩ = some v) : ∃ x : Obj, w.heap[g]? = some x ∧ x.isCells = true := Go.cells_of_cell h
theorem holds_cells {w : World} {g : Nat} {t : TypeId} {cs : Array Value} (h : Holds w g t cs) : ∃ x : Obj, w.heap[g]? = some x ∧ x.isCells = true := ⟨_, h, rfl⟩
theorem DiskAt.cells {w : World} {gd gn gl : Nat} {A : Option Addr} {cw : Nat} {K : Option Addr} {ck : Nat} {s : Dk} (h : DiskAt w gd gn gl A cw K ck s) : ∀ g, (g = gd ∨ g = gn ∨ g = gl ∨ blockOf A = some g) → ∃ x : Obj, w.heap[g]? = some x ∧ x.isCells = true := by
  rintro g (rfl | rfl | rfl | hg)
  · exact holds_cells h.hd
  · obtain ⟨cur, e, hc, _⟩ := h.hn
    exact ⟨_, hc, rfl⟩
  · obtain ⟨cur, e, hc, _⟩ := h.hl
    exact ⟨_, hc, rfl⟩
  · rcases h.hw.own with ⟨_, ⟨e, _⟩ | ⟨g', cap, cur, e, _, hc, _⟩⟩
    · injection e with e
      rw [e] at hg
      simp [blockOf] at hg
    · injection e with e
      rw [e] at hg
      obtain rfl : g' = g := by simpa [blockOf] using hg
      exact ⟨_, hc, rfl⟩
theorem Only.others {F : Nat → Prop} {w w' : World} (h : Only F w w') (hc : ∀ g, F g → ∃ x : Obj, w.heap[g]? = some x ∧ x.isCells = true) : KeepsOthers w w' :=
  ⟨h.size, fun k o hk ho => (h.block k (Array.getElem?_eq_some_iff.1 hk).1 fun hF => by
    obtain ⟨x, hx, hxc⟩ := hc k hF
    rw [hk] at hx
    injection hx with hx
    rw [hx, hxc] at ho
    cases ho).trans hk⟩
theorem Truths.keepCells {w w' : World} {K : Option Addr} {c : Nat} {l : List Bool} (h : Truths w K c l) (hs : w.heap.size ≤ w'.heap.size) (hk : ∀ (g : Nat) (o : Obj), w.heap[g]? = some o → o.isCells = true → w'.heap[g]? = w.heap[g]?) : Truths w' K c l :=
  ⟨h.1, h.2.1, fun hn => by
    obtain ⟨b, off, e, hlt, hc⟩ := h.2.2 hn
    obtain ⟨x, hx, hxc⟩ := cells_of (hc 0 hn)
    have hb := hk b x hx hxc
    exact ⟨b, off, e, Nat.lt_of_lt_of_le hlt hs, fun j hj => by rw [← hc j hj]; simp only [World.cell?]; rw [hb]⟩⟩
/-- The disk stays while no block of cells turns. -/
theorem Disk.keepCells {w w' : World} {F : Nat → Prop} {gd : Nat} {s : Dk} (h : Disk w F gd s) (hs : w.heap.size ≤ w'.heap.size) (hk : ∀ (g : Nat) (o : Obj), w.heap[g]? = some o → o.isCells = true → w'.heap[g]? = w.heap[g]?) : Disk w' F gd s := by
  obtain ⟨gn, gl, A, cw, K, ck, h, f⟩ := h
  have k : ∀ g, (g = gd ∨ g = gn ∨ g = gl ∨ blockOf A = some g) → w'.heap[g]? = w.heap[g]? := fun g hg => by
    obtain ⟨x, hx, hxc⟩ := h.cells g hg
    exact hk g x hx hxc
  exact ⟨gn, gl, A, cw, K, ck, {
    hd := (k gd (.inl rfl)).trans h.hd
    hn := h.hn.keep (k gn (.inr (.inl rfl)))
    hl := h.hl.keep (k gl (.inr (.inr (.inl rfl))))
    len := h.len
    hw := h.hw.keep fun g hg => k g (.inr (.inr (.inr hg)))
    hk := h.hk.keepCells hs hk
    dn := h.dn
    dl := h.dl
    nl := h.nl
    ad := h.ad
    kd := h.kd
    kw := fun g hg => Nat.lt_of_lt_of_le (h.kw g hg) hs
    n1 := h.n1
    n2 := h.n2
    wat := h.wat }, f⟩
theorem Disk.low {w : World} {F : Nat → Prop} {gd : Nat} {s : Dk} (h : Disk w F gd s) : Disk w (fun k => F k ∧ k < w.heap.size) gd s := by
  obtain ⟨gn, gl, A, cw, K, ck, h, f1, f2, f3, f4, f5⟩ := h
  exact ⟨gn, gl, A, cw, K, ck, h, ⟨f1, Holds.lt h.hd⟩, ⟨f2, h.hn.lt⟩, ⟨f3, h.hl.lt⟩, fun g hg => ⟨f4 g hg, h.hw.lt hg⟩, fun g hg => ⟨f5 g hg, h.kw g hg⟩⟩
/-- A write, and nothing but cells turns. -/
theorem disk_writeO {w : World} {F : Nat → Prop} {gd : Nat} {s : Dk} (h : Disk w F gd s) (i : Int) (A2 : Option Addr) (n2 c2 : Nat) (x : List Nat) (hn : x.length = n2) (hr : Rd .u8 w w.heap.size A2 c2 x) (hwl : s.waits.length ≤ 100000) (hops : s.ops ≤ 1000000000) :
    Calls Try.prog 20 #[.pointer (some ⟨gd, 0, none⟩), .int .i64 i, .slice A2 n2 c2] w fun e w' => e = .returned (.int .i64 ((s.write i x).2 : Nat)) ∧ Disk w' (grow F w w') gd (s.write i x).1 ∧ Only F w w' ∧ KeepsOthers w w' := by
  obtain ⟨gn, gl, A, cw, K, ck, h, f1, f2, f3, f4, f5⟩ := h
  have hself : Disk w (grow F w w) gd s := h.disk (F := F) ⟨f1, f2, f3, f4, f5⟩ h (fun g e => .inl e) (fun g e => .inl e)
  unfold Dk.write
  by_cases hdn : s.down = true
  · rw [if_pos hdn]
    refine (write_down w gd s gn gl A cw K ck h hdn i _).mono ?_
    rintro e w' ⟨rfl, rfl⟩
    exact ⟨rfl, hself, Only.refl _ _, KeepsOthers.refl _⟩
  · rw [if_neg hdn]
    have hdn' : s.down = false := by simpa using hdn
    by_cases hf : s.fits i x
    · rw [if_pos hf]
      obtain ⟨h0, h1, h2⟩ := hf
      obtain ⟨i, rfl⟩ : ∃ k : Nat, i = (k : Int) := ⟨i.toNat, by omega⟩
      obtain rfl : n2 = 64 := by omega
      by_cases hd : s.due = true
      · rw [if_pos hd]
        refine (write_due w gd s gn gl A cw K ck h hdn' i (by omega) A2 c2 hd hwl).mono ?_
        rintro e w' ⟨rfl, hd', ho⟩
        exact ⟨rfl, h.disk ⟨f1, f2, f3, f4, f5⟩ hd' (fun g e => by simp [blockOf] at e) (fun g e => .inl e), ho.more fun k _ e => by rcases e with rfl | rfl | rfl; exact f1; exact f2; exact f3, ho.others fun g hg => h.cells g (by rcases hg with rfl | rfl | rfl; exact .inl rfl; exact .inr (.inl rfl); exact .inr (.inr (.inl rfl)))⟩
      · rw [if_neg hd]
        refine (write_ok w gd gn gl A cw K ck s h i (by omega) x h2 hdn' (by simpa [Dk.due] using hd) A2 c2 hr hwl hops).mono ?_
        rintro e w' ⟨rfl, g', c', hd', hA, ho⟩
        refine ⟨rfl, h.disk ⟨f1, f2, f3, f4, f5⟩ hd' (fun g e => ?_) (fun g e => .inl e), ho.more fun k _ e => by rcases e with rfl | rfl | e; exact f1; exact f2; exact f4 k e, ho.others fun g hg => h.cells g (by rcases hg with rfl | rfl | hg; exact .inl rfl; exact .inr (.inl rfl); exact .inr (.inr (.inr hg)))⟩
        obtain rfl : g' = g := by simpa [blockOf] using e
        exact hA
    · rw [if_neg hf]
      refine (write_arg w gd s gn gl A cw K ck h hdn' i A2 n2 c2 (fun e => hf ⟨e.1, e.2.1, by omega⟩)).mono ?_
      rintro e w' ⟨rfl, rfl⟩
      exact ⟨rfl, hself, Only.refl _ _, KeepsOthers.refl _⟩
theorem disk_flushO {w : World} {F : Nat → Prop} {gd : Nat} {s : Dk} (h : Disk w F gd s) (hwl : s.waits.length ≤ 100000) (hops : s.ops ≤ 1000000000) :
    Calls Try.prog 23 #[.pointer (some ⟨gd, 0, none⟩)] w fun e w' => e = .returned (.int .i64 (s.flush.2 : Nat)) ∧ Disk w' (grow F w w') gd s.flush.1 ∧ Only F w w' ∧ KeepsOthers w w' := by
  obtain ⟨gn, gl, A, cw, K, ck, h, f1, f2, f3, f4, f5⟩ := h
  have hself : Disk w (grow F w w) gd s := h.disk (F := F) ⟨f1, f2, f3, f4, f5⟩ h (fun g e => .inl e) (fun g e => .inl e)
  unfold Dk.flush
  by_cases hdn : s.down = true
  · rw [if_pos hdn]
    refine (flush_down w gd s gn gl A cw K ck h hdn).mono ?_
    rintro e w' ⟨rfl, rfl⟩
    exact ⟨rfl, hself, Only.refl _ _, KeepsOthers.refl _⟩
  · rw [if_neg hdn]
    have hdn' : s.down = false := by simpa using hdn
    by_cases hd : s.due = true
    · rw [if_pos hd]
      refine (flush_due w gd s gn gl A cw K ck h hdn' hd hwl).mono ?_
      rintro e w' ⟨rfl, hd', ho⟩
      exact ⟨rfl, h.disk ⟨f1, f2, f3, f4, f5⟩ hd' (fun g e => by simp [blockOf] at e) (fun g e => .inl e), ho.more fun k _ e => by rcases e with rfl | rfl | rfl; exact f1; exact f2; exact f3, ho.others fun g hg => h.cells g (by rcases hg with rfl | rfl | rfl; exact .inl rfl; exact .inr (.inl rfl); exact .inr (.inr (.inl rfl)))⟩
    · rw [if_neg hd]
      refine (flush_ok w gd gn gl A cw K ck s h hdn' (by simpa [Dk.due] using hd) hwl hops (fun _ => true) fun _ => rfl).mono ?_
      rintro e w' ⟨rfl, hd', ho⟩
      exact ⟨rfl, h.disk ⟨f1, f2, f3, f4, f5⟩ hd' (fun g e => by simp [blockOf] at e) (fun g e => .inl e), ho.more fun k _ e => by rcases e with rfl | rfl; exact f1; exact f3, ho.others fun g hg => h.cells g (by rcases hg with rfl | rfl; exact .inl rfl; exact .inr (.inr (.inl rfl)))⟩
/-- The disk since w, while block r is the caller's own. -/
def DJr (w : World) (F : Nat → Prop) (r : Nat) (gd : Nat) (s : Dk) (W : World) : Prop := Disk W (grow F w W) gd s ∧ Only (fun k => F k ∨ k = r) w W
section
variable {w W W' : World} {F : Nat → Prop} {r gd : Nat} {s s' : Dk}
theorem DJ.toR (h : DJ w F gd s W) : DJr w F r gd s W := ⟨h.1, h.2.more fun k _ hk => .inl hk⟩
theorem DJr.turns {row : Option Nat} (h : DJr w F r gd s W) (hg : W.grownBy W' row) (hr : ∀ q, row = some q → w.heap.size ≤ q ∧ ∃ o : Obj, W.heap[q]? = some o ∧ o.isCells = false) : DJr w F r gd s W' :=
  ⟨(h.1.keepCells hg.size fun g o ho hc => hg.block g (Array.getElem?_eq_some_iff.1 ho).1 fun e => by
    obtain ⟨_, o', ho', hc'⟩ := hr g e.symm
    rw [ho] at ho'
    injection ho' with ho'
    rw [← ho', hc] at hc'
    cases hc').more fun k hk => by
      have := hg.size
      rcases hk with hk | hk
      · exact .inl hk
      · exact .inr ⟨hk.1, by omega⟩,
   h.2.grown hg fun g e => .inr (hr g e).1⟩
theorem DJ.turns {row : Option Nat} (h : DJ w F gd s W) (hg : W.grownBy W' row) (hr : ∀ q, row = some q → w.heap.size ≤ q ∧ ∃ o : Obj, W.heap[q]? = some o ∧ o.isCells = false) : DJ w F gd s W' :=
  ⟨((DJ.toR (r := 0) h).turns hg hr).1, h.2.grown hg fun g e => .inr (hr g e).1⟩
theorem DJ.writeO (h : DJ w F gd s W) (i : Int) (A2 : Option Addr) (n2 c2 : Nat) (x : List Nat) (hn : x.length = n2) (hr : Rd .u8 W W.heap.size A2 c2 x) (hwl : s.waits.length ≤ 100000) (hops : s.ops ≤ 1000000000) :
    Calls Try.prog 20 #[.pointer (some ⟨gd, 0, none⟩), .int .i64 i, .slice A2 n2 c2] W fun e w' => e = .returned (.int .i64 ((s.write i x).2 : Nat)) ∧ DJ w F gd (s.write i x).1 w' ∧ KeepsOthers W w' :=
  (disk_writeO h.1 i A2 n2 c2 x hn hr hwl hops).mono fun e w' q => ⟨q.1, h.step q.2.1 q.2.2.1, q.2.2.2⟩
end
theorem DJ.flushO {w W : World} {F : Nat → Prop} {gd : Nat} {s : Dk} (h : DJ w F gd s W) (hwl : s.waits.length ≤ 100000) (hops : s.ops ≤ 1000000000) :
    Calls Try.prog 23 #[.pointer (some ⟨gd, 0, none⟩)] W fun e w' => e = .returned (.int .i64 (s.flush.2 : Nat)) ∧ DJ w F gd s.flush.1 w' ∧ KeepsOthers W w' :=
  (disk_flushO h.1 hwl hops).mono fun e w' q => ⟨q.1, h.step q.2.1 q.2.2.1, q.2.2.2⟩
/-! All places, one after the other. -/
set_option maxRecDepth 100000 in
theorem places_any (w : World) (gd : Nat) : Calls Try.prog 54 #[.pointer (some ⟨gd, 0, none⟩)] w fun e w' => e = .returned (.func (.func 64) #[] #[.pointer (some ⟨w.heap.size, 0, none⟩)]) ∧ w' = w.alloc (.cells #[.pointer (some ⟨gd, 0, none⟩)] 23) := by
  go_enter Try.func54, Try.ntmps54
  go_wp2_with fail
  go_ret
  exact ⟨rfl, rfl⟩
def RelPl (J : List (Fin 2000) → World → Prop) (m : Nat) (i : Value) (wr : World) : Prop :=
  ∃ (k : Nat) (pre : List (Fin 2000)), k ≤ m ∧ i = .int .i64 k ∧ Hid (pre.map Fin.val = List.range k) ∧ J pre wr
theorem range_pre {k m : Nat} (h : k ≤ m) : List.range k <+: List.range m := by
  refine ⟨(List.range (m - k)).map (k + ·), ?_⟩
  rw [← List.range_add, Nat.add_sub_cancel' h]
def plv (i : Fin 2000) : Array Value := #[.int .i64 ((i.val : Nat) : Int)]
set_option maxRecDepth 100000 in
set_option maxHeartbeats 2000000 in
theorem places_stops {w : World} {F : Nat → Prop} {gd : Nat} {s : Dk} (hd : Disk w F gd s) (bx : Nat) (hb : Holds w bx 23 #[.pointer (some ⟨gd, 0, none⟩)]) :
    SeqStopsK Fence.wide 2 Try.prog 64 #[.pointer (some ⟨bx, 0, none⟩)] plv (fun _ _ => True) (fun xs => xs.map Fin.val = List.range s.many) (fun pre => pre.map Fin.val <+: List.range s.many) s.many w := fun l J Jx W hW hJ hJx hY h0 => by
  have hdW := (DJ.start hd).below hW
  have HM := Lib.hid (callsIn_wide (n := 1).2 (jmany hdW.1))
  have hm2 : s.many ≤ 2000 := by have := hd.len.2.2; unfold Dk.many; omega
  have z0 : W.cell? ⟨bx, 0, none⟩ = some (.pointer (some ⟨gd, 0, none⟩)) := (hb.under hW hb.lt).cell 0
  clear hd hb hdW hW
  generalize s.many = m at *
  refine callsIn_of_wp Try.func64 rfl trivial ?_ rfl
  simp only [Try.ntmps64, List.size_toArray, List.length_cons, List.length_nil, Nat.reduceAdd, Nat.reduceSub, Array.replicate_succ, Array.replicate_zero, List.push_toArray, List.append_toArray, List.nil_append, List.cons_append]
  gi_wp2_with (refine ⟨trivial, ?_⟩; gi_at_call 28; refine HM.out.mono ?_; rintro e w1 ⟨rfl, rfl⟩)
  clear z0 HM
  gi_loopw [6] (fun i wr => RelPl J m i wr) (fun i _ => m - (intOf i).toNat)
  case atStart => exact ⟨0, [], Nat.zero_le _, rfl, Lib.hid rfl, h0⟩
  case round =>
    obtain ⟨k, pre, hk, rfl, HPRE, hj⟩ := hrel
    obtain ⟨V, hV⟩ : ∃ V, V = wr := ⟨_, rfl⟩
    subst hV
    by_cases hlt : k < m
    case pos =>
      have hkI : (k : Int) < (m : Int) := by omega
      have hk0 : (0 : Int) ≤ (k : Int) := by omega
      have hpl : pre.length = k := by have := congrArg List.length HPRE.out; simpa using this
      have HPN : Hid ((pre ++ [(⟨k, by omega⟩ : Fin 2000)]).map Fin.val = List.range (k + 1)) := Lib.hid (by rw [List.map_append, HPRE.out, List.range_succ]; rfl)
      have hyy := hY pre ⟨k, by omega⟩ V hj (by omega)
      have hkw : IntKind.i64.wrap ((k : Int) + 1) = (k : Int) + 1 := IntWalk.i64_in _ (by omega)
      rw [show plv ⟨k, by omega⟩ = #[.int .i64 (k : Int)] from rfl] at hyy
      obtain ⟨fn, tmps, assign, bdy, hyr, hR⟩ := hyy
      generalize pre ++ [(⟨k, by omega⟩ : Fin 2000)] = pr at *
      clear hpl hj hY h0
      gi_wp2_with (refine hR.mono ?_; clear hR; rintro e W2 (⟨rfl, hJ2, _⟩ | ⟨rfl, hx2⟩))
      · go_roundw
        case rel => exact ⟨k + 1, pr, by omega, by go_num, HPN, hJ2⟩
        case measure => simp [intOf]; omega
      · exact bodyPost_ret (v := .tuple #[]) (by simp [results, Try.results64, go_sem]) rfl ⟨⟨_, rfl⟩, .inr ⟨pr, by rw [HPN.out]; exact range_pre (by omega), hx2⟩⟩
    case neg =>
      obtain rfl : k = m := by omega
      have hkI : ¬ ((k : Int) < (k : Int)) := by omega
      gi_wp2
      go_end0
      exact ⟨⟨_, rfl⟩, .inl ⟨pre, HPRE.out, hj⟩⟩
end Go.Proofs.Ytkmbgbbmhpidkaa
