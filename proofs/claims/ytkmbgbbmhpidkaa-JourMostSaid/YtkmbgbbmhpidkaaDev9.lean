/-
  A disk's operations, whatever its blocks.
-/
import Derived.Test.YtkmbgbbmhpidkaaDev8
namespace Go.Proofs.Ytkmbgbbmhpidkaa
open Go.RowKit
set_option linter.unusedVariables false

section
variable {w : World} {F : Nat → Prop} {gd : Nat} {s : Dk}
theorem Disk.pos (h : Disk w F gd s) : F gd ∧ gd < w.heap.size := by
  obtain ⟨gn, gl, A, cw, K, ck, h, f1, f2, f3, f4, f5⟩ := h
  exact ⟨f1, Holds.lt h.hd⟩
theorem Disk.len (h : Disk w F gd s) : s.lasts.length = s.now.length ∧ 1 ≤ s.now.length ∧ s.now.length ≤ 2000 := by
  obtain ⟨gn, gl, A, cw, K, ck, h, _⟩ := h
  exact ⟨h.len, h.n1, h.n2⟩
theorem Disk.sect (h : Disk w F gd s) {i : Nat} {x : List Nat} (hx : s.now[i]? = some x) : x.length = 64 := by
  obtain ⟨gn, gl, A, cw, K, ck, h, _⟩ := h
  exact h.hn.len hx
theorem Disk.grown (h : Disk w F gd s) (w' : World) : Disk w (grow F w w') gd s := h.more fun k hk => .inl hk

theorem disk_write (h : Disk w F gd s) (i : Int) (A2 : Option Addr) (n2 c2 : Nat) (x : List Nat) (hn : x.length = n2) (hr : Rd .u8 w w.heap.size A2 c2 x) (hwl : s.waits.length ≤ 100000) (hops : s.ops ≤ 1000000000) :
    Calls Try.prog 20 #[.pointer (some ⟨gd, 0, none⟩), .int .i64 i, .slice A2 n2 c2] w fun e w' => e = .returned (.int .i64 ((s.write i x).2 : Nat)) ∧ Disk w' (grow F w w') gd (s.write i x).1 ∧ Only F w w' := by
  obtain ⟨gn, gl, A, cw, K, ck, h, f1, f2, f3, f4, f5⟩ := h
  have hself : Disk w (grow F w w) gd s := h.disk (F := F) ⟨f1, f2, f3, f4, f5⟩ h (fun g e => .inl e) (fun g e => .inl e)
  unfold Dk.write
  by_cases hdn : s.down = true
  · rw [if_pos hdn]
    refine (write_down w gd s gn gl A cw K ck h hdn i _).mono ?_
    rintro e w' ⟨rfl, rfl⟩
    exact ⟨rfl, hself, Only.refl _ _⟩
  · rw [if_neg hdn]
    have hdn' : s.down = false := by simpa using hdn
    by_cases hf : s.fits i x
    · rw [if_pos hf]
      obtain ⟨h0, h1, h2⟩ := hf
      obtain ⟨i, rfl⟩ : ∃ k : Nat, i = (k : Int) := ⟨i.toNat, by omega⟩
      obtain rfl : n2 = 64 := by omega
      by_cases hd : s.due = true
      · rw [if_pos hd]
        refine (write_due w gd s gn gl A cw K ck h hdn' i (by omega) A2 c2 hd hwl).mono ?_
        rintro e w' ⟨rfl, hd', ho⟩
        exact ⟨rfl, h.disk ⟨f1, f2, f3, f4, f5⟩ hd' (fun g e => by simp [blockOf] at e) (fun g e => .inl e), ho.more fun k _ e => by rcases e with rfl | rfl | rfl; exact f1; exact f2; exact f3⟩
      · rw [if_neg hd]
        refine (write_ok w gd gn gl A cw K ck s h i (by omega) x h2 hdn' (by simpa [Dk.due] using hd) A2 c2 hr hwl hops).mono ?_
        rintro e w' ⟨rfl, g', c', hd', hA, ho⟩
        refine ⟨rfl, h.disk ⟨f1, f2, f3, f4, f5⟩ hd' (fun g e => ?_) (fun g e => .inl e), ho.more fun k _ e => by rcases e with rfl | rfl | e; exact f1; exact f2; exact f4 k e⟩
        obtain rfl : g' = g := by simpa [blockOf] using e
        exact hA
    · rw [if_neg hf]
      refine (write_arg w gd s gn gl A cw K ck h hdn' i A2 n2 c2 (fun e => hf ⟨e.1, e.2.1, by omega⟩)).mono ?_
      rintro e w' ⟨rfl, rfl⟩
      exact ⟨rfl, hself, Only.refl _ _⟩
theorem disk_flush (h : Disk w F gd s) (hwl : s.waits.length ≤ 100000) (hops : s.ops ≤ 1000000000) :
    Calls Try.prog 23 #[.pointer (some ⟨gd, 0, none⟩)] w fun e w' => e = .returned (.int .i64 (s.flush.2 : Nat)) ∧ Disk w' (grow F w w') gd s.flush.1 ∧ Only F w w' := by
  obtain ⟨gn, gl, A, cw, K, ck, h, f1, f2, f3, f4, f5⟩ := h
  have hself : Disk w (grow F w w) gd s := h.disk (F := F) ⟨f1, f2, f3, f4, f5⟩ h (fun g e => .inl e) (fun g e => .inl e)
  unfold Dk.flush
  by_cases hdn : s.down = true
  · rw [if_pos hdn]
    refine (flush_down w gd s gn gl A cw K ck h hdn).mono ?_
    rintro e w' ⟨rfl, rfl⟩
    exact ⟨rfl, hself, Only.refl _ _⟩
  · rw [if_neg hdn]
    have hdn' : s.down = false := by simpa using hdn
    by_cases hd : s.due = true
    · rw [if_pos hd]
      refine (flush_due w gd s gn gl A cw K ck h hdn' hd hwl).mono ?_
      rintro e w' ⟨rfl, hd', ho⟩
      exact ⟨rfl, h.disk ⟨f1, f2, f3, f4, f5⟩ hd' (fun g e => by simp [blockOf] at e) (fun g e => .inl e), ho.more fun k _ e => by rcases e with rfl | rfl | rfl; exact f1; exact f2; exact f3⟩
    · rw [if_neg hd]
      refine (flush_ok w gd gn gl A cw K ck s h hdn' (by simpa [Dk.due] using hd) hwl hops (fun _ => true) fun _ => rfl).mono ?_
      rintro e w' ⟨rfl, hd', ho⟩
      exact ⟨rfl, h.disk ⟨f1, f2, f3, f4, f5⟩ hd' (fun g e => by simp [blockOf] at e) (fun g e => .inl e), ho.more fun k _ e => by rcases e with rfl | rfl; exact f1; exact f3⟩
theorem disk_restart (h : Disk w F gd s) (hwl : s.waits.length ≤ 100000) :
    Calls Try.prog 14 #[.pointer (some ⟨gd, 0, none⟩)] w fun e w' => e = .returned (.tuple #[]) ∧ Disk w' (grow F w w') gd s.restart ∧ Only F w w' := by
  obtain ⟨gn, gl, A, cw, K, ck, h, f1, f2, f3, f4, f5⟩ := h
  refine (restart_low w gd s gn gl A cw K ck h hwl).mono ?_
  rintro e w' ⟨rfl, hd', ho⟩
  exact ⟨rfl, h.disk ⟨f1, f2, f3, f4, f5⟩ hd' (fun g e => by simp [blockOf] at e) (fun g e => by simp [blockOf] at e), ho.more fun k _ e => by rcases e with rfl | rfl; exact f1; exact f2⟩
theorem disk_arm (h : Disk w F gd s) (a : Int) (K2 : Option Addr) (c2 n2 : Nat) (l : List Bool) (hn : l.length = n2) (hr : Truths w K2 c2 l) (hsz : n2 ≤ 1000000) (hne : l ≠ [] → ∀ g, blockOf K2 = some g → g ≠ gd) :
    Calls Try.prog 12 #[.pointer (some ⟨gd, 0, none⟩), .agg #[.int .i64 a, .slice K2 n2 c2]] w fun e w' => e = .returned (.tuple #[]) ∧ Disk w' (grow F w w') gd (s.arm a l) ∧ Only F w w' := by
  obtain ⟨gn, gl, A, cw, K, ck, h, f1, f2, f3, f4, f5⟩ := h
  refine (arm_low w gd gn gl A cw K ck s h a K2 c2 n2 l hn hr hsz hne).mono ?_
  rintro e w' ⟨rfl, ⟨K', ck', hd', hK⟩, ho⟩
  exact ⟨rfl, h.disk ⟨f1, f2, f3, f4, f5⟩ hd' (fun g e => .inl e) (fun g e => .inr (hK g e)), ho.more fun k _ e => by subst e; exact f1⟩
theorem disk_read (h : Disk w F gd s) (i : Int) :
    Calls Try.prog 46 #[.pointer (some ⟨gd, 0, none⟩), .int .i64 i] w fun e w' => ∃ A' n' c', e = .returned (.slice A' n' c') ∧ (s.read i).length = n' ∧ Rd .u8 w' w'.heap.size A' c' (s.read i) ∧ (n' ≠ 0 → A' = some ⟨w.heap.size, 0, none⟩ ∧ c' = n' ∧ Row .u8 5 w' w.heap.size (s.read i)) ∧ Below w.heap.size w w' := by
  obtain ⟨gn, gl, A, cw, K, ck, h, f1, f2, f3, f4, f5⟩ := h
  by_cases hi : 0 ≤ i ∧ i < (s.now.length : Int)
  · obtain ⟨i, rfl⟩ : ∃ k : Nat, i = (k : Int) := ⟨i.toNat, by omega⟩
    have hin : i < s.now.length := by omega
    obtain ⟨x, hx⟩ : ∃ x, s.now[i]? = some x := ⟨_, List.getElem?_eq_getElem hin⟩
    have he : s.read (i : Int) = x := by unfold Dk.read; rw [if_pos hi.1, Int.toNat_natCast, List.getD, hx]; rfl
    have hl := h.hn.len hx
    refine (read_yes w gd gn gl A cw K ck s h i x hx).mono ?_
    rintro e w' ⟨rfl, hrow, hb⟩
    rw [he]
    have hlt := Holds.lt hrow
    refine ⟨_, 64, 64, rfl, hl, ?_, fun _ => ⟨rfl, rfl, hrow⟩, hb⟩
    have := hrow.rd (n := 64) (c := 64) (by omega) (Nat.le_refl _) (by omega)
    rw [List.take_of_length_le (by omega)] at this
    exact this.more hlt
  · have he : s.read i = [] := by
      unfold Dk.read
      by_cases h0 : 0 ≤ i
      · rw [if_pos h0, List.getD, List.getElem?_eq_none (by omega)]; rfl
      · rw [if_neg h0]
    refine (read_no w gd gn gl A cw K ck s h i hi).mono ?_
    rintro e w' ⟨rfl, rfl⟩
    rw [he]
    exact ⟨none, 0, 0, rfl, rfl, Rd.nil_ _ _ _, fun e => absurd rfl e, Below.refl _ _⟩
theorem disk_down (h : Disk w F gd s) : Calls Try.prog 44 #[.pointer (some ⟨gd, 0, none⟩)] w fun e w' => e = .returned (.bool s.down) ∧ w = w' := by
  obtain ⟨gn, gl, A, cw, K, ck, h, _⟩ := h
  exact down_any w gd _ (h.hd.cell 7)
theorem disk_size (h : Disk w F gd s) : Calls Try.prog 60 #[.pointer (some ⟨gd, 0, none⟩)] w fun e w' => e = .returned (.int .i64 (s.now.length : Int)) ∧ w = w' := by
  obtain ⟨gn, gl, A, cw, K, ck, h, _⟩ := h
  exact size_any w gd _ _ _ (h.hd.cell 0)
theorem disk_ops (h : Disk w F gd s) : Calls Try.prog 31 #[.pointer (some ⟨gd, 0, none⟩)] w fun e w' => e = .returned (.int .i64 (s.ops : Int)) ∧ w = w' := by
  obtain ⟨gn, gl, A, cw, K, ck, h, _⟩ := h
  exact ops_any w gd _ (h.hd.cell 3)
end

/-! Of nil nothing is there. -/
set_option maxRecDepth 100000 in
theorem write_nil (w : World) (i : Int) (v : Value) : Calls Try.prog 20 #[.pointer none, .int .i64 i, v] w fun e w' => e = .returned (.int .i64 6) ∧ w = w' := by
  go_enter Try.func20, Try.ntmps20
  go_wp2_with (refine (down_nil _).mono ?_; rintro e w1 ⟨rfl, rfl⟩)
  go_ret
  exact ⟨rfl, rfl⟩
set_option maxRecDepth 100000 in
theorem flush_nil (w : World) : Calls Try.prog 23 #[.pointer none] w fun e w' => e = .returned (.int .i64 6) ∧ w = w' := by
  go_enter Try.func23, Try.ntmps23
  go_wp2_with (refine (down_nil _).mono ?_; rintro e w1 ⟨rfl, rfl⟩)
  go_ret
  exact ⟨rfl, rfl⟩
set_option maxRecDepth 100000 in
theorem read_nil (w : World) (i : Int) : Calls Try.prog 46 #[.pointer none, .int .i64 i] w fun e w' => e = .returned (.slice none 0 0) ∧ w = w' := by
  go_enter Try.func46, Try.ntmps46
  go_wp2_with (refine (has_nil _ _).mono ?_; rintro e w1 ⟨rfl, rfl⟩)
  go_ret
  exact ⟨rfl, rfl⟩
set_option maxRecDepth 100000 in
theorem restart_nil (w : World) : Calls Try.prog 14 #[.pointer none] w fun e w' => e = .returned (.tuple #[]) ∧ w = w' := by
  go_enter Try.func14, Try.ntmps14
  go_wp2_with fail
  exact bodyPost_ret (v := .tuple #[]) (by simp [results, Try.results14, go_sem]) rfl ⟨rfl, rfl⟩
set_option maxRecDepth 100000 in
theorem arm_nil (w : World) (c : Array Value) : Calls Try.prog 12 #[.pointer none, .agg c] w fun e w' => e = .returned (.tuple #[]) ∧ Below w.heap.size w w' := by
  go_enter Try.func12, Try.ntmps12
  go_wp2_with fail
  exact bodyPost_ret (v := .tuple #[]) (by simp [results, Try.results12, go_sem]) rfl ⟨rfl, (Below.refl _ _).alloc (Nat.le_refl _) _⟩
end Go.Proofs.Ytkmbgbbmhpidkaa
