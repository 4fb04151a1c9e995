/-
  Both disks side by side.
-/
import Derived.Test.YtkmbgbbmhpidkaaRf7
namespace Go.Proofs.Ytkmbgbbmhpidkaa
open Go.RowKit
set_option linter.unusedVariables false
set_option linter.unusedSimpArgs false
attribute [local go_sem ↓] Go.wp_at_zero Go.wp_at_succ

/-- The document's disk is at gx, its blocks are F's. -/
def Ref (w : World) (F : Nat → Prop) (gx : Nat) (s : Dk) : Prop :=
  s.Sound ∧ ∃ gS cS A cw K ck at_ kl rs ws, RfAt w gx gS cS A cw K ck at_ kl rs ws s ∧ ∀ g, RfBlk gx gS A K rs ws g → F g
section
variable {w w' : World} {F G : Nat → Prop} {gx : Nat} {s s' : Dk}
theorem Ref.keep (h : Ref w F gx s) (ho : Only G w w') (hFG : ∀ k, F k → ¬ G k) : Ref w' F gx s := by
  obtain ⟨hs, gS, cS, A, cw, K, ck, at_, kl, rs, ws, h, hF⟩ := h
  exact ⟨hs, gS, cS, A, cw, K, ck, at_, kl, rs, ws, h.keepAll ho.size fun g hg hlt => ho.block g hlt (hFG g (hF g hg)), hF⟩
theorem Ref.under (h : Ref w F gx s) (hb : Below w.heap.size w w') : Ref w' F gx s := by
  obtain ⟨hs, gS, cS, A, cw, K, ck, at_, kl, rs, ws, h, hF⟩ := h
  exact ⟨hs, gS, cS, A, cw, K, ck, at_, kl, rs, ws, h.under hb, hF⟩
theorem Ref.more (h : Ref w F gx s) (hFG : ∀ k, F k → G k) : Ref w G gx s := by
  obtain ⟨hs, gS, cS, A, cw, K, ck, at_, kl, rs, ws, h, hF⟩ := h
  exact ⟨hs, gS, cS, A, cw, K, ck, at_, kl, rs, ws, h, fun g hg => hFG g (hF g hg)⟩
theorem Ref.low (h : Ref w F gx s) : Ref w (fun k => F k ∧ k < w.heap.size) gx s := by
  obtain ⟨hs, gS, cS, A, cw, K, ck, at_, kl, rs, ws, h, hF⟩ := h
  exact ⟨hs, gS, cS, A, cw, K, ck, at_, kl, rs, ws, h, fun g hg => ⟨hF g hg, h.lt hg⟩⟩
theorem Ref.sound (h : Ref w F gx s) : s.Sound := h.1
theorem Ref.at_ (h : Ref w F gx s) : F gx ∧ gx < w.heap.size := by
  obtain ⟨hs, gS, cS, A, cw, K, ck, at_, kl, rs, ws, h, hF⟩ := h
  exact ⟨hF gx (.inl rfl), h.lt (.inl rfl)⟩
theorem Dk.Sound.len (h : s.Sound) : s.now.length = s.lasts.length := by rw [h, fallN_length]
theorem Ref.cells (h : Ref w F gx s) : ∃ gS cS, w.cell? ⟨gx, 0, none⟩ = some (.slice (some ⟨gS, 0, none⟩) s.now.length cS) ∧ w.cell? ⟨gx, 2, none⟩ = some (.int .i64 (s.ops : Int)) ∧ w.cell? ⟨gx, 6, none⟩ = some (.bool s.down) := by
  obtain ⟨hs, gS, cS, A, cw, K, ck, at_, kl, rs, ws, h, hF⟩ := h
  have e : s.now.length = rs.length := by rw [hs.len, ← h.eS, List.length_map]
  exact ⟨gS, cS, by rw [e]; exact h.cell 0, h.cell 2, h.cell 6⟩
theorem Ref.of {gS cS : Nat} {A : Option Addr} {cw : Nat} {K : Option Addr} {ck : Nat} {at_ : Int} {kl : List Bool} {rs : List Rw} {ws : List (Nat × Rw)} (hs : s.Sound) (h : RfAt w' gx gS cS A cw K ck at_ kl rs ws s) (hF : ∀ g, RfBlk gx gS A K rs ws g → F g ∨ w.heap.size ≤ g) : Ref w' (grow F w w') gx s :=
  ⟨hs, gS, cS, A, cw, K, ck, at_, kl, rs, ws, h, fun g hg => (hF g hg).elim .inl fun e => .inr ⟨e, h.lt hg⟩⟩
theorem ref_write (h : Ref w F gx s) (i : Int) (A2 : Option Addr) (n2 c2 : Nat) (x : List Nat) (hn : x.length = n2) (hr : Rd .u8 w w.heap.size A2 c2 x) (hA2 : 0 < n2 → ∀ g, blockOf A2 = some g → g ≠ gx) (hwl : s.waits.length ≤ 100000) (hops : s.ops ≤ 1000000000) :
    Calls Try.prog 22 #[.pointer (some ⟨gx, 0, none⟩), .int .i64 i, .slice A2 n2 c2] w fun e w' => e = .returned (.int .i64 ((s.write i x).2 : Nat)) ∧ Ref w' (grow F w w') gx (s.write i x).1 ∧ Only F w w' := by
  have hsn := h.1.write i x
  have hself : Ref w (grow F w w) gx s := h.more fun k hk => .inl hk
  obtain ⟨hs, gS, cS, A, cw, K, ck, at_, kl, rs, ws, h, hF⟩ := h
  have hlen : s.now.length = rs.length := by rw [hs.len, ← h.eS, List.length_map]
  have hlw : s.waits.length = ws.length := by rw [← h.eW, List.length_map]
  unfold Dk.write at hsn ⊢
  by_cases hdn : s.down = true
  · rw [if_pos hdn]
    refine (rwrite_down w gx gS cS A cw K ck at_ kl rs ws s h hdn _ _).mono ?_
    rintro e w' ⟨rfl, rfl⟩
    exact ⟨rfl, hself, Only.refl _ _⟩
  · rw [if_neg hdn] at hsn ⊢
    have hdn' : s.down = false := by simpa using hdn
    by_cases hf : s.fits i x
    · rw [if_pos hf] at hsn ⊢
      obtain ⟨h0, h1, h2⟩ := hf
      obtain ⟨i, rfl⟩ : ∃ k : Nat, i = (k : Int) := ⟨i.toNat, by omega⟩
      obtain rfl : n2 = 64 := by omega
      by_cases hd : s.due = true
      · rw [if_pos hd] at hsn ⊢
        refine (rwrite_due w gx gS cS A cw K ck at_ kl rs ws s F h hF hdn' hd hops hwl i (by omega) A2 c2).mono ?_
        rintro e w' ⟨rfl, ⟨rs', h', hF'⟩, ho⟩
        exact ⟨rfl, Ref.of hsn h' hF', ho⟩
      · rw [if_neg hd] at hsn ⊢
        refine (rwrite_ok w gx gS cS A cw K ck at_ kl rs ws s h hdn' (by simpa using hd) i (by omega) A2 c2 x h2 hr (by omega) hops (hA2 (by omega))).mono ?_
        rintro e w' ⟨rfl, ⟨A', cw', ws', h', hF'⟩, ho⟩
        refine ⟨rfl, Ref.of hsn (h'.to (s' := s.wrote i x) rfl rfl rfl rfl rfl rfl rfl) (fun g hg => (hF' g hg).elim (fun e => .inl (hF g e)) .inr), ho.more fun k _ e => ?_⟩
        rcases e with rfl | e
        · exact hF _ (.inl rfl)
        · exact hF k (.inr (.inr (.inl e)))
    · rw [if_neg hf]
      refine (rwrite_arg w gx gS cS A cw K ck at_ kl rs ws s h hdn' i A2 n2 c2 (fun e => hf ⟨e.1, by omega, by omega⟩)).mono ?_
      rintro e w' ⟨rfl, rfl⟩
      exact ⟨rfl, hself, Only.refl _ _⟩
theorem ref_flush (h : Ref w F gx s) (hwl : s.waits.length ≤ 100000) (hops : s.ops ≤ 1000000000) :
    Calls Try.prog 24 #[.pointer (some ⟨gx, 0, none⟩)] w fun e w' => e = .returned (.int .i64 (s.flush.2 : Nat)) ∧ Ref w' (grow F w w') gx s.flush.1 ∧ Only F w w' := by
  have hsn := h.1.flush
  have hself : Ref w (grow F w w) gx s := h.more fun k hk => .inl hk
  obtain ⟨hs, gS, cS, A, cw, K, ck, at_, kl, rs, ws, h, hF⟩ := h
  unfold Dk.flush at hsn ⊢
  by_cases hdn : s.down = true
  · rw [if_pos hdn]
    refine (rflush_down w gx gS cS A cw K ck at_ kl rs ws s h hdn).mono ?_
    rintro e w' ⟨rfl, rfl⟩
    exact ⟨rfl, hself, Only.refl _ _⟩
  · rw [if_neg hdn] at hsn ⊢
    have hdn' : s.down = false := by simpa using hdn
    by_cases hd : s.due = true
    · rw [if_pos hd] at hsn ⊢
      refine (rflush_due w gx gS cS A cw K ck at_ kl rs ws s F h hF hdn' hd hops hwl).mono ?_
      rintro e w' ⟨rfl, ⟨rs', h', hF'⟩, ho⟩
      exact ⟨rfl, Ref.of hsn h' hF', ho⟩
    · rw [if_neg hd] at hsn ⊢
      refine (rflush_ok w gx gS cS A cw K ck at_ kl rs ws s F h hF hdn' (by simpa using hd) hops hwl).mono ?_
      rintro e w' ⟨rfl, ⟨rs', h', hF'⟩, ho⟩
      exact ⟨rfl, Ref.of hsn h' hF', ho⟩
theorem ref_restart (h : Ref w F gx s) :
    Calls Try.prog 15 #[.pointer (some ⟨gx, 0, none⟩)] w fun e w' => e = .returned (.tuple #[]) ∧ Ref w' (grow F w w') gx s.restart ∧ Only F w w' := by
  have hsn := h.1.restart
  obtain ⟨hs, gS, cS, A, cw, K, ck, at_, kl, rs, ws, h, hF⟩ := h
  refine (rrestart_any w gx gS cS A cw K ck at_ kl rs ws s h).mono ?_
  rintro e w' ⟨rfl, h', ho⟩
  refine ⟨rfl, Ref.of hsn h' fun g hg => .inl (hF g ?_), ho.more fun k _ e => by subst e; exact hF _ (.inl rfl)⟩
  rcases hg with rfl | rfl | hg | hg | hg | ⟨p, hp, hg⟩
  · exact .inl rfl
  · exact .inr (.inl rfl)
  · simp [blockOf] at hg
  · exact .inr (.inr (.inr (.inl hg)))
  · exact .inr (.inr (.inr (.inr (.inl hg))))
  · cases hp
theorem ref_arm (h : Ref w F gx s) (a : Int) (K2 : Option Addr) (c2 n2 : Nat) (l : List Bool) (hn : l.length = n2) (hr : Truths w K2 c2 l) (hsz : n2 ≤ 1000) :
    Calls Try.prog 13 #[.pointer (some ⟨gx, 0, none⟩), .agg #[.int .i64 a, .slice K2 n2 c2]] w fun e w' => e = .returned (.tuple #[]) ∧ Ref w' (grow F w w') gx (s.arm a l) ∧ Only F w w' := by
  have hsn := h.1.arm a l
  obtain ⟨hs, gS, cS, A, cw, K, ck, at_, kl, rs, ws, h, hF⟩ := h
  refine (rarm_any w gx gS cS A cw K ck at_ kl rs ws s h a K2 c2 n2 l hn hr hsz).mono ?_
  rintro e w' ⟨rfl, ⟨K', ck', h', hK⟩, ho⟩
  refine ⟨rfl, Ref.of hsn h' fun g hg => ?_, ho.more fun k _ e => by subst e; exact hF _ (.inl rfl)⟩
  rcases hg with rfl | rfl | hg | hg | hg | hg
  · exact .inl (hF _ (.inl rfl))
  · exact .inl (hF _ (.inr (.inl rfl)))
  · exact .inl (hF _ (.inr (.inr (.inl hg))))
  · exact .inr (hK g hg)
  · exact .inl (hF _ (.inr (.inr (.inr (.inr (.inl hg))))))
  · exact .inl (hF _ (.inr (.inr (.inr (.inr (.inr hg))))))
theorem ref_read (h : Ref w F gx s) (hwl : s.waits.length ≤ 100000) (i : Int) (x : List Nat) (hx : s.read i = x) :
    Calls Try.prog 51 #[.pointer (some ⟨gx, 0, none⟩), .int .i64 i] w fun e w' => ∃ A' c', e = .returned (.slice A' x.length c') ∧ Rd .u8 w' w'.heap.size A' c' x ∧ Below w.heap.size w w' := by
  subst hx
  obtain ⟨hs, gS, cS, A, cw, K, ck, at_, kl, rs, ws, h, hF⟩ := h
  have hlen : s.now.length = rs.length := by rw [hs.len, ← h.eS, List.length_map]
  have hlw : s.waits.length = ws.length := by rw [← h.eW, List.length_map]
  by_cases hi : 0 ≤ i ∧ i < (rs.length : Int)
  · obtain ⟨i, rfl⟩ : ∃ k : Nat, i = (k : Int) := ⟨i.toNat, by omega⟩
    have he : s.read (i : Int) = (fallN (fun _ => true) s.waits s.lasts s.waits.length).getD i [] := by
      unfold Dk.read
      rw [if_pos hi.1, Int.toNat_natCast]
      exact congrArg (fun l : List (List Nat) => l.getD i []) hs
    have hl64 : (s.read (i : Int)).length = 64 := by
      rw [he]
      have key : ∀ k, k ≤ ws.length → ((fallN (fun _ => true) s.waits s.lasts k).getD i []).length = 64 := by
        intro k
        induction k with
        | zero => intro _; rw [fallN]; obtain ⟨_, _, _, e, l⟩ := h.row (i := i) (by omega); rw [← e]; exact l
        | succ k ih =>
          intro hk
          obtain ⟨g, _, _, _, _, e, l, _⟩ := h.wait (k := k) (by omega)
          rw [fallN, if_pos rfl, ← e]
          by_cases hp : (ws.getD k default).1 = i
          · rw [hp]
            have : i < (fallN (fun _ => true) s.waits s.lasts k).length := by rw [fallN_length, ← hs.len]; omega
            simpa [List.getD, this] using l
          · have h2 := ih (by omega)
            generalize ws.getD k default = p at *
            have e2 : ((fallN (fun _ => true) s.waits s.lasts k).set p.1 p.2.l).getD i [] = (fallN (fun _ => true) s.waits s.lasts k).getD i [] := by simp [List.getD, List.getElem?_set_ne hp]
            rw [e2]
            exact h2
      exact key _ (by omega)
    refine (rread_yes w gx gS cS A cw K ck at_ kl rs ws s h (by omega) i (by omega)).mono ?_
    rintro e w' ⟨g', c', rfl, hr, hb⟩
    exact ⟨_, c', by rw [hl64], by rw [he]; exact hr, hb⟩
  · have he : s.read i = [] := by
      unfold Dk.read
      by_cases h0 : 0 ≤ i
      · rw [if_pos h0, List.getD, List.getElem?_eq_none (by omega)]; rfl
      · rw [if_neg h0]
    refine (rread_no w gx gS cS A cw K ck at_ kl rs ws s h i hi).mono ?_
    rintro e w' ⟨rfl, hb⟩
    exact ⟨none, 0, by rw [he]; rfl, by rw [he]; exact Rd.nil_ _ _ _, hb⟩
end

/-- Both disks, each in blocks of its own from B on. -/
def Two (w : World) (B gd : Nat) (s1 : Dk) (gx : Nat) (s2 : Dk) : Prop :=
  B ≤ w.heap.size ∧ ∃ F1 F2 : Nat → Prop, Disk w F1 gd s1 ∧ Ref w F2 gx s2 ∧ (∀ k, F1 k → B ≤ k ∧ k < w.heap.size) ∧ (∀ k, F2 k → B ≤ k ∧ k < w.heap.size) ∧ ∀ k, F1 k → ¬ F2 k
section
variable {w w' : World} {B gd gx : Nat} {s1 s2 s1' s2' : Dk}
theorem Two.under (h : Two w B gd s1 gx s2) (hb : Below w.heap.size w w') : Two w' B gd s1 gx s2 := by
  obtain ⟨hB, F1, F2, d, r, l1, l2, hd⟩ := h
  exact ⟨Nat.le_trans hB hb.size, F1, F2, d.keep (Only.of_below (F := fun _ => False) hb) (fun _ _ e => e), r.under hb, fun k hk => ⟨(l1 k hk).1, Nat.lt_of_lt_of_le (l1 k hk).2 hb.size⟩, fun k hk => ⟨(l2 k hk).1, Nat.lt_of_lt_of_le (l2 k hk).2 hb.size⟩, hd⟩
theorem Two.sound (h : Two w B gd s1 gx s2) : s2.Sound := by obtain ⟨_, _, _, _, r, _⟩ := h; exact r.sound
theorem Two.pos (h : Two w B gd s1 gx s2) : B ≤ gd ∧ B ≤ gx ∧ gx < w.heap.size := by
  obtain ⟨hB, F1, F2, d, r, l1, l2, hd⟩ := h
  exact ⟨(l1 _ d.pos.1).1, (l2 _ r.at_.1).1, r.at_.2⟩
/-- The program's disk turns. -/
theorem Two.left {P : Program} {f : FuncId} {args : Array Value} {v : Value} (h : Two w B gd s1 gx s2) (hc : ∀ F1 : Nat → Prop, Disk w F1 gd s1 → Calls P f args w fun e w' => e = .returned v ∧ Disk w' (grow F1 w w') gd s1' ∧ Only F1 w w') :
    Calls P f args w fun e w' => e = .returned v ∧ Two w' B gd s1' gx s2 ∧ Below B w w' := by
  obtain ⟨hB, F1, F2, d, r, l1, l2, hd⟩ := h
  refine (hc F1 d).mono ?_
  rintro e w' ⟨rfl, d', ho⟩
  refine ⟨rfl, ⟨Nat.le_trans hB ho.size, _, F2, d', r.keep ho fun k a b => hd k b a, fun k hk => ?_, fun k hk => ⟨(l2 k hk).1, Nat.lt_of_lt_of_le (l2 k hk).2 ho.size⟩, fun k hk hk2 => ?_⟩, ho.below (fun k hk => (l1 k hk).1) hB⟩
  · rcases hk with hk | hk
    · exact ⟨(l1 k hk).1, Nat.lt_of_lt_of_le (l1 k hk).2 ho.size⟩
    · exact ⟨Nat.le_trans hB hk.1, hk.2⟩
  · rcases hk with hk | hk
    · exact hd k hk hk2
    · have := (l2 k hk2).2; omega
/-- The document's disk turns. -/
theorem Two.right {P : Program} {f : FuncId} {args : Array Value} {v : Value} (h : Two w B gd s1 gx s2) (hc : ∀ F2 : Nat → Prop, Ref w F2 gx s2 → Calls P f args w fun e w' => e = .returned v ∧ Ref w' (grow F2 w w') gx s2' ∧ Only F2 w w') :
    Calls P f args w fun e w' => e = .returned v ∧ Two w' B gd s1 gx s2' ∧ Below B w w' := by
  obtain ⟨hB, F1, F2, d, r, l1, l2, hd⟩ := h
  refine (hc F2 r).mono ?_
  rintro e w' ⟨rfl, r', ho⟩
  refine ⟨rfl, ⟨Nat.le_trans hB ho.size, F1, _, d.keep ho fun k a b => hd k a b, r', fun k hk => ⟨(l1 k hk).1, Nat.lt_of_lt_of_le (l1 k hk).2 ho.size⟩, fun k hk => ?_, fun k hk hk2 => ?_⟩, ho.below (fun k hk => (l2 k hk).1) hB⟩
  · rcases hk with hk | hk
    · exact ⟨(l2 k hk).1, Nat.lt_of_lt_of_le (l2 k hk).2 ho.size⟩
    · exact ⟨Nat.le_trans hB hk.1, hk.2⟩
  · rcases hk2 with hk2 | hk2
    · exact hd k hk hk2
    · have := (l1 k hk).2; omega
end
end Go.Proofs.Ytkmbgbbmhpidkaa
