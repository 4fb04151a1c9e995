/-
  What is said under an ID, as a thing. What is said under an ID: a few of what IDs of things are. The law of uses: ExtUses.
-/
import Derived.Test.YtbkjjhpnjfdlbaaGreatDoorExM
import Derived.Test.YtbkjjhpnjfdlbaaGreatDoorRd
import Derived.OwnWalk
namespace Go.Proofs.YtbkjjhpnjfdlbaaGreatDoor
open Go.RowKit
set_option linter.unusedVariables false
set_option linter.unusedSimpArgs false
attribute [local go_sem ↓] Go.wp_at_zero Go.wp_at_succ

theorem str_sizeU (b : List Nat) : (str b).size = b.length := by simp [str, ByteArray.size]
theorem conv_bytesU (b : List Nat) (ho : Oct8 b) (hl : b.length ≤ 100000) : ∃ (cap : World → Nat) (o : World → Obj), (∀ W, (convert 9 22 (.string (str b))).run Tryz.prog W = .ok (.slice (some ⟨W.heap.size, 0, none⟩) b.length (cap W)) (W.drew.alloc (o W))) ∧
    ∀ W, Rd .u8 (W.drew.alloc (o W)) (W.heap.size + 1) (some ⟨W.heap.size, 0, none⟩) (cap W) b := by
  refine ⟨_, _, fun W => by rw [← str_sizeU b]; exact run_bytes_of_string (P := Tryz.prog) W 9 22 5 (str b) Tryz.underlying9 Tryz.underlying22 Tryz.underlying5, fun W => ?_⟩
  have hg := grownCap_ge W (str b).size 0 5
  have hm := grownCap_le_maxLen W (str b).size 0 5 (by rw [str_sizeU]; simp [maxLen]; omega)
  rw [str_sizeU] at hg hm ⊢
  refine ⟨hg, by unfold maxLen at hm; exact hm, fun h0 => ⟨W.heap.size, 0, rfl, by omega, fun j hj => ?_⟩⟩
  rw [Nat.zero_add, cell_of_row (W.drew.alloc _) W.heap.size j _ 5 _ (heap_alloc_new W.drew _)]
  rw [bytesRow_at (str b) _ j (by simpa [str] using hj)]
  have hx := ho b[j] (List.getElem_mem hj)
  simp [str, List.getD, hj, Nat.mod_eq_of_lt hx]
/-- What is said under an ID. -/
def saidOf (l : List EV) (id : List Nat) : Option (Except Nat Tr) := (firstX l id).map fun e => readT e.val
def ValuePost (w : World) : Option (Except Nat Tr) → Ending → World → Prop
  | none, e, w' => e = .returned (.tuple #[.agg #[.int .u8 0, .slice none 0 0, .slice none 0 0], .bool false, .bool true]) ∧ Below w.heap.size w w'
  | some (.error _), e, w' => e = .returned (.tuple #[.agg #[.int .u8 0, .slice none 0 0, .slice none 0 0], .bool false, .bool false]) ∧ Below w.heap.size w w'
  | some (.ok T), e, w' => ∃ lt, e = .returned (.tuple #[lt.val, .bool true, .bool true]) ∧ lt.t = T ∧ Off [] (ThP lt) w' ∧ Below w.heap.size w w'
theorem readT_err {L : List Nat} {y : Nat} (h : readT L = .error y) : y ≠ 0 := by
  unfold readT at h
  split at h
  · injection h with h; omega
  · rcases h6 : rd L 1 0 with y2 | ⟨t, m, c2⟩
    · rw [h6] at h
      have := (rd_err (L.length + 1)).1 _ _ _ _ (Nat.lt_succ_self _) h6
      injection h with h; omega
    · rw [h6] at h
      dsimp only at h
      split at h
      · injection h with h; omega
      · cases h
set_option maxRecDepth 100000 in
set_option maxHeartbeats 8000000 in
theorem value_any (w : World) (A : Option Addr) (c n : Nat) (l : List Ex) (b : List Nat) (h : XP A c l w) (hn : l.length = n) (hb : ∀ x ∈ b, x < 256) (hbl : b.length ≤ 1000) (hsz : ∀ x ∈ l, x.id.length ≤ 12000 ∧ x.val.length ≤ 12000) :
    Calls Tryz.prog 25 #[.slice A n c, .string (str b)] w (ValuePost w (saidOf (l.map Ex.v) b)) := by
  obtain ⟨sv, HSV⟩ : ∃ sv, Hid (sv = saidOf (l.map Ex.v) b) := ⟨_, rfl⟩
  rw [← HSV.out]
  obtain ⟨cap, ob, k1, k2⟩ := conv_bytesU b hb (by omega)
  obtain ⟨V, hV⟩ : ∃ V, V = w.alloc (.cells #[.int .u8 0, .slice none 0 0, .slice none 0 0] 31) := ⟨_, rfl⟩
  have hz : Holds V w.heap.size 31 #[.int .u8 0, .slice none 0 0, .slice none 0 0] := by rw [hV]; exact Holds.fresh _ _ _
  have HB0 : Hid (Below w.heap.size w V) := Lib.hid (by rw [hV]; exact (Below.refl _ _).alloc (Nat.le_refl _) _)
  have hc := k1 V
  have hbW : Below V.heap.size V (V.drew.alloc (ob V)) := (Below.refl _ _).drew.alloc (Nat.le_refl _) _
  have hrW := k2 V
  obtain ⟨W, hW⟩ : ∃ W, W = V.drew.alloc (ob V) := ⟨_, rfl⟩
  rw [← hW] at hc hbW hrW
  obtain ⟨sc, hsc⟩ : ∃ s, s = cap V := ⟨_, rfl⟩
  rw [← hsc] at hc hrW
  have hWs : V.heap.size + 1 = W.heap.size := by rw [hW, show (V.drew.alloc (ob V)).heap.size = V.drew.heap.size + 1 by simp]; rfl
  have HBW := Lib.hid (HB0.out.trans (hbW.mono HB0.out.size))
  have HZW := Lib.hid (hz.under hbW hz.lt)
  obtain ⟨o, HO⟩ : ∃ o, Hid (o = firstX (l.map Ex.v) b) := ⟨_, rfl⟩
  have HSO : Hid (sv = o.map fun e => readT e.val) := Lib.hid (by rw [HSV.out, HO.out]; rfl)
  have hfi := find_any W A (some ⟨V.heap.size, 0, none⟩) c n sc b.length l b ((Off.of_x h).under HBW.out).at_ hn (by rw [← hWs]; exact hrW) rfl hb hsz
  rw [← HO.out] at hfi
  have HFI := Lib.hid hfi
  have hlt : w.heap.size < W.heap.size := HZW.out.lt
  rw [hV] at hc
  have hVs : V.heap.size = w.heap.size + 1 := by rw [hV]; simp
  rw [hVs] at HFI
  have HW := Lib.hid hW
  simp only [World.size_alloc] at hc
  clear h hn hsz hz hbW hrW k1 k2 hfi hV hW hsc hWs hVs
  generalize hbn : b.length = bn at *
  generalize str b = s at *
  clear hb hbl hbn
  go_enter Tryz.func25, Tryz.ntmps25
  go_wp2_with fail
  refine HFI.out.mono ?_
  rintro e w2 hp
  obtain ⟨ex, xa, xn, xc, xb, ya, yn, yc, f1, v1, rfl, o1, hb2⟩ := FindPost.three hp
  have HB2 := Lib.hid (HBW.out.trans (hb2.mono HBW.out.size))
  have HZ2 := Lib.hid (HZW.out.under hb2 hlt)
  have HLT2 : Hid (w.heap.size < w2.heap.size) := Lib.hid HZ2.out.lt
  have hq : Below w2.heap.size w2 (w2.alloc (.cells #[.slice xa xn xc, .bool xb, .slice ya yn yc] 24)) := (Below.refl _ _).alloc (Nat.le_refl _) _
  have hH3 := Holds.fresh w2 24 #[.slice xa xn xc, .bool xb, .slice ya yn yc]
  have hz3 := HZ2.out.alloc (.cells #[.slice xa xn xc, .bool xb, .slice ya yn yc] 24)
  have HB3 := Lib.hid (HB2.out.trans (hq.mono HB2.out.size))
  have HH3 := Lib.hid hH3
  have HZ3 := Lib.hid hz3
  have hex : ex.v = o.getD default := v1
  clear hlt
  have ho3 := (o1.alloc (.cells #[.slice xa xn xc, .bool xb, .slice ya yn yc] 24)).at_
  rcases o with _ | ev
  · have z0 := hz3.cell 0
    have z1 := hz3.cell 1
    have z2 := hz3.cell 2
    have y0 := hz3.open_ 0
    have y1 := hz3.open_ 1
    have y2 := hz3.open_ 2
    clear hp hb2 hq hH3 hz3 f1 v1 o1 hex ho3 hc HFI
    rw [show (none : Option EV).isSome = false from rfl]
    go_wp2_with fail
    exact ret_node3 rfl rfl rfl rfl (((HZ3.out.stored 0 _).stored 1 _).stored 2 _) rfl (by rw [HSO.out]; exact ⟨rfl, below_out HB3.out _ _ _⟩)
  · have hval : ex.val = ev.val := by have := congrArg EV.val hex; exact this
    have hf3 : xcell ex = [.slice xa xn xc, .bool xb, .slice ya yn yc] := f1
    simp only [xcell, List.cons.injEq, Value.slice.injEq, Value.bool.injEq, and_true] at hf3
    obtain ⟨⟨rfl, rfl, rfl⟩, rfl, rfl, rfl, rfl⟩ := hf3
    obtain ⟨_, _, hr4, ho4⟩ := ho3
    have hrd := readOff_any (w2.alloc (.cells #[.slice ex.ia ex.id.length ex.ic, .bool ex.cr, .slice ex.va ex.val.length ex.vc] 24)) [w.heap.size] _ ex.va ex.vc ex.val.length ex.val hr4 rfl ho4 (Nat.le_refl _) (fun x hx => by rw [List.mem_singleton.1 hx]; have := HLT2.out; simp; omega)
    have x2 := hH3.cell 2
    have HRD := Lib.hid hrd
    have HVL := Lib.hid hval
    clear hp hb2 hq hH3 hz3 f1 v1 o1 hex hr4 ho4 hc HFI hrd
    rw [show (some ev).isSome = true from rfl]
    rcases hrt : readT ev.val with y | T
    · have hr2 : readT ex.val = .error y := by rw [HVL.out]; exact hrt
      rw [hr2] at HRD
      clear hr2
      generalize ex.val.length = en at *
      have hy0 := readT_err hrt
      have beq : ((y : Int) == 0) = false := by rw [beq_eq_false_iff_ne]; omega
      have HSX : Hid (sv = some (.error y)) := Lib.hid (by rw [HSO.out, Option.map_some, hrt])
      clear hrt
      go_wp2_with fail
      refine HRD.out.mono ?_
      rintro e w4 ⟨rfl, hb4⟩
      simp only [noNode]
      have HB4 := Lib.hid (HB3.out.trans (hb4.mono HB3.out.size))
      have hz4 := HZ3.out.under hb4 HZ3.out.lt
      have HZ4 := Lib.hid hz4
      have z0 := hz4.cell 0
      have z1 := hz4.cell 1
      have z2 := hz4.cell 2
      have y0 := hz4.open_ 0
      have y1 := hz4.open_ 1
      have y2 := hz4.open_ 2
      clear hb4 hz4 x2 HRD
      go_wp2_with fail
      exact ret_node3 rfl rfl rfl rfl ((((((HZ4.out.stored 0 _).stored 1 _).stored 2 _).stored 0 _).stored 1 _).stored 2 _) rfl (by rw [HSX.out]; exact ⟨rfl, below_out (below_out HB4.out _ _ _) _ _ _⟩)
    · have hr2 : readT ex.val = .ok T := by rw [HVL.out]; exact hrt
      rw [hr2] at HRD
      clear hr2
      generalize ex.val.length = en at *
      have HSX : Hid (sv = some (.ok T)) := Lib.hid (by rw [HSO.out, Option.map_some, hrt])
      clear hrt
      go_wp2_with fail
      refine HRD.out.mono ?_
      rintro e w4 ⟨lt, rfl, hlt4, hof4, hb4⟩
      have HVAL : Hid (lt.val = .agg #[.int .u8 (lt.tag : Int), .slice lt.ba lt.body.length lt.bc, .slice lt.ka lt.kids.length lt.kc]) := Lib.hid rfl
      rw [HVAL.out]
      have HLT := Lib.hid hlt4
      have HOF := Lib.hid hof4
      have HB4 := Lib.hid (HB3.out.trans (hb4.mono HB3.out.size))
      have hz4 := HZ3.out.under hb4 HZ3.out.lt
      have HZ4 := Lib.hid hz4
      generalize lt.tag = lg at *
      generalize lt.ba = lba at *
      generalize lt.bc = lbc at *
      generalize lt.body.length = lbl at *
      generalize lt.ka = lka at *
      generalize lt.kids.length = ln at *
      generalize lt.kc = lkc at *
      have z0 := hz4.cell 0
      have z1 := hz4.cell 1
      have z2 := hz4.cell 2
      have y0 := hz4.open_ 0
      have y1 := hz4.open_ 1
      have y2 := hz4.open_ 2
      clear hb4 hz4 x2 HRD hlt4 hof4
      go_wp2_with fail
      have hm : w.heap.size ∈ [w.heap.size] := List.mem_singleton.2 rfl
      have HO6 := Lib.hid (((((((HOF.out.store (p := ⟨w.heap.size, 0, none⟩) hm (.int .u8 lg)).store (p := ⟨w.heap.size, 1, none⟩) hm (.slice lba lbl lbc)).store (p := ⟨w.heap.size, 2, none⟩) hm (.slice lka ln lkc)).store (p := ⟨w.heap.size, 0, none⟩) hm (.int .u8 lg)).store (p := ⟨w.heap.size, 1, none⟩) hm (.slice lba lbl lbc)).store (p := ⟨w.heap.size, 2, none⟩) hm (.slice lka ln lkc)).less (ys := []) (fun g hg => by simp at hg))
      exact ret_node3 rfl rfl rfl rfl ((((((HZ4.out.stored 0 _).stored 1 _).stored 2 _).stored 0 _).stored 1 _).stored 2 _) rfl (by rw [HSX.out]; exact ⟨lt, by rw [HVAL.out]; rfl, HLT.out, HO6.out, below_out (below_out HB4.out _ _ _) _ _ _⟩)
end Go.Proofs.YtbkjjhpnjfdlbaaGreatDoor
namespace Go.Proofs.YtbkjjhpnjfdlbaaGreatDoor
open Go.RowKit
set_option linter.unusedVariables false
set_option linter.unusedSimpArgs false
attribute [local go_sem ↓] Go.wp_at_zero Go.wp_at_succ

theorem info_bytes : (Tryz.prog.info? 22).map (fun i => (i.zero, i.size, i.bytes)) = some (some (.slice none 0 0), 1, 24) := by kernel_rfl
/-- Bytes, and where they lie. -/
structure Bs where
  a : Option Addr
  c : Nat
  b : List Nat
instance : Inhabited Bs := ⟨⟨none, 0, []⟩⟩
def bcell (x : Bs) : List Value := [.slice x.a x.b.length x.c]
def BsP (x : Bs) (w : World) : Prop := Rd .u8 w w.heap.size x.a x.c x.b
/-- A row of one's own of bytes. -/
structure Ids (A : Option Addr) (c n : Nat) (l : List Bs) (w : World) : Prop where
  len : l.length = n
  own : OwnV 22 1 w A c n (l.flatMap bcell)
  each : ∀ x ∈ l, Off (bl A) (BsP x) w
section
variable {A : Option Addr} {c n : Nat} {l : List Bs} {w w' : World}
theorem Ids.nil (w : World) : Ids none 0 0 [] w := ⟨rfl, OwnV.nil _ _ _, fun x hx => by cases hx⟩
theorem Ids.under (h : Ids A c n l w) (hb : Below w.heap.size w w') : Ids A c n l w' :=
  ⟨h.len, h.own.keep fun g _ hg => hb.block g hg, fun x hx => (h.each x hx).under hb⟩
theorem Ids.lt (h : Ids A c n l w) {g : Nat} (hg : blockOf A = some g) : g < w.heap.size := h.own.lt hg
theorem Ids.push {e : Bs} {g' c' : Nat} (h : Ids A c n l w) (ht : Off (bl A) (BsP e) w) (ho : OwnV 22 1 w' (some ⟨g', 0, none⟩) c' (n + 1) (l.flatMap bcell ++ [.slice e.a e.b.length e.c])) (hg : w.grownBy w' (blockOf A))
    (ha : blockOf A = some g' ∨ g' = w.heap.size) : Ids (some ⟨g', 0, none⟩) c' (n + 1) (l ++ [e]) w' := by
  have hy : ∀ g, g ∈ bl (some ⟨g', 0, none⟩) → g ∈ bl A ∨ w.heap.size ≤ g := fun g hg => by
    have e := mem_bl.1 hg
    have e : g' = g := by simpa [blockOf] using e
    subst e
    rcases ha with h2 | h2
    · exact .inl (mem_bl.2 h2)
    · exact .inr (by omega)
  have hA : ∀ g, blockOf A = some g → g ∈ bl A := fun g e => mem_bl.2 e
  refine ⟨by simp [h.len], by rw [List.flatMap_append]; simpa [bcell] using ho, fun x hx2 => ?_⟩
  rcases List.mem_append.1 hx2 with h1 | h1
  · exact (h.each x h1).push hg hA hy
  · rw [List.mem_singleton.1 h1]; exact ht.push hg hA hy
theorem Ids.at_ (h : Ids A c n l w) {j : Nat} (hj : j < n) : ∃ g, A = some ⟨g, 0, none⟩ ∧ g < w.heap.size ∧ w.cell? ⟨g, j, none⟩ = some (.slice (l.getD j default).a (l.getD j default).b.length (l.getD j default).c) := by
  have hj' : j < l.length := by rw [h.len]; exact hj
  have e : l[j]? = some (l.getD j default) := by simp [List.getD, hj']
  have f := flat_at (f := bcell) (m := 1) (L := l) (fun _ _ => rfl) e (j := 0) (by omega)
  obtain ⟨g, hA, hlt, hc, _⟩ := h.own.at_ (j := 1 * j + 0) (v := .slice (l.getD j default).a (l.getD j default).b.length (l.getD j default).c) (by rw [f]; rfl)
  exact ⟨g, hA, hlt, by simpa using hc⟩
end
theorem one1b {a : Option Addr} {n c : Nat} : ∀ u ∈ [Value.slice a n c], u.oneCell' = true := by
  intro u hu
  rw [List.mem_singleton.1 hu]; rfl
/-- A thing's ID; the IDs that a thing lists. -/
def idT (k : Tr) : Option (List Nat) := if (heldOk k.tag k.kids.length 6 && idOk k.body) = true then some k.body else none
theorem idT_lt (t : Lt) : idT t.t = if (heldOk t.tag t.kids.length 6 && idOk t.body) = true then some t.body else none := by
  obtain ⟨h1, h2, h3⟩ := t_parts t
  unfold idT
  rw [h1, h2, h3, List.length_map]
def usesT (T : Tr) : Option (List (List Nat)) :=
  if seqOk T.tag T.body.length 48 = true ∧ 1 ≤ T.kids.length ∧ T.kids.length ≤ 8 ∧ ∀ k ∈ T.kids, (idT k).isSome = true then some (T.kids.map Tr.body) else none
theorem usesT_seq {T : Tr} (h : seqOk T.tag T.body.length 48 = false) : usesT T = none := if_neg fun h2 => by rw [h] at h2; exact absurd h2.1 (by decide)
theorem usesT_few {T : Tr} (h : T.kids.length < 1) : usesT T = none := if_neg fun h2 => by omega
theorem usesT_many {T : Tr} (h : 8 < T.kids.length) : usesT T = none := if_neg fun h2 => by omega
theorem usesT_no {T : Tr} {k : Tr} (hk : k ∈ T.kids) (h : idT k = none) : usesT T = none := if_neg fun h2 => by have := h2.2.2.2 k hk; rw [h] at this; cases this
theorem idT_body {k : Tr} {b : List Nat} (h : idT k = some b) : b = k.body := by
  unfold idT at h
  split at h
  · injection h with h; exact h.symm
  · cases h
theorem usesT_yes {T : Tr} {L : List (List Nat)} (h : seqOk T.tag T.body.length 48 = true) (h1 : 1 ≤ T.kids.length) (h8 : T.kids.length ≤ 8) (hl : L.length = T.kids.length) (ho : ∀ j, j < T.kids.length → idT (T.kids.getD j default) = some (L.getD j [])) : usesT T = some L := by
  have e : T.kids.map Tr.body = L := by
    refine List.ext_getElem (by simp [hl]) fun j h2 h3 => ?_
    have hj : j < T.kids.length := by simpa using h2
    have := idT_body (ho j hj)
    simp [List.getD, hj, h3] at this
    simp [this]
  have hall : ∀ k ∈ T.kids, (idT k).isSome = true := fun k hk => by
    obtain ⟨j, hj, rfl⟩ := List.getElem_of_mem hk
    have := ho j hj
    rw [show T.kids.getD j default = T.kids[j] by simp [List.getD, hj]] at this
    rw [this]; rfl
  unfold usesT
  rw [if_pos ⟨h, h1, h8, hall⟩, e]
def ListedPost (w : World) : Option (Except Nat Tr) → Ending → World → Prop
  | none, e, w' => e = .returned (.tuple #[.slice none 0 0, .bool false, .bool true]) ∧ Below w.heap.size w w'
  | some (.error _), e, w' => e = .returned (.tuple #[.slice none 0 0, .bool false, .bool false]) ∧ Below w.heap.size w w'
  | some (.ok T), e, w' => (usesT T = none ∧ e = .returned (.tuple #[.slice none 0 0, .bool false, .bool false]) ∧ Below w.heap.size w w') ∨
      ∃ A c l, e = .returned (.tuple #[.slice A l.length c, .bool true, .bool true]) ∧ Ids A c l.length l w' ∧ usesT T = some (l.map Bs.b) ∧ Below w.heap.size w w'
theorem listed_no {w w' : World} {T : Tr} (h : usesT T = none) (hb : Below w.heap.size w w') : ListedPost w (some (.ok T)) (.returned (.tuple #[.slice none 0 0, .bool false, .bool false])) w' := .inl ⟨h, rfl, hb⟩
set_option maxRecDepth 100000 in
set_option maxHeartbeats 16000000 in
theorem listed_any (w : World) (X : Value) (s : ByteArray) (sv : Option (Except Nat Tr)) (h : Calls Tryz.prog 25 #[X, .string s] w (ValuePost w sv)) (hsv : ∀ T, sv = some (.ok T) → T.kids.length ≤ 100000) :
    Calls Tryz.prog 28 #[X, .string s, .func (.func 29) #[] #[]] w (ListedPost w sv) := by
  go_enter Tryz.func28, Tryz.ntmps28
  go_wp2_with fail
  refine h.mono ?_
  clear h
  rcases sv with _ | y | T
  · rintro e w2 ⟨rfl, hb2⟩
    have HB3 : Hid (Below w.heap.size w (w2.alloc (.cells #[.int .u8 0, .slice none 0 0, .slice none 0 0] 31))) := Lib.hid (hb2.alloc hb2.size _)
    clear hb2
    go_wp2_with fail
    go_ret3
    exact ⟨rfl, HB3.out⟩
  · rintro e w2 ⟨rfl, hb2⟩
    have HB3 : Hid (Below w.heap.size w (w2.alloc (.cells #[.int .u8 0, .slice none 0 0, .slice none 0 0] 31))) := Lib.hid (hb2.alloc hb2.size _)
    clear hb2
    go_wp2_with fail
    go_ret3
    exact ⟨rfl, HB3.out⟩
  rintro e w2 ⟨t, rfl, hT, hth, hb2⟩
  have hkT : T.kids.length ≤ 100000 := hsv T rfl
  have HVAL : Hid (t.val = .agg #[.int .u8 (t.tag : Int), .slice t.ba t.body.length t.bc, .slice t.ka t.kids.length t.kc]) := Lib.hid rfl
  have hko : Off [] (KiP t.ka t.kc t.kids) w2 := by
    obtain ⟨tag, ba, bc, body, ka, kc, kids⟩ := t
    exact kids_off hth
  have HTK : Hid (T.kids = t.kids.map Lt.t ∧ seqOk T.tag T.body.length 48 = seqOk t.tag t.body.length 48) := Lib.hid (by rw [← hT, (t_parts t).1, (t_parts t).2.1, (t_parts t).2.2]; exact ⟨rfl, rfl⟩)
  have hkl : t.kids.length ≤ 100000 := by rw [HTK.out.1, List.length_map] at hkT; exact hkT
  rw [HVAL.out]
  obtain ⟨ks, hks⟩ : ∃ ks, ks = t.kids := ⟨_, rfl⟩
  rw [← hks] at hko hkl HTK HVAL ⊢
  clear hth hT hks hsv hkT
  generalize t.tag = tag at *
  generalize t.ba = ba at *
  generalize t.bc = bc at *
  generalize t.body.length = n at *
  generalize t.ka = ka at *
  generalize t.kc = kc at *
  obtain ⟨kn, hkn⟩ : ∃ k, k = ks.length := ⟨_, rfl⟩
  have HKN := Lib.hid hkn
  have HTL : Hid (T.kids.length = kn) := Lib.hid (by rw [HTK.out.1, List.length_map, hkn])
  rw [← hkn] at hkl HVAL ⊢
  have hH1 := Holds.fresh w2 31 #[.int .u8 (tag : Int), .slice ba n bc, .slice ka kn kc]
  have hq1 : Below w2.heap.size w2 (w2.alloc (.cells #[.int .u8 (tag : Int), .slice ba n bc, .slice ka kn kc] 31)) := (Below.refl _ _).alloc (Nat.le_refl _) _
  have HB1 : Hid (Below w.heap.size w (w2.alloc (.cells #[.int .u8 (tag : Int), .slice ba n bc, .slice ka kn kc] 31))) := Lib.hid (hb2.trans (hq1.mono hb2.size))
  have hk1 := hko.alloc (.cells #[.int .u8 (tag : Int), .slice ba n bc, .slice ka kn kc] 31)
  have HGS := Lib.hid (getSeq_any _ [] tag n bc kn kc 48 ba ka ks hk1 hkn.symm (by omega) hkl (by simp))
  have c0 := hH1.cell 0
  have c1 := hH1.cell 1
  have c2 := hH1.cell 2
  clear hko hkn hH1 hk1 hb2 hq1
  rcases hsq : seqOk tag n 48 with _ | _
  case false =>
    have HNO : Hid (usesT T = none) := Lib.hid (usesT_seq (by rw [HTK.out.2, hsq]))
    rw [hsq] at HGS
    go_wp2_with fail
    refine HGS.out.mono ?_
    rintro e w3 ⟨rfl, hb3⟩
    have HB3 := Lib.hid (HB1.out.trans (hb3.mono HB1.out.size))
    clear hb3 HGS
    go_wp2_with fail
    go_ret3
    exact listed_no HNO.out HB3.out
  rw [hsq] at HGS
  have HSQ := Lib.hid hsq
  clear hsq
  by_cases h0 : kn < 1
  case pos =>
    have HNO : Hid (usesT T = none) := Lib.hid (usesT_few (by rw [HTL.out]; exact h0))
    have d1 : decide ((kn : Int) < (1 : Int)) = true := decide_eq_true (by omega)
    go_wp2_with fail
    refine HGS.out.mono ?_
    rintro e w3 ⟨A3, c3, rfl, hk3, hb3⟩
    rw [← HKN.out]
    have HB3 := Lib.hid (HB1.out.trans (hb3.mono HB1.out.size))
    clear hb3 HGS hk3
    go_wp2_with fail
    go_ret3
    exact listed_no HNO.out HB3.out
  have d1 : decide ((kn : Int) < (1 : Int)) = false := decide_eq_false (by omega)
  by_cases h8 : 8 < kn
  case pos =>
    have HNO : Hid (usesT T = none) := Lib.hid (usesT_many (by rw [HTL.out]; exact h8))
    have d8 : decide ((8 : Int) < (kn : Int)) = true := decide_eq_true (by omega)
    go_wp2_with fail
    refine HGS.out.mono ?_
    rintro e w3 ⟨A3, c3, rfl, hk3, hb3⟩
    rw [← HKN.out]
    have HB3 := Lib.hid (HB1.out.trans (hb3.mono HB1.out.size))
    clear hb3 HGS hk3
    go_wp2_with fail
    go_ret3
    exact listed_no HNO.out HB3.out
  have d8 : decide ((8 : Int) < (kn : Int)) = false := decide_eq_false (by omega)
  go_wp2_with fail
  refine HGS.out.mono ?_
  rintro e w3 ⟨A3, c3, rfl, hk3, hb3⟩
  rw [← HKN.out]
  have HB3 := Lib.hid (HB1.out.trans (hb3.mono HB1.out.size))
  have HK3 := Lib.hid hk3
  have hmc : kn ≤ c3 := by rw [HKN.out]; exact hk3.at_.1.1
  have hc63 := hk3.at_.1.2.1
  clear hb3 HGS hk3 c0 c1 c2
  go_wp2_with fail
  go_loopw [6, 44] (fun lv iv wr => ∃ (i : Nat) (A : Option Addr) (c : Nat) (l : List Bs), i ≤ kn ∧ iv = .int .i64 (i : Int) ∧ lv = .slice A i c ∧ Ids A c i l wr ∧ Hid (∀ j, j < i → idT (ks.getD j default).t = some (l.getD j default).b) ∧ Hid (∀ g, blockOf A = some g → w3.heap.size ≤ g) ∧ Below w3.heap.size w3 wr) (fun _ iv _ => kn - (intOf iv).toNat)
  case atStart => exact ⟨0, none, 0, [], by omega, rfl, rfl, Ids.nil _, Lib.hid (fun j hj => by omega), Lib.hid (fun g hg => by simp [blockOf] at hg), Below.refl _ _⟩
  case round =>
    obtain ⟨i, A, c, l, hi, rfl, rfl, hE, HA, HG, hB⟩ := hrel
    have HB := Lib.hid hB
    have HE := Lib.hid hE
    clear hB hE d1 d8
    by_cases hlt : i < kn
    · have hk4 := HK3.out.under HB.out
      obtain ⟨g, off, rfl, hg, hcs⟩ := hk4.at_.1.2.2 (by rw [← HKN.out]; omega)
      obtain ⟨q0, q1, q2⟩ := hcs i (by rw [← HKN.out]; exact hlt)
      have hti := off_nodes hk4 (j := i) (by rw [← HKN.out]; exact hlt)
      have HMEM : Hid ((ks.getD i default).t ∈ T.kids) := Lib.hid (by
        rw [HTK.out.1]
        exact List.mem_map_of_mem (getD_mem (by rw [← HKN.out]; exact hlt)))
      obtain ⟨q, hq⟩ : ∃ q, q = ks.getD i default := ⟨_, rfl⟩
      rw [← hq] at q0 q1 q2 hti HMEM
      have HQ := Lib.hid hq
      clear hq hcs hk4
      have hq1 : Below wr.heap.size wr (wr.alloc (.cells #[.int .u8 (q.tag : Int), .slice q.ba q.body.length q.bc, .slice q.ka q.kids.length q.kc] 31)) := (Below.refl _ _).alloc (Nat.le_refl _) _
      have hHq := Holds.fresh wr 31 #[.int .u8 (q.tag : Int), .slice q.ba q.body.length q.bc, .slice q.ka q.kids.length q.kc]
      have z0 := hHq.cell 0
      have z1 := hHq.cell 1
      have z2 := hHq.cell 2
      have hp := ((hti.under hq1).at_)
      have hp2 : Rd .u8 (wr.alloc (.cells #[.int .u8 (q.tag : Int), .slice q.ba q.body.length q.bc, .slice q.ka q.kids.length q.kc] 31)) (wr.alloc (.cells #[.int .u8 (q.tag : Int), .slice q.ba q.body.length q.bc, .slice q.ka q.kids.length q.kc] 31)).heap.size q.ba q.bc q.body ∧ ∀ y ∈ q.body, y < 256 := by
        obtain ⟨tag, ba, bc, body, ka, kc, kids⟩ := q
        exact ⟨(ThP.iff.1 hp).2.1, (ThP.iff.1 hp).2.2.1⟩
      have hgi := getID_any _ q.tag q.body.length q.bc q.kids.length q.kc _ q.ba q.ka q.body hp2.1 rfl (Nat.le_refl _) hp2.2
      rw [← idT_lt] at hgi
      have HGI := Lib.hid hgi
      have HQ1 := Lib.hid hq1
      clear hq1 hHq hti hp hp2 hgi
      generalize q.tag = qt at *
      generalize q.ba = qa at *
      generalize q.bc = qc at *
      generalize q.body.length = qn at *
      generalize q.ka = qk at *
      generalize q.kids.length = qm at *
      generalize q.kc = qd at *
      rcases hot : idT q.t with _ | b
      · have HNO : Hid (usesT T = none) := Lib.hid (usesT_no HMEM.out hot)
        rw [hot] at HGI
        clear hot
        go_wp2_with fail
        refine HGI.out.mono ?_
        rintro e w5 ⟨rfl, hb5⟩
        have HB5 := Lib.hid (HB3.out.trans ((HB.out.trans ((HQ1.out.trans (hb5.mono HQ1.out.size)).mono HB.out.size)).mono HB3.out.size))
        clear hb5 z0 z1 z2 q0 q1 q2 HGI
        go_wp2_with fail
        go_ret3
        exact listed_no HNO.out HB5.out
      · have HEV := Lib.hid hot
        rw [hot] at HGI
        clear hot
        go_wp2_with fail
        refine HGI.out.mono ?_
        rintro e w5 ⟨A5, c5, rfl, hm5, hb5⟩
        have hb15 := HQ1.out.trans (hb5.mono HQ1.out.size)
        obtain ⟨bn, hbn⟩ : ∃ k, k = b.length := ⟨_, rfl⟩
        have HBN := Lib.hid hbn
        rw [← hbn]
        have hq6 : Below w5.heap.size w5 (w5.alloc (.cells #[.slice A5 bn c5] 22)) := (Below.refl _ _).alloc (Nat.le_refl _) _
        have hb17 := hb15.trans (hq6.mono hb15.size)
        have HB7 := Lib.hid (HB.out.trans (hb17.mono HB.out.size))
        have HE7 := Lib.hid (HE.out.under hb17)
        have ho5 : Off (bl A) (BsP ⟨A5, c5, b⟩) w5 := Off.of_mine hm5 (fun g hg hx => by
          have h1 := (hm5.block hg).1
          have h2 := HE.out.lt (mem_bl.1 hx)
          have h3 := HQ1.out.size
          omega)
        have HO7 : Hid (Off (bl A) (BsP ⟨A5, c5, b⟩) (w5.alloc (.cells #[.slice A5 bn c5] 22))) := Lib.hid (ho5.alloc _)
        have HFX : Hid (Holds (w5.alloc (.cells #[.slice A5 bn c5] 22)) w5.heap.size 22 [.slice A5 bn c5].toArray) := Lib.hid (Holds.fresh _ _ _)
        have HOW := Lib.hid HE7.out.own
        clear hb5 hb15 hq6 hb17 hm5 ho5 hbn z0 z1 z2 q0 q1 q2 HGI
        go_wp2_with (first | (at_builtin; refine wpList_pushV _ rfl (.tmp 56) (.tmp 58) 56 rfl 22 _ 1 24 Tryz.underlying56 info_bytes rfl (by omega) (by omega) rfl HOW.out (cs := [.slice A5 bn c5]) rfl rfl one1b HFX.out (by omega) ?_; intro g9 c9 W9 ho9 hg9 hat9 hlt9))
        have HE9 := Lib.hid (HE7.out.push HO7.out (by rw [← HBN.out]; exact ho9) hg9 hat9)
        have HB9 := Lib.hid (below_own HB7.out hg9 HG.out (Nat.le_refl _))
        have HG9 : Hid (∀ g, blockOf (some (⟨g9, 0, none⟩ : Addr)) = some g → w3.heap.size ≤ g) := Lib.hid fun g hg => by
          rcases hat9 with h | h
          · exact HG.out g (h.trans (by simpa [blockOf] using hg))
          · have e : g9 = g := by simpa [blockOf] using hg
            have := HB7.out.size
            omega
        have HA9 : Hid (∀ j, j < i + 1 → idT (ks.getD j default).t = some ((l ++ [(⟨A5, c5, b⟩ : Bs)]).getD j default).b) := Lib.hid fun j hj => by
          have hl := HE.out.len
          rcases Nat.lt_or_ge j i with h3 | h3
          · rw [HA.out j h3]
            simp [List.getD, List.getElem?_append_left (show j < l.length by omega)]
          · obtain rfl : j = i := by omega
            rw [← HQ.out, HEV.out]
            simp [List.getD, hl]
        clear ho9 hg9 hat9 HOW HFX HE7
        go_wp2_with fail
        go_roundw
        case rel => exact ⟨i + 1, _, _, _, by omega, by go_num, rfl, HE9.out, HA9, HG9, HB9.out⟩
        case measure => simp [intOf]; omega
    · obtain rfl : i = kn := by omega
      have HLL : Hid (l.length = i) := Lib.hid HE.out.len
      have HUT : Hid (usesT T = some (l.map Bs.b)) := Lib.hid (usesT_yes (by rw [HTK.out.2, HSQ.out]) (by rw [HTL.out]; omega) (by rw [HTL.out]; omega) (by rw [List.length_map, HLL.out, HTL.out]) fun j hj => by
        rw [HTL.out] at hj
        rw [HTK.out.1, Lt.ts_at (by rw [← HKN.out]; exact hj), HA.out j hj]
        have hjl : j < l.length := by rw [HLL.out]; exact hj
        simp [List.getD, hjl])
      have HBW := Lib.hid (HB3.out.trans (HB.out.mono HB3.out.size))
      go_wp2_with fail
      go_ret3
      exact .inr ⟨A, c, l, by rw [HLL.out]; rfl, by rw [HLL.out]; exact HE.out, HUT.out, HBW.out⟩
set_option maxRecDepth 100000 in
theorem uses_any (w : World) (A : Option Addr) (c n : Nat) (l : List Ex) (h : XP A c l w) (hn : l.length = n) (hsz : ∀ x ∈ l, x.id.length ≤ 12000 ∧ x.val.length ≤ 12000) (hsv : ∀ T, saidOf (l.map Ex.v) [85, 29, 37] = some (.ok T) → T.kids.length ≤ 100000) :
    Calls Tryz.prog 17 #[.slice A n c] w (ListedPost w (saidOf (l.map Ex.v) [85, 29, 37])) := by
  have hv := value_any w A c n l [85, 29, 37] h hn (by simp) (by simp) hsz
  rw [show str [85, 29, 37] = ⟨#[85, 29, 37]⟩ from rfl] at hv
  have HL := Lib.hid (listed_any w _ _ _ hv hsv)
  clear hv
  generalize saidOf (l.map Ex.v) [85, 29, 37] = sv at *
  go_enter Tryz.func17, Tryz.ntmps17
  go_wp2_with fail
  refine HL.out.mono ?_
  rintro e w2 hp
  rcases sv with _ | y | T
  · obtain ⟨rfl, hb⟩ := hp
    have HB := Lib.hid hb
    clear hb
    go_wp2_with fail
    go_ret3
    exact ⟨rfl, HB.out⟩
  · obtain ⟨rfl, hb⟩ := hp
    have HB := Lib.hid hb
    clear hb
    go_wp2_with fail
    go_ret3
    exact ⟨rfl, HB.out⟩
  · obtain ⟨hu, rfl, hb⟩ | ⟨A2, c2, l2, rfl, hi, hu, hb⟩ := hp
    · have HB := Lib.hid hb
      clear hb
      go_wp2_with fail
      go_ret3
      exact .inl ⟨hu, rfl, HB.out⟩
    · have HB := Lib.hid hb
      have HI := Lib.hid hi
      clear hb hi
      go_wp2_with fail
      go_ret3
      exact .inr ⟨A2, c2, l2, rfl, HI.out, hu, HB.out⟩
end Go.Proofs.YtbkjjhpnjfdlbaaGreatDoor
namespace Go.Proofs.YtbkjjhpnjfdlbaaGreatDoor
open Go.RowKit
set_option linter.unusedVariables false
set_option linter.unusedSimpArgs false
attribute [local go_sem ↓] Go.wp_at_zero Go.wp_at_succ

def useT (x j : Nat) : Tr := .mk 6 [43, j + 1, x] []
def usesTr (x n : Nat) : Tr := .mk 48 [] ((List.range n).map (useT x))
theorem counts_uses (x : Nat) : ∀ n, Tr.counts ((List.range n).map (useT x)) = n
  | 0 => rfl
  | n + 1 => by
    rw [List.range_succ, List.map_append, Tr.counts_append, counts_uses x n]
    rfl
theorem encs_uses (x : Nat) : ∀ n, (Tr.encs ((List.range n).map (useT x))).length = 5 * n
  | 0 => rfl
  | n + 1 => by
    rw [List.range_succ, List.map_append, Tr.encs_append, List.length_append, encs_uses x n]
    show 5 * n + 5 = 5 * (n + 1)
    omega
theorem enc_uses_len (x n : Nat) (h : n ≤ 12) : (usesTr x n).enc.length ≤ 100 := by
  have h1 := encs_uses x n
  have h2 := lenB_len (0 + (Tr.encs ((List.range n).map (useT x))).length)
  show (48 :: (lenB (0 + (Tr.encs ((List.range n).map (useT x))).length) ++ ([] ++ Tr.encs ((List.range n).map (useT x))))).length ≤ 100
  simp only [List.length_cons, List.length_append, List.length_nil]
  omega
theorem count_uses (x n : Nat) : (usesTr x n).count = 1 + n := by
  show 1 + Tr.counts ((List.range n).map (useT x)) = 1 + n
  rw [counts_uses]
theorem isT_uses (x n : Nat) (h : n ≤ 12) : isT (usesTr x n) = true := by
  have h1 : (usesTr x n).sound 1 = true := by
    have hp : parted 48 = true := rfl
    have ht : tagOk 48 = true := rfl
    have hs : Tr.sounds ((List.range n).map (useT x)) 2 = true := Tr.sounds_iff.2 fun j hj => by
      rw [List.length_map, List.length_range] at hj
      rw [show ((List.range n).map (useT x)).getD j default = useT x j by simp [List.getD, hj]]
      rfl
    show (ok1 48 0 ((List.range n).map (useT x)).length && decide (1 ≤ 12) && Tr.sounds ((List.range n).map (useT x)) 2) = true
    rw [hs]
    simp [ok1, hp, ht]
  have h2 := count_uses x n
  have h3 := enc_uses_len x n h
  unfold isT
  rw [h1, decide_eq_true (by omega), decide_eq_true (by omega)]
  rfl
theorem idOk_use (x j : Nat) (hj : j < 12) (hx : x < 128) : idOk [43, j + 1, x] = true := by
  rw [idOk_iff]
  refine ⟨by simp, by simp, by simpa using hx, fun i hi => ?_⟩
  have : i = 0 ∨ i = 1 ∨ i = 2 := by simp at hi; omega
  rcases this with rfl | rfl | rfl
  · simp
  · simp; omega
  · simp; omega
theorem idT_use (x j : Nat) (hj : j < 12) (hx : x < 128) : idT (useT x j) = some [43, j + 1, x] := by
  unfold idT useT
  show (if (heldOk 6 0 6 && idOk [43, j + 1, x]) = true then some [43, j + 1, x] else none) = _
  rw [idOk_use x j hj hx]; rfl
theorem usesT_of (x n : Nat) (h : n ≤ 12) (hx : x < 128) : usesT (usesTr x n) = if 1 ≤ n ∧ n ≤ 8 then some ((List.range n).map fun j => [43, j + 1, x]) else none := by
  have hl : (usesTr x n).kids.length = n := by simp [usesTr, Tr.kids]
  by_cases h1 : 1 ≤ n ∧ n ≤ 8
  · rw [if_pos h1]
    refine usesT_yes rfl (by omega) (by omega) (by simp [hl]) fun j hj => ?_
    rw [hl] at hj
    have e1 : (usesTr x n).kids.getD j default = useT x j := by simp [usesTr, Tr.kids, List.getD, hj]
    rw [e1, idT_use x j (by omega) hx]
    simp [List.getD, hj]
  · rw [if_neg h1]
    rcases Nat.lt_or_ge n 1 with h2 | h2
    · exact usesT_few (by rw [hl]; exact h2)
    · exact usesT_many (by rw [hl]; omega)
theorem said_uses (x n : Nat) (h : n ≤ 12) : saidOf [⟨[85, 29, 37], false, (usesTr x n).enc⟩] [85, 29, 37] = some (.ok (usesTr x n)) := by
  have := read_enc (isT_uses x n h)
  simp [saidOf, firstX, this]
theorem rd_three (w : World) (a b c : Nat) (x y z : Int) (hx : x = (a : Int)) (hy : y = (b : Int)) (hz : z = (c : Int)) : Rd .u8 (w.alloc (.cells #[.int .u8 x, .int .u8 y, .int .u8 z] 5)) (w.heap.size + 1) (some ⟨w.heap.size, 0, none⟩) 3 [a, b, c] := by
  subst hx hy hz
  have hH := Holds.fresh w 5 #[.int .u8 (a : Int), .int .u8 (b : Int), .int .u8 (c : Int)]
  refine ⟨Nat.le_refl _, by omega, fun _ => ⟨w.heap.size, 0, rfl, by omega, fun j hj => ?_⟩⟩
  have : j = 0 ∨ j = 1 ∨ j = 2 := by simp at hj; omega
  rcases this with rfl | rfl | rfl
  · exact hH.cell 0
  · exact hH.cell 1
  · exact hH.cell 2
theorem oct_three {a b c : Nat} (ha : a < 256) (hb : b < 256) (hc : c < 256) : ∀ y ∈ [a, b, c], y < 256 := by
  intro y hy
  simp only [List.mem_cons, List.not_mem_nil, or_false] at hy
  rcases hy with rfl | rfl | rfl <;> assumption
theorem map_len {α β : Type} {f : α → β} {l : List α} {m : List β} (h : l.map f = m) : l.length = m.length := by rw [← h, List.length_map]
end Go.Proofs.YtbkjjhpnjfdlbaaGreatDoor
