/-
  Things in a row, copied; a thing of bytes, of truths, of things, made by atom. Things made: of bytes, of truths, of things: by atom, by the document. What things hold: things, IDs, bytes: by atom, by the document. What things hold, on: bytes by atom; IDs, bytes by the document.
-/
import Derived.Test.YtdjklhglkmacbaaDoorOff
import Derived.Test.YtdjklhglkmacbaaDoorAtM
import Derived.Deep.AppendSrc
import Derived.Deep.Upon
namespace Go.Proofs.YtdjklhglkmacbaaDoor
open Go.RowKit
set_option linter.unusedVariables false
set_option linter.unusedSimpArgs false

theorem under_nodes : Tryd.prog.underlying 29 = some (.slice 31) := by kernel_rfl
theorem off_block {xs : List Nat} {w : World} {g c : Nat} {cs : Array Value} {l : List Lt} (hH : Holds w g 31 cs) (hc : ∀ (j : Nat) (u : Value), (l.flatMap lcell)[j]? = some u → cs[j]? = some u) (hx : g ∉ xs) (hl : l.length ≤ c) (h63 : c ≤ 9223372036854775807)
    (hk : ∀ x ∈ l, Off xs (ThP x) w) : Off xs (KiP (some ⟨g, 0, none⟩) c l) w := by
  intro w' h2 h3
  have hH' : Holds w' g 31 cs := (h3 _ hx hH.lt).trans hH
  refine ⟨⟨hl, h63, fun hn => ⟨g, 0, rfl, by have := hH.lt; omega, fun j hj => ?_⟩⟩, fun x hx2 => hk x hx2 w' h2 h3⟩
  have e : l[j]? = some (l.getD j default) := by simp [List.getD, hj]
  have f : ∀ t, t < 3 → (l.flatMap lcell)[3 * j + t]? = (lcell (l.getD j default))[t]? := fun t ht => flat_at (f := lcell) (m := 3) (L := l) (fun _ _ => rfl) e (j := t) ht
  have k : ∀ t, t < 3 → ∀ v, (lcell (l.getD j default))[t]? = some v → w'.cell? ⟨g, 3 * j + t, none⟩ = some v := fun t ht v hv => by
    rw [hH'.cell]
    exact hc _ _ (by rw [f t ht, hv])
  exact ⟨by rw [show 0 + j * 3 = 3 * j + 0 by omega]; exact k 0 (by omega) _ rfl, by rw [show 0 + j * 3 + 1 = 3 * j + 1 by omega]; exact k 1 (by omega) _ rfl, by rw [show 0 + j * 3 + 2 = 3 * j + 2 by omega]; exact k 2 (by omega) _ rfl⟩
theorem off_none (xs : List Nat) (w : World) : Off xs (KiP none 0 []) w := fun _ _ _ => ⟨⟨by simp, by omega, fun h => by simp at h⟩, fun x hx => by cases hx⟩
theorem KiP.nil_of {A : Option Addr} {c : Nat} {w : World} (h : KiP A c [] w) : True := trivial
theorem rowT_cells {w : World} {B c : Nat} {a : Addr} {l : List Lt} (h : RowT w B (some a) c l) : ∀ (j : Nat) (u : Value), (l.flatMap lcell)[j]? = some u → w.cell? (a.add j) = some u := by
  intro j u hu
  have hj : j < (l.flatMap lcell).length := (List.getElem?_eq_some_iff.1 hu).1
  rw [flat_length (f := lcell) (m := 3) (fun _ _ => rfl)] at hj
  obtain ⟨b, off, e, hlt, hc⟩ := h.2.2 (by omega)
  injection e with e
  subst e
  have hq : j / 3 < l.length := by omega
  obtain ⟨c0, c1, c2⟩ := hc (j / 3) hq
  have e2 : l[j / 3]? = some (l.getD (j / 3) default) := by simp [List.getD, hq]
  have f := flat_at (f := lcell) (m := 3) (L := l) (fun _ _ => rfl) e2 (j := j % 3) (by omega)
  rw [show 3 * (j / 3) + j % 3 = j by omega, hu] at f
  have ha : (⟨b, off, none⟩ : Addr).add j = ⟨b, off + j, none⟩ := by unfold Addr.add; split <;> simp_all
  rw [ha, f]
  rcases (by omega : j % 3 = 0 ∨ j % 3 = 1 ∨ j % 3 = 2) with h3 | h3 | h3
  · rw [show off + j = off + j / 3 * 3 by omega, c0, h3]; rfl
  · rw [show off + j = off + j / 3 * 3 + 1 by omega, c1, h3]; rfl
  · rw [show off + j = off + j / 3 * 3 + 2 by omega, c2, h3]; rfl
theorem lcell_one (l : List Lt) : ∀ u ∈ l.flatMap lcell, u.oneCell' = true := by
  intro u hu
  obtain ⟨t, _, h⟩ := List.mem_flatMap.1 hu
  simp only [lcell, List.mem_cons, List.not_mem_nil, or_false] at h
  rcases h with rfl | rfl | rfl <;> rfl
set_option maxRecDepth 100000 in
set_option maxHeartbeats 2000000 in
theorem cloneT_any (w : World) (xs : List Nat) (A : Option Addr) (c n : Nat) (ks : List Lt) (h : Off xs (KiP A c ks) w) (hn : ks.length = n) (hsz : n ≤ 100000) (hxs : ∀ x ∈ xs, x < w.heap.size) :
    Calls Tryd.prog 51 #[.slice A n c] w fun e w' => ∃ A' c', e = .returned (.slice A' n c') ∧ Off xs (KiP A' c' ks) w' ∧ Below w.heap.size w w' := by
  rcases A with _ | a
  · have hn0 : n = 0 := by
      rcases Nat.eq_zero_or_pos n with h0 | h0
      · exact h0
      · obtain ⟨_, _, e, _⟩ := h.at_.1.2.2 (by omega)
        cases e
    subst hn0
    obtain rfl := List.eq_nil_of_length_eq_zero hn
    clear h hn hxs
    have hnl : (binOp .eql 29 (.slice none 0 c) (.slice none 0 0)).run Tryd.prog w = .ok (.bool true) w := run_eql_slice_nil w _ _ none 0 c under_nodes
    go_enter Tryd.func51, Tryd.ntmps51
    go_wp2_with fail
    go_ret
    exact ⟨_, _, rfl, off_none _ _, Below.refl _ _⟩
  · obtain ⟨i, hi, hz, hsize, hbytes⟩ := info_parts info_node
    have hq : Below w.heap.size w (w.alloc (.cells #[] 31)) := (Below.refl _ _).alloc (Nat.le_refl _) _
    have hsrc : Src Tryd.prog i.size 29 (.slice (some a) n c) n (ks.flatMap lcell) (w.alloc (.cells #[] 31)) := by
      rw [hsize]
      exact Src.ofSlice _ under_nodes a n c _ (by rw [flat_length (f := lcell) (m := 3) (fun _ _ => rfl), hn, Nat.mul_comm]) (rowT_cells (h.alloc (.cells #[] 31)).at_.1) (lcell_one ks)
    have hnl : (binOp .eql 29 (.slice (some a) n c) (.slice none 0 0)).run Tryd.prog w = .ok (.bool false) w := run_eql_slice_nil w _ _ (some a) n c under_nodes
    have hrun : ∃ A' c' W, (Builtin.append_ #[29, 29] 29 #[.slice (some ⟨w.heap.size, 0, none⟩) 0 0, .slice (some a) n c]).run Tryd.prog (w.alloc (.cells #[] 31)) = .ok (.slice A' n c') W ∧ Off xs (KiP A' c' ks) W ∧ Below w.heap.size w W := by
      rcases Nat.eq_zero_or_pos n with h0 | h0
      · subst h0
        obtain rfl := List.eq_nil_of_length_eq_zero hn
        refine ⟨_, _, _, run_append_nothing _ _ _ _ 31 i under_nodes hi _ 0 0 (Nat.le_refl _) _ hsrc, fun _ _ _ => ⟨⟨by simp, by omega, fun h => by simp at h⟩, fun x hx => by cases hx⟩, hq⟩
      · have hold : (Builtin.firstCells i.size 0 (.slice (some ⟨w.heap.size, 0, none⟩) 0 0)).run Tryd.prog (w.alloc (.cells #[] 31)).drew = .ok ([] : List Value).toArray (w.alloc (.cells #[] 31)).drew :=
          run_firstCells_some _ i.size 0 ⟨w.heap.size, 0, none⟩ 0 0 [] (by simp) (fun j u hu => by simp at hu)
        have hfit : Builtin.nextslicecap (0 + n) 0 * i.bytes ≤ 281474976710656 := growslice_fits (by omega) (by rw [hbytes]; omega)
        have hrun := run_append_grow_src (P := Tryd.prog) (w.alloc (.cells #[] 31)) 29 29 29 31 i _ under_nodes hi hz _ 0 0 [] hold _ n _ hsrc (by omega) (by omega) hfit
        rw [Nat.zero_add] at hrun
        have hge := grownCap_ge (w.alloc (.cells #[] 31)) n 0 31
        have hcm : grownCap (w.alloc (.cells #[] 31)) n 0 31 ≤ maxLen := grownCap_le_maxLen _ n 0 _ (by unfold maxLen; omega)
        unfold maxLen at hcm
        have hs1 : (w.alloc (.cells #[] 31)).heap.size = w.heap.size + 1 := by simp
        refine ⟨_, _, _, hrun, ?_, hq.drew.alloc (by show w.heap.size ≤ (w.alloc (.cells #[] 31)).heap.size; rw [hs1]; omega) _⟩
        refine off_block (cs := _) (Holds.fresh (w.alloc (.cells #[] 31)).drew 31 _) (fun j u hu => ?_) (fun hx => ?_) (by omega) hcm (fun x hx => ?_)
        · rw [Array.getElem?_append_left (by have := (List.getElem?_eq_some_iff.1 hu).1; simpa using this)]
          simpa using hu
        · have := hxs _ hx
          have e : (w.alloc (.cells #[] 31)).drew.heap.size = w.heap.size + 1 := hs1
          omega
        · exact ((h.alloc (.cells #[] 31)).drew.imp fun _ hh => hh.2 x hx).alloc _
    obtain ⟨A', c', W, hrun, ho, hbw⟩ := hrun
    have HO := Lib.hid ho
    have HB := Lib.hid hbw
    clear h hn hxs ho hbw hsrc hq hi hz hsize hbytes
    go_enter Tryd.func51, Tryd.ntmps51
    go_wp2_with (first | (refine wpList_append_run _ rfl (.tmp 5) (.tmp 6) 29 rfl rfl _ _ rfl rfl _ _ hrun ?_) | fail)
    go_ret
    exact ⟨_, _, rfl, HO.out, HB.out⟩
end Go.Proofs.YtdjklhglkmacbaaDoor
namespace Go.Proofs.YtdjklhglkmacbaaDoor
open Go.RowKit
set_option linter.unusedVariables false
set_option linter.unusedSimpArgs false

/-- What is made in a call whose answer lies in a cell of its own. -/
theorem made_out {xs : List Nat} {w w' : World} {lt : Lt} (h : Off (w.heap.size :: xs) (ThP lt) w') (a b c : Value) :
    Off xs (ThP lt) (((w'.setCell ⟨w.heap.size, 0, none⟩ a).setCell ⟨w.heap.size, 1, none⟩ b).setCell ⟨w.heap.size, 2, none⟩ c) :=
  (((h.store (p := ⟨w.heap.size, 0, none⟩) (by simp) a).store (p := ⟨w.heap.size, 1, none⟩) (by simp) b).store (p := ⟨w.heap.size, 2, none⟩) (by simp) c).less (fun g hg => by simp [hg])
theorem below_out {w w' : World} (h : Below w.heap.size w w') (a b c : Value) : Below w.heap.size w (((w'.setCell ⟨w.heap.size, 0, none⟩ a).setCell ⟨w.heap.size, 1, none⟩ b).setCell ⟨w.heap.size, 2, none⟩ c) :=
  ((h.setCell (p := ⟨w.heap.size, 0, none⟩) (Nat.le_refl _) _).setCell (p := ⟨w.heap.size, 1, none⟩) (Nat.le_refl _) _).setCell (p := ⟨w.heap.size, 2, none⟩) (Nat.le_refl _) _
theorem off_prim {xs : List Nat} {v : Value} {w : World} {B tag : Nat} {b : List Nat} (h : PrimAt v w B tag b) (hx : ∀ x ∈ xs, x < B) : ∃ lt : Lt, v = lt.val ∧ lt.t = .mk tag b [] ∧ Off xs (ThP lt) w := by
  obtain ⟨A, c, rfl, hr, hg, ho, ht⟩ := h
  refine ⟨.mk tag A c b none 0 [], rfl, rfl, off_body (fun w' h2 h3 => ?_) ht ho⟩
  refine ⟨hr.1, hr.2.1, fun hn => ?_⟩
  obtain ⟨g, off, rfl, hlt, hc⟩ := hr.2.2 hn
  refine ⟨g, off, rfl, by omega, fun j hj => ?_⟩
  have hgx : g ∉ xs := fun hgx => by have := hx g hgx; have := hg g rfl; omega
  simp only [World.cell?]
  rw [h3 g hgx hlt]
  exact hc j hj
set_option maxRecDepth 100000 in
set_option maxHeartbeats 2000000 in
theorem octets_any (w : World) (xs : List Nat) (A : Option Addr) (c n B : Nat) (l : List Nat) (hr : Rd .u8 w B A c l) (hn : l.length = n) (hB : B ≤ w.heap.size) (h12 : n ≤ 12000) (ho : ∀ x ∈ l, x < 256) (hxs : ∀ x ∈ xs, x < w.heap.size) :
    Calls Tryd.prog 33 #[.slice A n c] w (MadeT w xs (.mk 4 l [])) := by
  obtain ⟨V, hV⟩ : ∃ V, V = w.alloc (.cells #[.int .u8 0, .slice none 0 0, .slice none 0 0] 31) := ⟨_, rfl⟩
  have hz : Holds V w.heap.size 31 #[.int .u8 0, .slice none 0 0, .slice none 0 0] := by rw [hV]; exact Holds.fresh _ _ _
  have HB0 : Hid (Below w.heap.size w V) := Lib.hid (by rw [hV]; exact (Below.refl _ _).alloc (Nat.le_refl _) _)
  have hVs : w.heap.size < V.heap.size := hz.lt
  have HC := Lib.hid (clone_any V B A c n l (hr.under (HB0.out.mono hB)) hn (by omega) h12)
  have HZ := Lib.hid hz
  have HV := Lib.hid hV
  have HN := Lib.hid hn
  have HO := Lib.hid ho
  clear hr hn ho hz hV
  go_enter Tryd.func33, Tryd.ntmps33
  go_wp2_with fail
  rw [← HV.out]
  refine HC.out.mono ?_
  rintro e w2 ⟨A2, c2, rfl, hm2, hb2⟩
  have HQ2 : Hid (Below w.heap.size w w2) := Lib.hid (HB0.out.trans (hb2.mono HB0.out.size))
  have hz2 := HZ.out.under hb2 hVs
  have HM2 := Lib.hid hm2
  have z0 := hz2.cell 0
  have z1 := hz2.cell 1
  have z2 := hz2.cell 2
  have y0 := hz2.open_ 0
  have y1 := hz2.open_ 1
  have y2 := hz2.open_ 2
  clear hb2 hm2 HC HV
  go_wp2_with fail
  refine ret_one rfl rfl (((hz2.stored 0 _).stored 1 _).stored 2 _) rfl ?_
  refine ⟨.mk 4 A2 c2 l none 0 [], by rw [← HN.out]; rfl, rfl, made_out (off_body (Off.of_mine HM2.out fun g hg hx => ?_) (by omega) HO.out) _ _ _, below_out HQ2.out _ _ _⟩
  have h1 := (HM2.out.block hg).1
  rcases List.mem_cons.1 hx with h2 | h2
  · omega
  · have := hxs g h2; omega
set_option maxRecDepth 100000 in
set_option maxHeartbeats 2000000 in
theorem seq_any (w : World) (xs : List Nat) (x c n : Nat) (A : Option Addr) (ks : List Lt) (h : Off xs (KiP A c ks) w) (hn : ks.length = n) (hx : x < 256) (hsz : n ≤ 100000) (hxs : ∀ x ∈ xs, x < w.heap.size) :
    Calls Tryd.prog 30 #[.int .u8 (x : Int), .slice A n c] w (MadeT w xs (.mk x [] (ks.map Lt.t))) := by
  obtain ⟨V, hV⟩ : ∃ V, V = w.alloc (.cells #[.int .u8 0, .slice none 0 0, .slice none 0 0] 31) := ⟨_, rfl⟩
  have hz : Holds V w.heap.size 31 #[.int .u8 0, .slice none 0 0, .slice none 0 0] := by rw [hV]; exact Holds.fresh _ _ _
  have HB0 : Hid (Below w.heap.size w V) := Lib.hid (by rw [hV]; exact (Below.refl _ _).alloc (Nat.le_refl _) _)
  have hVs : w.heap.size < V.heap.size := hz.lt
  have hkV : Off (w.heap.size :: xs) (KiP A c ks) V := by rw [hV]; exact (h.new (Nat.le_refl _)).alloc _
  have HC := Lib.hid (cloneT_any V (w.heap.size :: xs) A c n ks hkV hn hsz (fun y hy => by rcases List.mem_cons.1 hy with rfl | hy; exact hVs; have := hxs y hy; omega))
  have HK := Lib.hid hkV
  have HZ := Lib.hid hz
  have HV := Lib.hid hV
  have HN := Lib.hid hn
  clear h hn hz hV hkV
  go_enter Tryd.func30, Tryd.ntmps30
  go_wp2_with fail
  rw [← HV.out]
  refine HC.out.mono ?_
  rintro e w2 ⟨A2, c2, rfl, hk2, hb2⟩
  have HQ2 : Hid (Below w.heap.size w w2) := Lib.hid (HB0.out.trans (hb2.mono HB0.out.size))
  have hz2 := HZ.out.under hb2 hVs
  have HK2 := Lib.hid hk2
  have z0 := hz2.cell 0
  have z1 := hz2.cell 1
  have z2 := hz2.cell 2
  have y0 := hz2.open_ 0
  have y1 := hz2.open_ 1
  have y2 := hz2.open_ 2
  clear hb2 hk2 HC HV
  go_wp2_with fail
  refine ret_one rfl rfl (((hz2.stored 0 _).stored 1 _).stored 2 _) rfl ?_
  refine ⟨.mk x none 0 [] A2 c2 ks, by rw [← HN.out]; rfl, Lt.t_mk, made_out (off_kids HK2.out hx) _ _ _, below_out HQ2.out _ _ _⟩
set_option maxRecDepth 100000 in
set_option maxHeartbeats 2000000 in
theorem octets'_any (w : World) (xs : List Nat) (A : Option Addr) (c n B : Nat) (l : List Nat) (hr : Rd .u8 w B A c l) (hn : l.length = n) (hB : B ≤ w.heap.size) (hmx : n ≤ 900000) (ho : ∀ x ∈ l, x < 256) (hxs : ∀ x ∈ xs, x < w.heap.size) :
    Calls Tryd.prog 24 #[.slice A n c] w (MadeT w xs (.mk 4 l [])) := by
  obtain ⟨V, hV⟩ : ∃ V, V = w.alloc (.cells #[.int .u8 0, .slice none 0 0, .slice none 0 0] 31) := ⟨_, rfl⟩
  have hz : Holds V w.heap.size 31 #[.int .u8 0, .slice none 0 0, .slice none 0 0] := by rw [hV]; exact Holds.fresh _ _ _
  have HB0 : Hid (Below w.heap.size w V) := Lib.hid (by rw [hV]; exact (Below.refl _ _).alloc (Nat.le_refl _) _)
  have hVs : w.heap.size < V.heap.size := hz.lt
  have HC := Lib.hid (prim'_own V n c 4 B A l (hr.under (HB0.out.mono hB)) hn (by omega) hmx (by omega) ho)
  have HZ := Lib.hid hz
  have HV := Lib.hid hV
  have HN := Lib.hid hn
  clear hr hn ho hz hV
  go_enter Tryd.func24, Tryd.ntmps24
  go_wp2_with fail
  rw [← HV.out]
  refine HC.out.mono ?_
  rintro e w2 ⟨v2, rfl, hp2, hb2⟩
  have HQ2 : Hid (Below w.heap.size w w2) := Lib.hid (HB0.out.trans (hb2.mono HB0.out.size))
  have hz2 := HZ.out.under hb2 hVs
  obtain ⟨lt, hlt, hltt, hof⟩ := off_prim (xs := w.heap.size :: xs) hp2 (fun y hy => by rcases List.mem_cons.1 hy with rfl | hy; exact hVs; have := hxs y hy; omega)
  have HLT := Lib.hid hlt
  have HLTT := Lib.hid hltt
  have HOF := Lib.hid hof
  obtain ⟨A2, c2, rfl, _⟩ := hp2
  have z0 := hz2.cell 0
  have z1 := hz2.cell 1
  have z2 := hz2.cell 2
  have y0 := hz2.open_ 0
  have y1 := hz2.open_ 1
  have y2 := hz2.open_ 2
  clear hb2 HC HV hlt hltt hof
  go_wp2_with fail
  refine ret_one rfl rfl (((hz2.stored 0 _).stored 1 _).stored 2 _) rfl ?_
  exact ⟨lt, congrArg Ending.returned HLT.out, HLTT.out, made_out HOF.out _ _ _, below_out HQ2.out _ _ _⟩
set_option maxRecDepth 100000 in
set_option maxHeartbeats 2000000 in
theorem seq'_any (w : World) (xs : List Nat) (x c n : Nat) (A : Option Addr) (ks : List Lt) (h : Off xs (KiP A c ks) w) (hn : ks.length = n) (hx : x < 256) :
    Calls Tryd.prog 21 #[.int .u8 (x : Int), .slice A n c] w (MadeT w xs (.mk x [] (ks.map Lt.t))) := by
  have HK := Lib.hid (h.alloc (.cells #[.int .u8 (x : Int), .slice none 0 0, .slice A n c] 31))
  have HN := Lib.hid hn
  clear h hn
  go_enter Tryd.func21, Tryd.ntmps21
  go_wp2_with fail
  refine ret_one rfl rfl (Holds.fresh _ _ _) rfl ?_
  exact ⟨.mk x none 0 [] A c ks, by rw [← HN.out]; rfl, Lt.t_mk, off_kids HK.out hx, (Below.refl _ _).alloc (Nat.le_refl _) _⟩
end Go.Proofs.YtdjklhglkmacbaaDoor
namespace Go.Proofs.YtdjklhglkmacbaaDoor
open Go.RowKit
set_option linter.unusedVariables false
set_option linter.unusedSimpArgs false

/-- Is it things in one, of a tag? -/
def seqOk (x : Nat) (n : Nat) (tag : Nat) : Bool := decide (x = tag) && parted tag && decide (n = 0)
def SeqPost (w : World) (xs : List Nat) (ks : List Lt) : Bool → Ending → World → Prop
  | true, e, w' => ∃ A c, e = .returned (.tuple #[.slice A ks.length c, .bool true]) ∧ Off xs (KiP A c ks) w' ∧ Below w.heap.size w w'
  | false, e, w' => e = .returned (.tuple #[.slice none 0 0, .bool false]) ∧ Below w.heap.size w w'
/-- Bytes of one's own, or none. -/
def GetB (w : World) : Option (List Nat) → Ending → World → Prop
  | none, e, w' => e = .returned (.tuple #[.slice none 0 0, .bool false]) ∧ Below w.heap.size w w'
  | some b, e, w' => ∃ A c, e = .returned (.tuple #[.slice A b.length c, .bool true]) ∧ Mine 5 w' w.heap.size A c b ∧ Below w.heap.size w w'
theorem GetB.one {w : World} {o : Option (List Nat)} {e : Ending} {w' : World} (h : GetB w o e w') : ∃ A c, e = .returned (.tuple #[.slice A (o.getD []).length c, .bool o.isSome]) ∧ Mine 5 w' w.heap.size A c (o.getD []) ∧ Below w.heap.size w w' := by
  rcases o with _ | b
  · exact ⟨none, 0, h.1, Mine.nil _ _ _, h.2⟩
  · exact h
/-- May it be an ID? -/
def idOk (b : List Nat) : Bool := decide (1 ≤ b.length ∧ b.length ≤ 20 ∧ b.getD (b.length - 1) 0 < 128 ∧ ∀ i, i < b.length → ¬ (b.getD i 0 = 128 ∧ (i = 0 ∨ b.getD (i - 1) 0 < 128)))
theorem idOk_iff {b : List Nat} : idOk b = true ↔ 1 ≤ b.length ∧ b.length ≤ 20 ∧ b.getD (b.length - 1) 0 < 128 ∧ ∀ i, i < b.length → ¬ (b.getD i 0 = 128 ∧ (i = 0 ∨ b.getD (i - 1) 0 < 128)) := by
  unfold idOk; rw [decide_eq_true_iff]
theorem idOk_no {b : List Nat} (h : ¬ (1 ≤ b.length ∧ b.length ≤ 20 ∧ b.getD (b.length - 1) 0 < 128 ∧ ∀ i, i < b.length → ¬ (b.getD i 0 = 128 ∧ (i = 0 ∨ b.getD (i - 1) 0 < 128)))) : idOk b = false := by
  rw [Bool.eq_false_iff]; exact fun hh => h (idOk_iff.1 hh)
theorem rd_oct {b : List Nat} (ho : ∀ x ∈ b, x < 256) (j : Nat) : b.getD j 0 < 256 := by
  rw [List.getD_eq_getElem?_getD]
  rcases h : b[j]? with _ | y
  · simp
  · exact ho y (List.mem_of_getElem? h)
theorem and32_is (x : Nat) (hx : x < 256) : (Go.bits BinOp.and IntKind.u8 ((x : Nat) : Int) 32 == 0) = !parted x := by
  have h := parted_is x hx
  rw [← h]
  unfold bne
  rw [Bool.not_not]
set_option maxRecDepth 100000 in
set_option maxHeartbeats 2000000 in
theorem getSeq_any (w : World) (xs : List Nat) (x n c kn kc tag : Nat) (A K : Option Addr) (ks : List Lt) (hk : Off xs (KiP K kc ks) w) (hn : ks.length = kn) (ht : tag < 256) (hsz : kn ≤ 100000) (hxs : ∀ x ∈ xs, x < w.heap.size) :
    Calls Tryd.prog 59 #[.agg #[.int .u8 (x : Int), .slice A n c, .slice K kn kc], .int .u8 (tag : Int)] w (SeqPost w xs ks (seqOk x n tag)) := by
  have hH := Holds.fresh w 31 #[.int .u8 (x : Int), .slice A n c, .slice K kn kc]
  have HB0 : Hid (Below w.heap.size w (w.alloc (.cells #[.int .u8 (x : Int), .slice A n c, .slice K kn kc] 31))) := Lib.hid ((Below.refl _ _).alloc (Nat.le_refl _) _)
  have c0 := hH.cell 0
  have c1 := hH.cell 1
  have c2 := hH.cell 2
  have hkV := hk.alloc (.cells #[.int .u8 (x : Int), .slice A n c, .slice K kn kc] 31)
  have HC := Lib.hid (cloneT_any (w.alloc (.cells #[.int .u8 (x : Int), .slice A n c, .slice K kn kc] 31)) xs K kc kn ks hkV hn hsz (fun y hy => by have := hxs y hy; have := hH.lt; omega))
  have HK := Lib.hid hkV
  have HN := Lib.hid hn
  have hand := and32_is tag ht
  clear hk hn hkV
  by_cases h1 : x = tag
  case neg =>
    have HE : Hid (seqOk x n tag = false) := Lib.hid (by simp [seqOk, h1])
    have b1 : ((x : Int) != (tag : Int)) = true := by simp; omega
    have d1 : decide ((x : Int) = (tag : Int)) = false := decide_eq_false (by omega)
    clear hand
    go_enter Tryd.func59, Tryd.ntmps59
    go_wp2_with fail
    go_ret2
    rw [HE.out]
    exact ⟨rfl, HB0.out⟩
  subst h1
  rcases hp : parted x with _ | _
  case false =>
    have HE : Hid (seqOk x n x = false) := Lib.hid (by simp [seqOk, hp])
    rw [hp] at hand
    have hand2 : (Go.bits BinOp.and IntKind.u8 ((x : Nat) : Int) 32 == 0) = true := hand
    clear hand
    go_enter Tryd.func59, Tryd.ntmps59
    go_wp2_with fail
    go_ret2
    rw [HE.out]
    exact ⟨rfl, HB0.out⟩
  rw [hp] at hand
  have hand2 : (Go.bits BinOp.and IntKind.u8 ((x : Nat) : Int) 32 == 0) = false := hand
  clear hand
  by_cases h2 : n = 0
  case neg =>
    have HE : Hid (seqOk x n x = false) := Lib.hid (by simp [seqOk, h2])
    have d2 : decide ((0 : Int) < (n : Int)) = true := decide_eq_true (by omega)
    go_enter Tryd.func59, Tryd.ntmps59
    go_wp2_with fail
    go_ret2
    rw [HE.out]
    exact ⟨rfl, HB0.out⟩
  subst h2
  have HE : Hid (seqOk x 0 x = true) := Lib.hid (by simp [seqOk, hp])
  go_enter Tryd.func59, Tryd.ntmps59
  go_wp2_with fail
  refine HC.out.mono ?_
  rintro e w2 ⟨A2, c2, rfl, hk2, hb2⟩
  have HQ2 := Lib.hid (HB0.out.trans (hb2.mono HB0.out.size))
  have HK2 := Lib.hid hk2
  clear hb2 hk2 HC
  go_wp2_with fail
  go_ret2
  rw [HE.out]
  exact ⟨A2, c2, by rw [HN.out]; rfl, HK2.out, HQ2.out⟩
end Go.Proofs.YtdjklhglkmacbaaDoor
namespace Go.Proofs.YtdjklhglkmacbaaDoor
open Go.RowKit
set_option linter.unusedVariables false
set_option linter.unusedSimpArgs false

set_option maxRecDepth 100000 in
theorem clone_nil (w : World) : Calls Tryd.prog 54 #[.slice none 0 0] w fun e w' => e = .returned (.slice none 0 0) ∧ Below w.heap.size w w' := by
  have hnl : (binOp .eql 28 (.slice none 0 0) (.slice none 0 0)).run Tryd.prog w = .ok (.bool true) w := run_eql_slice_nil w _ _ none 0 0 under22
  go_enter Tryd.func54, Tryd.ntmps54
  go_wp2_with fail
  go_ret
  exact ⟨rfl, Below.refl _ _⟩
set_option maxRecDepth 100000 in
set_option maxHeartbeats 2000000 in
theorem getOct_any (w : World) (x n c kn kc B : Nat) (A K : Option Addr) (b : List Nat) (hr : Rd .u8 w B A c b) (hn : b.length = n) (hB : B ≤ w.heap.size) (h12 : n ≤ 12000) :
    Calls Tryd.prog 80 #[.agg #[.int .u8 (x : Int), .slice A n c, .slice K kn kc]] w (GetB w (if heldOk x kn 4 = true then some b else none)) := by
  have hH := Holds.fresh w 31 #[.int .u8 (x : Int), .slice A n c, .slice K kn kc]
  have HB0 : Hid (Below w.heap.size w (w.alloc (.cells #[.int .u8 (x : Int), .slice A n c, .slice K kn kc] 31))) := Lib.hid ((Below.refl _ _).alloc (Nat.le_refl _) _)
  have c0 := hH.cell 0
  have c1 := hH.cell 1
  have c2 := hH.cell 2
  have HK := Lib.hid (held_any (w.alloc (.cells #[.int .u8 (x : Int), .slice A n c, .slice K kn kc] 31)) x n c kn kc 4 A K)
  have HR := Lib.hid hr
  have HN := Lib.hid hn
  clear hr hn
  obtain ⟨o, HOO⟩ : ∃ o, Hid (o = if heldOk x kn 4 = true then some b else none) := ⟨_, rfl⟩
  rw [← HOO.out]
  rcases hok : heldOk x kn 4 with _ | _
  case false =>
    have HE : Hid (o = none) := Lib.hid (by rw [HOO.out, hok]; rfl)
    rw [hok] at HK
    go_enter Tryd.func80, Tryd.ntmps80
    go_wp2_with fail
    refine HK.out.mono ?_
    rintro e w2 ⟨rfl, hb2⟩
    have HQ := Lib.hid (HB0.out.trans (hb2.mono HB0.out.size))
    clear hb2 HK
    go_wp2_with fail
    refine (clone_nil w2).mono ?_
    rintro e w3 ⟨rfl, hb3⟩
    have HQ3 := Lib.hid (HQ.out.trans (hb3.mono HQ.out.size))
    clear hb3
    go_wp2_with fail
    go_ret2
    rw [HE.out]
    exact ⟨rfl, HQ3.out⟩
  have HE : Hid (o = some b) := Lib.hid (by rw [HOO.out, hok]; rfl)
  rw [hok] at HK
  go_enter Tryd.func80, Tryd.ntmps80
  go_wp2_with fail
  refine HK.out.mono ?_
  rintro e w2 ⟨rfl, hb2⟩
  have hq := HB0.out.trans (hb2.mono HB0.out.size)
  have HQ := Lib.hid hq
  have HCL := Lib.hid (clone_any w2 B A c n b (HR.out.under (hq.mono hB)) HN.out (Nat.le_trans hB hq.size) h12)
  clear hb2 HK hq
  go_wp2_with fail
  refine HCL.out.mono ?_
  rintro e w3 ⟨A3, c3, rfl, hm3, hb3⟩
  have HQ3 := Lib.hid (HQ.out.trans (hb3.mono HQ.out.size))
  have HM3 := Lib.hid (hm3.less HQ.out.size)
  clear hb3 hm3
  go_wp2_with fail
  go_ret2
  rw [HE.out]
  exact ⟨A3, c3, by rw [HN.out]; rfl, HM3.out, HQ3.out⟩
end Go.Proofs.YtdjklhglkmacbaaDoor
