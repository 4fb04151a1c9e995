/-
  A text's thing by the document; a thing's text, digits, truth, by atom; a thing of digits, by both.
-/
import Derived.Test.YtmoefccfdnijpaaDoorTx3
namespace Go.Proofs.YtmoefccfdnijpaaDoor
open Go.RowKit BigFrame
set_option linter.unusedVariables false
set_option linter.unusedSimpArgs false
attribute [local go_sem ↓] Go.wp_at_zero Go.wp_at_succ

set_option maxRecDepth 100000 in
set_option maxHeartbeats 2000000 in
theorem text'_any (w : World) (xs : List Nat) (l : List Nat) (ho : ∀ x ∈ l, x < 256) (hl : l.length ≤ 100000) (hxs : ∀ x ∈ xs, x < w.heap.size) :
    Calls Tryd.prog 31 #[.string (str l)] w (MadeT w xs (.mk 12 l [])) := by
  obtain ⟨V, hV⟩ : ∃ V, V = w.alloc (.cells #[.int .u8 0, .slice none 0 0, .slice none 0 0] 32) := ⟨_, rfl⟩
  have hz : Holds V w.heap.size 32 #[.int .u8 0, .slice none 0 0, .slice none 0 0] := by rw [hV]; exact Holds.fresh _ _ _
  have HB0 : Hid (Below w.heap.size w V) := Lib.hid (by rw [hV]; exact (Below.refl _ _).alloc (Nat.le_refl _) _)
  have hVs : w.heap.size < V.heap.size := hz.lt
  obtain ⟨cap, o, hconv, hrd⟩ := conv_bytes l ho (by omega)
  have hrun := hconv V
  have HR := Lib.hid (hrd V)
  have hz2 : Holds (V.drew.alloc (o V)) w.heap.size 32 #[.int .u8 0, .slice none 0 0, .slice none 0 0] := Holds.alloc (w := V.drew) hz (o V)
  have HQ2 : Hid (Below w.heap.size w (V.drew.alloc (o V))) := Lib.hid (HB0.out.drew.alloc HB0.out.size _)
  have HS2 : Hid (V.heap.size + 1 = (V.drew.alloc (o V)).heap.size) := Lib.hid (by simp)
  generalize hW2 : V.drew.alloc (o V) = W2 at *
  obtain ⟨G, hG⟩ : ∃ G, V.heap.size = G := ⟨_, rfl⟩
  obtain ⟨C, hC⟩ : ∃ C, cap V = C := ⟨_, rfl⟩
  rw [hG] at hrun HR HS2 hVs
  rw [hC] at hrun HR
  rw [hV] at hrun
  have hs2 : w.heap.size < W2.heap.size := by have := HS2.out; omega
  obtain ⟨n, hn⟩ : ∃ n, l.length = n := ⟨_, rfl⟩
  rw [hn] at hrun hl
  have HC := Lib.hid (prim'_own W2 n C 12 (G + 1) (some ⟨G, 0, none⟩) l HR.out hn (by rw [HS2.out]; exact Nat.le_refl _) (by omega) (by omega) ho)
  clear hconv hrd hV ho hW2 hz hG hC HB0 hn
  go_enter Tryd.func31, Tryd.ntmps31
  go_wp2_with fail
  refine HC.out.mono ?_
  rintro e w2 ⟨v2, rfl, hp2, hb2⟩
  have HQ3 : Hid (Below w.heap.size w w2) := Lib.hid (HQ2.out.trans (hb2.mono HQ2.out.size))
  have hz3 := hz2.under hb2 hs2
  obtain ⟨lt, hlt, hltt, hof⟩ := off_prim (xs := w.heap.size :: xs) hp2 (fun y hy => by rcases List.mem_cons.1 hy with rfl | hy; exact hs2; have := hxs y hy; omega)
  have HLT := Lib.hid hlt
  have HLTT := Lib.hid hltt
  have HOF := Lib.hid hof
  obtain ⟨A2, c2, rfl, _⟩ := hp2
  have z0 := hz3.cell 0
  have z1 := hz3.cell 1
  have z2 := hz3.cell 2
  have y0 := hz3.open_ 0
  have y1 := hz3.open_ 1
  have y2 := hz3.open_ 2
  clear hb2 HC hlt hltt hof hz2
  go_wp2_with fail
  refine ret_one rfl rfl (((hz3.stored 0 _).stored 1 _).stored 2 _) rfl ?_
  exact ⟨lt, congrArg Ending.returned HLT.out, HLTT.out, made_out HOF.out _ _ _, below_out HQ3.out _ _ _⟩

/-- A text, or none. -/
def GetTx (w : World) : Option (List Nat) → Ending → World → Prop
  | none, e, w' => e = .returned (.tuple #[.string (str []), .bool false]) ∧ Below w.heap.size w w'
  | some b, e, w' => e = .returned (.tuple #[.string (str b), .bool true]) ∧ Below w.heap.size w w'
theorem GetTx.one {w : World} {o : Option (List Nat)} {e : Ending} {w' : World} (h : GetTx w o e w') : e = .returned (.tuple #[.string (str (o.getD [])), .bool o.isSome]) ∧ Below w.heap.size w w' := by
  rcases o with _ | b <;> exact h
/-- The text of a thing of this tag, of so many things, of these bytes. -/
def txOf (x kn : Nat) (b : List Nat) : Option (List Nat) := if heldOk x kn 12 = true ∧ textOk b = true then some b else none
set_option maxRecDepth 100000 in
set_option maxHeartbeats 2000000 in
theorem getText_any (w : World) (x n c kn kc B : Nat) (A K : Option Addr) (b : List Nat) (hr : Rd .u8 w B A c b) (hn : b.length = n) (hB : B ≤ w.heap.size) (ho : ∀ y ∈ b, y < 256) (hT : Lib.Utf8Tabs 0 1 w) :
    Calls Tryd.prog 22 #[.agg #[.int .u8 (x : Int), .slice A n c, .slice K kn kc]] w (GetTx w (txOf x kn b)) := by
  have hH := Holds.fresh w 32 #[.int .u8 (x : Int), .slice A n c, .slice K kn kc]
  have HB0 : Hid (Below w.heap.size w (w.alloc (.cells #[.int .u8 (x : Int), .slice A n c, .slice K kn kc] 32))) := Lib.hid ((Below.refl _ _).alloc (Nat.le_refl _) _)
  have c0 := hH.cell 0
  have c1 := hH.cell 1
  have c2 := hH.cell 2
  have HK := Lib.hid (held_any (w.alloc (.cells #[.int .u8 (x : Int), .slice A n c, .slice K kn kc] 32)) x n c kn kc 12 A K)
  have HR := Lib.hid hr
  have HN := Lib.hid hn
  have HT := Lib.hid hT
  have HO := Lib.hid ho
  clear hr hn hT ho
  obtain ⟨o, HOO⟩ : ∃ o, Hid (o = txOf x kn b) := ⟨_, rfl⟩
  rw [← HOO.out]
  rcases hok : heldOk x kn 12 with _ | _
  case false =>
    have HE : Hid (o = none) := Lib.hid (by rw [HOO.out]; unfold txOf; rw [hok]; rfl)
    rw [hok] at HK
    go_enter Tryd.func22, Tryd.ntmps22
    go_wp2_with fail
    refine HK.out.mono ?_
    rintro e w2 ⟨rfl, hb2⟩
    have HQ := Lib.hid (HB0.out.trans (hb2.mono HB0.out.size))
    clear hb2 HK
    go_wp2_with fail
    go_ret2
    rw [HE.out]
    exact ⟨rfl, HQ.out⟩
  by_cases h64 : 64 < n
  case pos =>
    have HE : Hid (o = none) := Lib.hid (by rw [HOO.out]; unfold txOf textOk; rw [if_neg (fun h => by have := h.2; simp [HN.out] at this; omega)])
    have d1 : decide ((64 : Int) < (n : Int)) = true := decide_eq_true (by omega)
    rw [hok] at HK
    go_enter Tryd.func22, Tryd.ntmps22
    go_wp2_with fail
    refine HK.out.mono ?_
    rintro e w2 ⟨rfl, hb2⟩
    have HQ := Lib.hid (HB0.out.trans (hb2.mono HB0.out.size))
    clear hb2 HK
    go_wp2_with fail
    go_ret2
    rw [HE.out]
    exact ⟨rfl, HQ.out⟩
  have d1 : decide ((64 : Int) < (n : Int)) = false := decide_eq_false (by omega)
  rcases hvd : vd b with _ | _
  case false =>
    have HE : Hid (o = none) := Lib.hid (by rw [HOO.out]; unfold txOf textOk; rw [if_neg (fun h => by have := h.2; simp [hvd] at this)])
    have HV := Lib.hid hvd
    rw [hok] at HK
    clear hvd
    go_enter Tryd.func22, Tryd.ntmps22
    go_wp2_with fail
    refine HK.out.mono ?_
    rintro e w2 ⟨rfl, hb2⟩
    have HQ := Lib.hid (HB0.out.trans (hb2.mono HB0.out.size))
    have hval := valid_any w2 B A c n b (HR.out.under (HQ.out.mono hB)) HN.out (Nat.le_trans hB HQ.out.size) HO.out (Utf8Tabs_below HT.out HQ.out)
    rw [HV.out] at hval
    have HVAL := Lib.hid hval
    clear hb2 HK hval
    go_wp2_with fail
    refine HVAL.out.mono ?_
    rintro e w3 ⟨rfl, hb3⟩
    have HQ3 := Lib.hid (HQ.out.trans (hb3.mono HQ.out.size))
    clear hb3
    go_wp2_with fail
    go_ret2
    rw [HE.out]
    exact ⟨rfl, HQ3.out⟩
  have HE : Hid (o = some b) := Lib.hid (by rw [HOO.out]; unfold txOf textOk; rw [if_pos ⟨hok, by simp [hvd, HN.out]; omega⟩])
  have HV := Lib.hid hvd
  rw [hok] at HK
  clear hvd
  go_enter Tryd.func22, Tryd.ntmps22
  go_wp2_with fail
  refine HK.out.mono ?_
  rintro e w2 ⟨rfl, hb2⟩
  have HQ := Lib.hid (HB0.out.trans (hb2.mono HB0.out.size))
  have hval := valid_any w2 B A c n b (HR.out.under (HQ.out.mono hB)) HN.out (Nat.le_trans hB HQ.out.size) HO.out (Utf8Tabs_below HT.out HQ.out)
  rw [HV.out] at hval
  have HVAL := Lib.hid hval
  clear hb2 HK hval
  go_wp2_with fail
  refine HVAL.out.mono ?_
  rintro e w3 ⟨rfl, hb3⟩
  have HQ3 := Lib.hid (HQ.out.trans (hb3.mono HQ.out.size))
  have hcv := conv_str (w := w3) (HR.out.under (HQ3.out.mono hB)) HN.out HO.out
  clear hb3
  go_wp2_with fail
  go_ret2
  rw [HE.out]
  exact ⟨rfl, HQ3.out⟩

/-- A thing's digits. -/
def bitsOf (x kn : Nat) (b : List Nat) : Option (List Nat) := if heldOk x kn 3 = true ∧ 0 < b.length ∧ b.getD 0 0 = 0 then some (b.drop 1) else none
end Go.Proofs.YtmoefccfdnijpaaDoor
