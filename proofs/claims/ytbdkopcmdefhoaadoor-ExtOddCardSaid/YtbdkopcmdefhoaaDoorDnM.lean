/-
  Names compared: by the program. One name under another; a text of one byte. Names, plainly: a text's bytes; which names may be; a name's thing. Which names may be: by dn, by the document. An append of bytes that must grow; things in a row, by sixes. A name's thing, by dn. A thing as a part of a name, plainly; a thing's text by the document. A thing as a part of a name: by dn. A row of parts of names that grows; what a thing is that is a name's. A thing's name: by dn.
-/
import Derived.Test.YtbdkopcmdefhoaaDoorStr
import Derived.Test.YtbdkopcmdefhoaaDoorTx4
import Derived.Test.YtbdkopcmdefhoaaDoorKids
import Derived.Test.YtbdkopcmdefhoaaDoorStrong
import Derived.Lib.SlBytesConst
import Derived.Deep.RegionHeld3
namespace Go.Proofs.YtbdkopcmdefhoaaDoor
open Go.RowKit
set_option linter.unusedVariables false

/-- A part of a name: its kind, its text. -/
structure Att where
  k : Int
  s : ByteArray
instance : Inhabited Att := ⟨⟨0, ⟨#[]⟩⟩⟩
theorem Att.ext_ {a b : Att} (h1 : a.k = b.k) (h2 : a.s = b.s) : a = b := by cases a; cases b; simp at h1 h2; simp [h1, h2]

/-- The slice '.slice A l.length c' reads as the parts l. -/
def RdA (w : World) (B : Nat) (A : Option Addr) (c : Nat) (l : List Att) : Prop :=
  l.length ≤ c ∧ c ≤ 9223372036854775807 ∧ (0 < l.length → ∃ b off, A = some ⟨b, off, none⟩ ∧ b < B ∧ ∀ j, j < l.length →
    w.cell? ⟨b, off + j * 2, none⟩ = some (.int .i64 (l.getD j default).k) ∧ w.cell? ⟨b, off + j * 2 + 1, none⟩ = some (.string (l.getD j default).s))
section
variable {w w' : World} {B B' : Nat} {A : Option Addr} {c : Nat} {l : List Att}
theorem RdA.keep (h : RdA w B A c l) (hk : ∀ b o, b < B → w'.cell? ⟨b, o, none⟩ = w.cell? ⟨b, o, none⟩) : RdA w' B A c l :=
  ⟨h.1, h.2.1, fun hn => by
    obtain ⟨b, off, e, hb, hc⟩ := h.2.2 hn
    exact ⟨b, off, e, hb, fun j hj => ⟨(hk _ _ hb).trans (hc j hj).1, (hk _ _ hb).trans (hc j hj).2⟩⟩⟩
theorem RdA.more (h : RdA w B A c l) (hB : B ≤ B') : RdA w B' A c l :=
  ⟨h.1, h.2.1, fun hn => by
    obtain ⟨b, off, e, hb, hc⟩ := h.2.2 hn
    exact ⟨b, off, e, by omega, hc⟩⟩
theorem RdA.under (h : RdA w B A c l) (hb : Below B w w') : RdA w' B A c l := h.keep fun b o hlt => hb.cell (p := ⟨b, o, none⟩) hlt
theorem RdA.next (h : RdA w B A c l) (hB : B ≤ w.heap.size) (hb : Below w.heap.size w w') : RdA w' w'.heap.size A c l := ((h.more hB).under hb).more hb.size
theorem RdA.drewN (h : RdA w B A c l) (n : Nat) : RdA (w.drewN n) B A c l := h
theorem RdA.nil_ (w : World) (B : Nat) (A : Option Addr) (c : Nat) (h : c ≤ 9223372036854775807) : RdA w B A c [] := ⟨Nat.zero_le _, h, fun h => by simp at h⟩
theorem RdA.cut (h : RdA w B A c l) (n : Nat) : RdA w B A c (l.take n) := by
  refine ⟨by have := h.1; simp; omega, h.2.1, fun hn => ?_⟩
  have hn' : 0 < l.length := by simp at hn; omega
  obtain ⟨b, off, e, hb, hc⟩ := h.2.2 hn'
  refine ⟨b, off, e, hb, fun j hj => ?_⟩
  have hj' : j < n ∧ j < l.length := by simp at hj; omega
  have e2 : (l.take n).getD j default = l.getD j default := by simp [List.getD, hj'.1]
  rw [e2]
  exact hc j hj'.2
end

theorem guardA : Tryd.prog.eqGuardType Tryd.prog.depth 54 = false := by kernel_rfl
theorem plain_intA : Tryd.prog.plainKey 3 = true := by kernel_rfl
theorem plain_strA : Tryd.prog.plainKey 9 = true := by kernel_rfl
theorem eqA (a b : Int) (s t : ByteArray) (W : World) : (Op.equalIn 10000 54 (.agg #[.int .i64 a, .string s]) (.agg #[.int .i64 b, .string t])).run Tryd.prog W = .ok (a == b && (s.toList == t.toList)) W := by
  refine (run_equalIn_struct W 9999 54 _ _ (by kernel_rfl) (by kernel_rfl)).trans ?_
  have h1 : ∀ (xs : Array Value) (j : Nat) (v : Value) (W : World), xs[j]? = some v → (Go.part 3 xs j).run Tryd.prog W = .ok v W := fun xs j v W h => run_part_plain W plain_intA h
  have h2 : ∀ (xs : Array Value) (j : Nat) (v : Value) (W : World), xs[j]? = some v → (Go.part 9 xs j).run Tryd.prog W = .ok v W := fun xs j v W h => run_part_plain W plain_strA h
  have e1 := h1 #[.int .i64 a, .string s] 0 _ W rfl
  have e2 := h1 #[.int .i64 b, .string t] 0 _ W rfl
  have e3 := h2 #[.int .i64 a, .string s] 1 _ W rfl
  have e4 := h2 #[.int .i64 b, .string t] 1 _ W rfl
  have e5 := run_equalIn_int (P := Tryd.prog) W 9998 3 .i64 .i64 a b Tryd.underlying3
  have e6 := run_equalIn_string (P := Tryd.prog) W 9998 9 s t Tryd.underlying9
  simp only [Program.fieldsOf, Tryd.underlying54, Op.eqFields]
  cases h : (a == b)
  · simp [Sem.run_bind, e1, e2, e5, h, Result.andThen_ok]
  · cases h' : (s.toList == t.toList)
    · rw [h'] at e6
      simp [Sem.run_bind, e1, e2, e3, e4, e5, e6, h, Result.andThen_ok]
    · rw [h'] at e6
      simp [Sem.run_bind, e1, e2, e3, e4, e5, e6, h, Result.andThen_ok]

def RelEA (n : Nat) (l l' : List Att) (W : World) (i : Value) (wr : World) : Prop :=
  ∃ k q : Nat, k ≤ n ∧ i = .int .i64 k ∧ Hid (∀ j, j < k → l.getD j default = l'.getD j default) ∧ wr = W.drewN q

end Go.Proofs.YtbdkopcmdefhoaaDoor
namespace Go.Proofs.YtbdkopcmdefhoaaDoor
open Go.RowKit
set_option linter.unusedVariables false

/-- A text of one byte. -/
structure One (s : ByteArray) : Prop where
  size : s.size = 1
  low : ∀ h : 0 < s.size, s[0].toNat < 128

set_option maxRecDepth 100000 in
set_option maxHeartbeats 2000000 in
theorem valid_one (w : World) (g off c x : Nat) (hc : 1 ≤ c) (hc63 : c ≤ 9223372036854775807) (hx : x < 128) (hcell : w.cell? ⟨g, off, none⟩ = some (.int .u8 (x : Int))) :
    Calls Tryd.prog 54 #[.slice (some ⟨g, off, none⟩) 1 c] w fun e w' => e = .returned (.bool true) ∧ ∃ q, w' = w.drewN q := by
  have b1 : decide ((x : Int) < 128) = true := decide_eq_true (by omega)
  have hcI : (1 : Int) ≤ (c : Int) := by omega
  go_enter Tryd.func54, Tryd.ntmps54
  go_wp2_with fail
  refine wp_loop_rounds 2 ?_
  rw [rounds_succ]
  go_wp2_with fail
  rw [rounds_succ]
  go_wp2_with fail
  go_ret
  exact ⟨rfl, 0, rfl⟩

set_option maxRecDepth 100000 in
theorem heldA_any (w : World) (A K : Option Addr) (n c nc kc : Nat) :
    Calls Tryd.prog 26 #[.agg #[.int .u8 12, .slice A n c, .slice none 0 0], .int .u8 12] w fun e w' => e = .returned (.tuple #[.slice A n c, .bool true]) ∧ Below w.heap.size w w' := by
  have hbox := Holds.fresh w 41 #[.int .u8 12, .slice A n c, .slice none 0 0]
  have hbel : Below w.heap.size w (w.alloc (.cells #[.int .u8 12, .slice A n c, .slice none 0 0] 41)) := (Below.refl _ _).alloc (Nat.le_refl _) _
  go_enter Tryd.func26, Tryd.ntmps26
  go_wp2_with fail
  go_ret2
  exact ⟨rfl, hbel⟩

set_option maxRecDepth 100000 in
set_option maxHeartbeats 1000000 in
theorem getText_one (w : World) (B g off c x : Nat) (hr : Rd .u8 w B (some ⟨g, off, none⟩) c [x]) (hB : B ≤ w.heap.size) (hx : x < 128) :
    Calls Tryd.prog 42 #[.agg #[.int .u8 12, .slice (some ⟨g, off, none⟩) 1 c, .slice none 0 0]] w fun e w' => e = .returned (.tuple #[.string (str [x]), .bool true]) ∧ Below w.heap.size w w' := by
  have hbox := Holds.fresh w 41 #[.int .u8 12, .slice (some ⟨g, off, none⟩) 1 c, .slice none 0 0]
  have hbel : Below w.heap.size w (w.alloc (.cells #[.int .u8 12, .slice (some ⟨g, off, none⟩) 1 c, .slice none 0 0] 41)) := (Below.refl _ _).alloc (Nat.le_refl _) _
  have hr1 := hr.alloc hB (.cells #[.int .u8 12, .slice (some ⟨g, off, none⟩) 1 c, .slice none 0 0] 41)
  go_enter Tryd.func42, Tryd.ntmps42
  go_wp2_with fail
  generalize w.alloc (.cells #[.int .u8 12, .slice (some ⟨g, off, none⟩) 1 c, .slice none 0 0] 41) = W at *
  refine (heldA_any W (some ⟨g, off, none⟩) none 1 c 0 0).mono ?_
  rintro e w1 ⟨rfl, hb1⟩
  have hr2 := hr1.under (hb1.mono (Nat.le_trans hB hbel.size))
  have hbel2 := hbel.trans (hb1.mono hbel.size)
  clear hb1 hr1 hbox hbel
  obtain ⟨b', off', x', e0, hb', hx', Hx'⟩ := hr2.at_ (i := 0) (by simp)
  obtain ⟨rfl, rfl⟩ : g = b' ∧ off = off' := by injection e0 with e0; injection e0 with e1 e2; exact ⟨e1, e2⟩
  obtain rfl : x' = x := Hx'.out
  go_wp2_with fail
  refine (valid_one w1 g off c x' hr2.1 hr2.2.1 hx hx').mono ?_
  rintro e w2 ⟨rfl, q, rfl⟩
  have hcv := conv_str (n := 1) (hr2.drewN q) rfl (fun y hy => by simp at hy; omega)
  have hbel3 : Below w.heap.size w (w1.drewN q) := ⟨hbel2.os, hbel2.tape, hbel2.output, hbel2.size, hbel2.block⟩
  generalize w1.drewN q = w3 at *
  go_wp2_with fail
  go_ret2
  exact ⟨rfl, hbel3⟩
end Go.Proofs.YtbdkopcmdefhoaaDoor
namespace Go.Proofs.YtbdkopcmdefhoaaDoor
open Go.RowKit
set_option linter.unusedVariables false
set_option linter.unusedSimpArgs false

theorem str_all (t : ByteArray) : ∃ l : List Nat, t = str l ∧ ∀ x ∈ l, x < 256 := by
  refine ⟨t.data.toList.map UInt8.toNat, ?_, fun x hx => ?_⟩
  · cases t with
    | mk d =>
      unfold str
      congr 1
      rw [List.map_map]
      have : (UInt8.ofNat ∘ UInt8.toNat) = id := by funext x; simp
      rw [this, List.map_id]
  · obtain ⟨y, _, rfl⟩ := List.mem_map.1 hx
    exact y.toNat_lt
/-- A text's bytes. -/
def bts (s : ByteArray) : List Nat := s.data.toList.map UInt8.toNat
theorem bts_oct (s : ByteArray) : ∀ x ∈ bts s, x < 256 := fun x hx => by
  obtain ⟨y, _, rfl⟩ := List.mem_map.1 hx
  exact y.toNat_lt
theorem str_bts (s : ByteArray) : str (bts s) = s := by
  cases s with
  | mk d =>
    unfold str bts
    congr 1
    rw [List.map_map]
    have : (UInt8.ofNat ∘ UInt8.toNat) = id := by funext x; simp
    rw [this, List.map_id]
theorem bts_str {l : List Nat} (ho : ∀ x ∈ l, x < 256) : bts (str l) = l := by
  have h := str_bts (str l)
  exact str_inj (bts_oct _) ho h
theorem bts_len (s : ByteArray) : (bts s).length = s.size := by rw [bts, List.length_map]; rfl
/-- Is there such a kind? -/
def kdOk (k : Int) : Bool := decide (k = 3 ∨ k = 6 ∨ k = 10 ∨ k = 11)
/-- May it be a part of a name? -/
def atOk (a : Att) : Bool := kdOk a.k && decide (0 < (bts a.s).length) && textOk (bts a.s)
/-- May it be a name? -/
def dnOk (l : List Att) : Bool := decide (1 ≤ l.length ∧ l.length ≤ 4 ∧ ∀ i, i < l.length → atOk (l.getD i default) = true)
theorem dnOk_iff {l : List Att} : dnOk l = true ↔ 1 ≤ l.length ∧ l.length ≤ 4 ∧ ∀ i, i < l.length → atOk (l.getD i default) = true := by unfold dnOk; rw [decide_eq_true_iff]
theorem dnOk_no {l : List Att} (h : ¬ (1 ≤ l.length ∧ l.length ≤ 4 ∧ ∀ i, i < l.length → atOk (l.getD i default) = true)) : dnOk l = false := by rw [Bool.eq_false_iff]; exact fun hh => h (dnOk_iff.1 hh)
theorem atOk_iff {a : Att} : atOk a = true ↔ kdOk a.k = true ∧ 0 < (bts a.s).length ∧ textOk (bts a.s) = true := by unfold atOk; rw [Bool.and_eq_true, Bool.and_eq_true, decide_eq_true_iff, and_assoc]
theorem kd_cases {k : Int} (h : kdOk k = true) : k = 3 ∨ k = 6 ∨ k = 10 ∨ k = 11 := of_decide_eq_true h
/-- A part's thing, a name's thing. -/
def atTr (a : Att) : Tr := .mk 49 [] [.mk 48 [] [.mk 6 [85, 4, a.k.toNat] [], .mk 12 (bts a.s) []]]
def dnTr (l : List Att) : Tr := .mk 48 [] (l.map atTr)
theorem empty_no {s : ByteArray} (h : 0 < (bts s).length) : s.toList.isEmpty = false := by
  rw [Lib.toList_data, List.isEmpty_eq_false_iff]
  intro e
  unfold bts at h
  rw [List.length_map, e] at h
  exact absurd h (by simp)
theorem empty_yes {s : ByteArray} (h : ¬ 0 < (bts s).length) : s.toList.isEmpty = true := by
  unfold bts at h
  rw [List.length_map] at h
  rw [Lib.toList_data, List.eq_nil_of_length_eq_zero (show s.data.toList.length = 0 by omega)]
  rfl
set_option maxRecDepth 100000 in
theorem kind_any (w : World) (k : Int) (b : Bool) (hb : kdOk k = b) : Calls Tryd.prog 43 #[.int .i64 k] w fun e w' => e = .returned (.bool b) ∧ w = w' := by
  have HB := Lib.hid hb
  by_cases h3 : k = 3
  · have e3 : (k == 3) = true := by simp [h3]
    have HV : Hid (b = true) := Lib.hid (by rw [← HB.out]; exact decide_eq_true (by omega))
    clear hb h3
    go_enter Tryd.func43, Tryd.ntmps43
    go_wp2_with fail
    go_ret
    rw [HV.out]; exact ⟨rfl, rfl⟩
  have e3 : (k == 3) = false := by simp [h3]
  by_cases h6 : k = 6
  · have e6 : (k == 6) = true := by simp [h6]
    have HV : Hid (b = true) := Lib.hid (by rw [← HB.out]; exact decide_eq_true (by omega))
    clear hb h3 h6
    go_enter Tryd.func43, Tryd.ntmps43
    go_wp2_with fail
    go_ret
    rw [HV.out]; exact ⟨rfl, rfl⟩
  have e6 : (k == 6) = false := by simp [h6]
  by_cases h10 : k = 10
  · have e10 : (k == 10) = true := by simp [h10]
    have HV : Hid (b = true) := Lib.hid (by rw [← HB.out]; exact decide_eq_true (by omega))
    clear hb h3 h6 h10
    go_enter Tryd.func43, Tryd.ntmps43
    go_wp2_with fail
    go_ret
    rw [HV.out]; exact ⟨rfl, rfl⟩
  have e10 : (k == 10) = false := by simp [h10]
  by_cases h11 : k = 11
  · have e11 : (k == 11) = true := by simp [h11]
    have HV : Hid (b = true) := Lib.hid (by rw [← HB.out]; exact decide_eq_true (by omega))
    clear hb h3 h6 h10 h11
    go_enter Tryd.func43, Tryd.ntmps43
    go_wp2_with fail
    go_ret
    rw [HV.out]; exact ⟨rfl, rfl⟩
  have e11 : (k == 11) = false := by simp [h11]
  have HV : Hid (b = false) := Lib.hid (by rw [← HB.out]; exact decide_eq_false (by omega))
  clear hb h3 h6 h10 h11
  go_enter Tryd.func43, Tryd.ntmps43
  go_wp2_with fail
  go_ret
  rw [HV.out]; exact ⟨rfl, rfl⟩
end Go.Proofs.YtbdkopcmdefhoaaDoor
namespace Go.Proofs.YtbdkopcmdefhoaaDoor
open Go.RowKit
set_option linter.unusedVariables false
set_option linter.unusedSimpArgs false
attribute [local go_sem ↓] Go.wp_at_zero Go.wp_at_succ

theorem MadeT.prim {w w' : World} {xs : List Nat} {tag : Nat} {b : List Nat} {e : Ending} (h : MadeT w xs (.mk tag b []) e w') : ∃ A c K kc, e = .returned (.agg #[.int .u8 (tag : Int), .slice A b.length c, .slice K 0 kc]) ∧ Rd .u8 w' w'.heap.size A c b ∧ Below w.heap.size w w' := by
  obtain ⟨lt, rfl, hlt, hoff, hb⟩ := h
  obtain ⟨h1, h2, h3⟩ := lt_parts hlt
  rcases lt with ⟨t, ba, bc, body, ka, kc, kids⟩
  simp only [Lt.tag, Lt.body, Lt.kids] at h1 h2 h3
  subst h1 h2
  refine ⟨ba, bc, ka, kc, ?_, (ThP.iff.1 hoff.at_).2.1, hb⟩
  rw [List.length_nil] at h3
  show Ending.returned (.agg #[.int .u8 (t : Int), .slice ba body.length bc, .slice ka kids.length kc]) = _
  rw [h3]
theorem tx_back (l : List Nat) : txOf 12 0 l = if textOk l = true then some l else none := by simp [txOf, heldOk]
def TxAgain (w : World) (v : Bool) (e : Ending) (w' : World) : Prop := (∃ s, e = .returned (.tuple #[.string s, .bool v])) ∧ Below w.heap.size w w'
/-- A text made a thing, and read again. -/
theorem text_again (w : World) (n c kc : Nat) (A K : Option Addr) (b : List Nat) (hr : Rd .u8 w w.heap.size A c b) (hn : b.length = n) (ho : ∀ y ∈ b, y < 256) (hT : Lib.Utf8Tabs 1 2 w) (v : Bool) (hv : textOk b = v) :
    Calls Tryd.prog 42 #[.agg #[.int .u8 12, .slice A n c, .slice K 0 kc]] w (TxAgain w v) := by
  have h := getText_any w 12 n c 0 kc _ A K b hr hn (Nat.le_refl _) ho hT
  rw [tx_back] at h
  refine h.mono fun e w' hh => ?_
  obtain ⟨rfl, hb⟩ := hh.one
  have : (if textOk b = true then some b else none : Option (List Nat)).isSome = v := by rw [hv]; cases v <;> rfl
  rw [this]
  exact ⟨⟨_, rfl⟩, hb⟩
set_option maxRecDepth 100000 in
set_option maxHeartbeats 4000000 in
theorem isDn_any (w : World) (B : Nat) (A : Option Addr) (c n : Nat) (l : List Att) (hn : l.length = n) (hr : RdA w B A c l) (hB : B ≤ w.heap.size) (hsz : ∀ x ∈ l, (bts x.s).length ≤ 9223372036854775807) (hT : Lib.Utf8Tabs 1 2 w) :
    Calls Tryd.prog 29 #[.slice A n c] w fun e w' => e = .returned (.bool (dnOk l)) ∧ Below w.heap.size w w' := by
  have hlc : n ≤ c := by rw [← hn]; exact hr.1
  have hc63 := hr.2.1
  obtain ⟨r, hre⟩ : ∃ r, dnOk l = r := ⟨_, rfl⟩
  rw [hre]
  have HR := Lib.hid hre
  have HN := Lib.hid hn
  have HT := Lib.hid hT
  have HRD := Lib.hid hr
  have HSZ := Lib.hid hsz
  clear hre hn hT hr hsz
  by_cases h1 : n < 1
  · have d1 : decide ((n : Int) < 1) = true := decide_eq_true (by omega)
    have hf : r = false := by rw [← HR.out]; exact dnOk_no (by rw [HN.out]; omega)
    have HF := Lib.hid hf
    clear hf
    go_enter Tryd.func29, Tryd.ntmps29
    go_wp2_with fail
    go_ret
    rw [HF.out]; exact ⟨rfl, Below.refl _ _⟩
  have d1 : decide ((n : Int) < 1) = false := decide_eq_false (by omega)
  by_cases h4 : 4 < n
  · have d4 : decide ((4 : Int) < (n : Int)) = true := decide_eq_true (by omega)
    have hf : r = false := by rw [← HR.out]; exact dnOk_no (by rw [HN.out]; omega)
    have HF := Lib.hid hf
    clear hf
    go_enter Tryd.func29, Tryd.ntmps29
    go_wp2_with fail
    go_ret
    rw [HF.out]; exact ⟨rfl, Below.refl _ _⟩
  have d4 : decide ((4 : Int) < (n : Int)) = false := decide_eq_false (by omega)
  obtain ⟨g, off, rfl, hg, hcs⟩ := HRD.out.2.2 (by rw [HN.out]; omega)
  have HCS := Lib.hid hcs
  clear hcs
  go_enter Tryd.func29, Tryd.ntmps29
  go_wp2_with fail
  go_loopw [17] (fun iv wr => ∃ k : Nat, k ≤ n ∧ iv = .int .i64 (k : Int) ∧ Hid (∀ j, j < k → atOk (l.getD j default) = true) ∧ Below w.heap.size w wr) (fun iv _ => n - (intOf iv).toNat)
  case atStart => exact ⟨0, by omega, rfl, Lib.hid fun j hj => by omega, Below.refl _ _⟩
  case round =>
    obtain ⟨k, hk, rfl, HA, hB'⟩ := hrel
    have HB := Lib.hid hB'
    clear hB'
    by_cases hlt : k < n
    · obtain ⟨q0, q1⟩ := HCS.out k (by rw [HN.out]; exact hlt)
      have c0 := (HB.out.cell (p := ⟨g, off + k * 2, none⟩) (by show g < _; omega)).trans q0
      have c1 := (HB.out.cell (p := ⟨g, off + k * 2 + 1, none⟩) (by show g < _; omega)).trans q1
      obtain ⟨a, ha⟩ : ∃ a, a = l.getD k default := ⟨_, rfl⟩
      rw [← ha] at c0 c1
      have HAA := Lib.hid ha
      obtain ⟨kd, s⟩ := a
      dsimp only at c0 c1
      obtain ⟨L, rfl, hoL⟩ := str_all s
      have HOL := Lib.hid hoL
      clear q0 q1 ha hoL
      have hH := Holds.fresh wr 54 #[.int .i64 kd, .string (str L)]
      have HQ1 : Hid (Below w.heap.size w (wr.alloc (.cells #[.int .i64 kd, .string (str L)] 54))) := Lib.hid (HB.out.alloc HB.out.size _)
      have z0 := hH.cell 0
      have z1 := hH.cell 1
      clear hH
      rcases hkd : kdOk kd with _ | _
      · have hf : r = false := by rw [← HR.out]; exact dnOk_no fun h => by have := (atOk_iff.1 (h.2.2 k (by rw [HN.out]; exact hlt))).1; rw [← HAA.out, hkd] at this; cases this
        have HF := Lib.hid hf
        have HK := Lib.hid (kind_any (wr.alloc (.cells #[.int .i64 kd, .string (str L)] 54)) kd false hkd)
        clear hf hkd
        go_wp2_with fail
        refine HK.out.mono ?_
        rintro e w2 ⟨rfl, rfl⟩
        go_wp2_with fail
        go_ret
        rw [HF.out]; exact ⟨rfl, HQ1.out⟩
      have HK := Lib.hid (kind_any (wr.alloc (.cells #[.int .i64 kd, .string (str L)] 54)) kd true hkd)
      have HKD := Lib.hid hkd
      clear hkd
      by_cases hem : 0 < L.length
      case neg =>
        have hf : r = false := by rw [← HR.out]; exact dnOk_no fun h => by have := (atOk_iff.1 (h.2.2 k (by rw [HN.out]; exact hlt))).2.1; rw [← HAA.out] at this; exact hem (by rwa [bts_str HOL.out] at this)
        have HF := Lib.hid hf
        have e0 := empty_yes (s := str L) (by rw [bts_str HOL.out]; exact hem)
        clear hf
        go_wp2_with fail
        refine HK.out.mono ?_
        rintro e w2 ⟨rfl, rfl⟩
        go_wp2_with fail
        go_ret
        rw [HF.out]; exact ⟨rfl, HQ1.out⟩
      have e0 := empty_no (s := str L) (by rw [bts_str HOL.out]; exact hem)
      have HEM := Lib.hid hem
      clear hem
      obtain ⟨tk, htk⟩ : ∃ tk, textOk L = tk := ⟨_, rfl⟩
      have HTK := Lib.hid htk
      clear htk
      have h100 : L.length ≤ 9223372036854775807 := by
        have := HSZ.out (l.getD k default) (getD_mem (by rw [HN.out]; exact hlt))
        rw [← HAA.out] at this
        rwa [bts_str HOL.out] at this
      go_wp2_with fail
      refine HK.out.mono ?_
      rintro e w2 ⟨rfl, rfl⟩
      go_wp2_with fail
      refine (text_any _ [] L HOL.out h100 (by simp)).mono ?_
      intro e w3 hm
      obtain ⟨a3, d3, K3, e3, rfl, hr3, hb⟩ := hm.prim
      have HQ3 := Lib.hid (HQ1.out.trans (hb.mono HQ1.out.size))
      obtain ⟨m3, hm3⟩ : ∃ m, L.length = m := ⟨_, rfl⟩
      have HTX := Lib.hid (text_again w3 m3 d3 e3 a3 K3 L hr3 hm3 HOL.out (Utf8Tabs_below HT.out HQ3.out) tk HTK.out)
      rw [hm3]
      clear hm hb hr3 hm3 HK
      go_wp2_with fail
      refine HTX.out.mono ?_
      rintro e w4 ⟨⟨s4, rfl⟩, hb⟩
      have HQ4 := Lib.hid (HQ3.out.trans (hb.mono HQ3.out.size))
      clear hb HTX
      cases tk
      · have hf : r = false := by rw [← HR.out]; exact dnOk_no fun h => by have := (atOk_iff.1 (h.2.2 k (by rw [HN.out]; exact hlt))).2.2; rw [← HAA.out] at this; rw [bts_str HOL.out, HTK.out] at this; cases this
        have HF := Lib.hid hf
        clear hf
        go_wp2_with fail
        go_ret
        rw [HF.out]; exact ⟨rfl, HQ4.out⟩
      · have HA2 : Hid (∀ j, j < k + 1 → atOk (l.getD j default) = true) := Lib.hid fun j hj => by
          rcases Nat.lt_or_ge j k with h | h
          · exact HA.out j h
          · obtain rfl : j = k := by omega
            rw [← HAA.out]
            exact atOk_iff.2 ⟨HKD.out, by rw [bts_str HOL.out]; exact HEM.out, by rw [bts_str HOL.out]; exact HTK.out⟩
        go_wp2_with fail
        go_roundw
        case rel => exact ⟨k + 1, by omega, by go_num, HA2, HQ4.out⟩
        case measure => simp [intOf]; omega
    · obtain rfl : k = n := by omega
      have hf : r = true := by rw [← HR.out]; exact dnOk_iff.2 ⟨by rw [HN.out]; omega, by rw [HN.out]; omega, fun i hi => HA.out i (by rw [HN.out] at hi; exact hi)⟩
      have HF := Lib.hid hf
      clear hf
      go_wp2_with fail
      go_ret
      rw [HF.out]; exact ⟨rfl, HB.out⟩
end Go.Proofs.YtbdkopcmdefhoaaDoor
namespace Go.Proofs.YtbdkopcmdefhoaaDoor
open Go.RowKit
set_option linter.unusedVariables false
set_option linter.unusedSimpArgs false

/-- An append to bytes that are full. -/
theorem run_grow {P : Program} (w : World) (t tx ty e : TypeId) (ht : P.underlying t = some (.slice e)) (htx : P.underlying tx = some (.slice e)) (hi : (P.info? e).map (fun i => (i.zero, i.size, i.bytes)) = some (some (.int .u8 0), 1, 1))
    {B B1 B2 : Nat} {A A2 : Option Addr} {c n c2 m : Nat} {l news : List Nat} (hrd : Rd .u8 w B1 A c l) (hn : l.length = n) (hr : Rd .u8 w B2 A2 c2 news) (hm : news.length = m) (hB : B ≤ w.heap.size) (hsz : n + m ≤ 1000000) (hroom : ¬ n + m ≤ c) :
    ∃ c' w', (Builtin.append_ #[t, tx] ty #[.slice A n c, .slice A2 m c2]).run P w = .ok (.slice (some ⟨w.heap.size, 0, none⟩) (n + m) c') w' ∧ Mine e w' B (some ⟨w.heap.size, 0, none⟩) c' (l ++ news) ∧ Below w.heap.size w w' := by
  obtain ⟨i, hi', hz, hsize, hbytes⟩ := info_parts hi
  have hsrc := src_of_rd (P := P) htx hr hm
  rw [← hsize] at hsrc
  have hold : (Builtin.firstCells i.size n (.slice A n c)).run P w.drew = .ok (bvals l).toArray w.drew := by
    have := (src_of_rd (P := P) (tx := t) ht (w := w.drew) (B := B1) (A := A) (c := c) (n := n) (l := l) hrd hn).cells
    rw [hsize]; exact this
  have hfit : Builtin.nextslicecap (n + m) c * i.bytes ≤ 281474976710656 := growslice_fits (by omega) (by rw [hbytes]; omega)
  have hrun := run_append_grow_src (P := P) w t tx ty e i (.int .u8 0) ht hi' hz A n c (bvals l) hold _ m (bvals news) hsrc (by omega) (by omega) hfit
  have hge := grownCap_ge w (n + m) c e
  have hcm : grownCap w (n + m) c e ≤ maxLen := grownCap_le_maxLen w (n + m) c e (by unfold maxLen; omega)
  refine ⟨_, _, hrun, .inr ⟨w.heap.size, 0, _, rfl, hB, heap_alloc_new w.drew _, by rw [List.length_append]; omega, by unfold maxLen at hcm; exact hcm, ?_, fun j hj => ?_⟩, ⟨rfl, rfl, rfl, by simp, fun k hk => Go.heap_alloc_old w.drew _ hk⟩⟩
  · simp only [Array.size_append, List.size_toArray, size_zeroCells, List.length_append, bvals_length]
    rw [show (Value.int IntKind.u8 0).cells.size = 1 from rfl, Nat.mul_one]
    omega
  · rw [List.length_append] at hj
    have e1 : bvals l ++ bvals news = bvals (l ++ news) := by simp [bvals]
    rw [Nat.zero_add, e1, Array.getElem?_append_left (by simp [bvals_length]; omega), List.getElem?_toArray]
    exact bvals_at _ (by rw [List.length_append]; exact hj)
/-- A thing and the cells that a call answers. -/
def Of6 (lt : Lt) (t : Nat) (a : Option Addr) (n c : Nat) (k : Option Addr) (m d : Nat) : Prop := lcell lt = [.int .u8 (t : Int), .slice a n c, .slice k m d]
theorem MadeT.six {w w' : World} {xs : List Nat} {T : Tr} {e : Ending} (h : MadeT w xs T e w') : ∃ (lt : Lt) (t : Nat) (a : Option Addr) (n c : Nat) (k : Option Addr) (m d : Nat), e = .returned (.agg #[.int .u8 (t : Int), .slice a n c, .slice k m d]) ∧ Of6 lt t a n c k m d ∧ lt.t = T ∧ Off xs (ThP lt) w' ∧ Below w.heap.size w w' := by
  obtain ⟨lt, rfl, h1, h2, h3⟩ := h
  exact ⟨lt, _, _, _, _, _, _, _, rfl, rfl, h1, h2, h3⟩
theorem Of6.val {lt : Lt} {t n c m d : Nat} {a k : Option Addr} (h : Of6 lt t a n c k m d) : lt.val = .agg #[.int .u8 (t : Int), .slice a n c, .slice k m d] := by
  unfold Lt.val
  rw [← lcell_cells, show lcell lt = _ from h]
theorem Kids.push6 {xs : List Nat} {A : Option Addr} {c n : Nat} {ks : List Lt} {w w' : World} {lt : Lt} {t n2 c2 m d : Nat} {a k : Option Addr} {g' c' : Nat} (h : Kids xs A c n ks w) (ht : Off (bl A ++ xs) (ThP lt) w) (h6 : Of6 lt t a n2 c2 k m d)
    (ho : OwnV 41 3 w' (some ⟨g', 0, none⟩) c' (n + 1) (ks.flatMap lcell ++ [.int .u8 (t : Int), .slice a n2 c2, .slice k m d])) (hg : w.grownBy w' (blockOf A))
    (ha : blockOf A = some g' ∨ g' = w.heap.size) (hx : ∀ x ∈ xs, x < w.heap.size) : Kids xs (some ⟨g', 0, none⟩) c' (n + 1) (ks ++ [lt]) w' := h.push ht (by rw [show lcell lt = _ from h6]; exact ho) hg ha hx
theorem one6 {t n c m d : Nat} {a k : Option Addr} : ∀ u ∈ [Value.int .u8 (t : Int), .slice a n c, .slice k m d], u.oneCell' = true := by
  intro u hu
  simp only [List.mem_cons, List.not_mem_nil, or_false] at hu
  rcases hu with rfl | rfl | rfl <;> rfl
/-- Things laid at once, one or two. -/
theorem row6 {xs : List Nat} {w : World} {lt : Lt} {t n c m d : Nat} {a k : Option Addr} (h : Off xs (ThP lt) w) (h6 : Of6 lt t a n c k m d) (hx : w.heap.size ∉ xs) : Off xs (KiP (some ⟨w.heap.size, 0, none⟩) 1 [lt]) (w.alloc (.cells #[.int .u8 (t : Int), .slice a n c, .slice k m d] 41)) := by
  have := off_row (l := [lt]) (fun x hx2 => by rw [List.mem_singleton.1 hx2]; exact h) hx (by simp)
  rwa [show ([lt].flatMap lcell).toArray = #[.int .u8 (t : Int), .slice a n c, .slice k m d] by rw [List.flatMap_cons, List.flatMap_nil, List.append_nil, show lcell lt = _ from h6]] at this
theorem row66 {xs : List Nat} {w : World} {lt lt' : Lt} {t n c m d t' n' c' m' d' : Nat} {a k a' k' : Option Addr} (h : Off xs (ThP lt) w) (h6 : Of6 lt t a n c k m d) (h' : Off xs (ThP lt') w) (h6' : Of6 lt' t' a' n' c' k' m' d') (hx : w.heap.size ∉ xs) :
    Off xs (KiP (some ⟨w.heap.size, 0, none⟩) 2 [lt, lt']) (w.alloc (.cells #[.int .u8 (t : Int), .slice a n c, .slice k m d, .int .u8 (t' : Int), .slice a' n' c', .slice k' m' d'] 41)) := by
  have := off_row (l := [lt, lt']) (fun x hx2 => by
    rcases List.mem_cons.1 hx2 with rfl | hx2
    · exact h
    · rw [List.mem_singleton.1 hx2]; exact h') hx (by simp)
  rwa [show ([lt, lt'].flatMap lcell).toArray = #[.int .u8 (t : Int), .slice a n c, .slice k m d, .int .u8 (t' : Int), .slice a' n' c', .slice k' m' d'] by rw [List.flatMap_cons, List.flatMap_cons, List.flatMap_nil, List.append_nil, show lcell lt = _ from h6, show lcell lt' = _ from h6']; rfl] at this
theorem bytes_block {W : World} {g : Nat} {cs : Array Value} {mk : Nat × Nat} {b : List Nat} (h : W.heap[g]? = some (.cells cs 5 mk)) (hc : cs = (bvals b).toArray) (hl : b.length ≤ 100000) : Rd .u8 W W.heap.size (some ⟨g, 0, none⟩) b.length b :=
  ⟨Nat.le_refl _, by omega, fun _ => ⟨g, 0, rfl, (Array.getElem?_eq_some_iff.1 h).1, fun j hj => by
    rw [Nat.zero_add, cell_of_row W g j cs 5 mk h, hc, List.getElem?_toArray]
    exact bvals_at b hj⟩⟩
theorem Att.v_take {l : List Att} {i : Nat} (h : i < l.length) : (l.take (i + 1)).map atTr = (l.take i).map atTr ++ [atTr (l.getD i default)] := by
  rw [List.take_succ_eq_append_getElem h, List.map_append]
  simp [List.getD, h]
end Go.Proofs.YtbdkopcmdefhoaaDoor
namespace Go.Proofs.YtbdkopcmdefhoaaDoor
open Go.RowKit
set_option linter.unusedVariables false
set_option linter.unusedSimpArgs false
attribute [local go_sem ↓] Go.wp_at_zero Go.wp_at_succ

set_option maxRecDepth 100000 in
set_option maxHeartbeats 16000000 in
theorem dnNode_any (w : World) (xs : List Nat) (B : Nat) (A : Option Addr) (c n : Nat) (l : List Att) (hn : l.length = n) (hr : RdA w B A c l) (hB : B ≤ w.heap.size) (hok : dnOk l = true) (hT : Lib.Utf8Tabs 1 2 w) (hxs : ∀ x ∈ xs, x < w.heap.size) :
    Calls Tryd.prog 31 #[.slice A n c] w (MadeT w xs (dnTr l)) := by
  have hlc : n ≤ c := by rw [← hn]; exact hr.1
  have hc63 := hr.2.1
  have hn4 : n ≤ 4 := by rw [← hn]; exact (dnOk_iff.1 hok).2.1
  have hn1 : 1 ≤ n := by rw [← hn]; exact (dnOk_iff.1 hok).1
  have HOK := Lib.hid hok
  have HN := Lib.hid hn
  have HRD := Lib.hid hr
  have HSZ : Hid (∀ x ∈ l, (bts x.s).length ≤ 64) := Lib.hid fun x hx => by
    obtain ⟨j, hj, rfl⟩ := List.getElem_of_mem hx
    have h := (atOk_iff.1 ((dnOk_iff.1 hok).2.2 j hj)).2.2
    have e : l.getD j default = l[j] := by simp [List.getD, hj]
    rw [e] at h
    unfold textOk at h
    simp only [Bool.and_eq_true, decide_eq_true_eq] at h
    exact h.1
  obtain ⟨V, hV⟩ : ∃ V, V = w.alloc (.cells #[.int .u8 0, .slice none 0 0, .slice none 0 0] 41) := ⟨_, rfl⟩
  have hz : Holds V w.heap.size 41 #[.int .u8 0, .slice none 0 0, .slice none 0 0] := by rw [hV]; exact Holds.fresh _ _ _
  have HB0 : Hid (Below w.heap.size w V) := Lib.hid (by rw [hV]; exact (Below.refl _ _).alloc (Nat.le_refl _) _)
  have hVs : w.heap.size < V.heap.size := hz.lt
  have HXS : Hid (∀ W : World, V.heap.size ≤ W.heap.size → ∀ x ∈ w.heap.size :: xs, x < W.heap.size) := Lib.hid fun W hW x hx => by
    rcases List.mem_cons.1 hx with rfl | hx
    · omega
    · have := hxs x hx; omega
  have HIS := Lib.hid (isDn_any V B A c n l hn (hr.under (HB0.out.mono hB)) (Nat.le_trans hB HB0.out.size) (fun x hx => by have := HSZ.out x hx; omega) (Utf8Tabs_below hT HB0.out))
  rw [hok] at HIS
  have HV := Lib.hid hV
  obtain ⟨g, off, rfl, hg, hcs⟩ := HRD.out.2.2 (by rw [HN.out]; omega)
  have HCS := Lib.hid hcs
  have HZ := Lib.hid hz
  clear hok hn hr hxs hz hV hcs hT
  go_enter Tryd.func31, Tryd.ntmps31
  go_wp2_with fail
  rw [← HV.out]
  clear HV
  refine HIS.out.mono ?_
  rintro e V2 ⟨rfl, hb⟩
  have HB2 := Lib.hid (HB0.out.trans (hb.mono HB0.out.size))
  have HZ2 := Lib.hid (HZ.out.under hb hVs)
  have HVV : Hid (V.heap.size ≤ V2.heap.size) := Lib.hid hb.size
  clear hb HIS
  go_wp2_with fail
  go_loopw [3, 13] (fun kv iv wr => ∃ (i : Nat) (KA : Option Addr) (d : Nat) (ks : List Lt), i ≤ n ∧ iv = .int .i64 (i : Int) ∧ kv = .slice KA i d ∧ Kids (w.heap.size :: xs) KA d i ks wr ∧ Hid (ks.map Lt.t = (l.take i).map atTr) ∧ Hid (∀ g, blockOf KA = some g → w.heap.size < g) ∧ Holds wr w.heap.size 41 #[.int .u8 0, .slice none 0 0, .slice none 0 0] ∧ V.heap.size ≤ wr.heap.size ∧ Below w.heap.size w wr) (fun _ iv _ => n - (intOf iv).toNat)
  case atStart => exact ⟨0, none, 0, [], by omega, rfl, rfl, Kids.nil _ _, rfl, fun g hg => by simp [blockOf] at hg, HZ2.out, HVV.out, HB2.out⟩
  case round =>
    obtain ⟨i, KA, d, ks, hi, rfl, rfl, hK, HT, HG, hZ, hVW, hB'⟩ := hrel
    have HVW := Lib.hid hVW
    have HB := Lib.hid hB'
    have HZr := Lib.hid hZ
    have HK := Lib.hid hK
    have hwr : w.heap.size < wr.heap.size := hZ.lt
    clear hVW hB' hZ hK
    by_cases hlt : i < n
    · obtain ⟨q0, q1⟩ := HCS.out i (by rw [HN.out]; exact hlt)
      have c0 := (HB.out.cell (p := ⟨g, off + i * 2, none⟩) (by show g < _; omega)).trans q0
      have c1 := (HB.out.cell (p := ⟨g, off + i * 2 + 1, none⟩) (by show g < _; omega)).trans q1
      have hgw : g < wr.heap.size := by omega
      have HSZ1 := HSZ.out (l.getD i default) (getD_mem (by rw [HN.out]; exact hlt))
      have hat := (dnOk_iff.1 HOK.out).2.2 i (by rw [HN.out]; exact hlt)
      have HV1 : Hid ((l.take (i + 1)).map atTr = (l.take i).map atTr ++ [atTr (l.getD i default)]) := Lib.hid (Att.v_take (by rw [HN.out]; exact hlt))
      obtain ⟨a, ha⟩ : ∃ a, a = l.getD i default := ⟨_, rfl⟩
      rw [← ha] at c0 c1 HSZ1 hat HV1
      clear ha q0 q1
      obtain ⟨kd, s⟩ := a
      dsimp only at c0 c1 HSZ1
      obtain ⟨L, rfl, hoL⟩ := str_all s
      rw [bts_str hoL] at HSZ1
      have HOL := Lib.hid hoL
      have hkd : 0 ≤ kd ∧ kd < 256 := by
        have h : kd = 3 ∨ kd = 6 ∨ kd = 10 ∨ kd = 11 := kd_cases (atOk_iff.1 hat).1
        omega
      obtain ⟨m, rfl⟩ : ∃ m : Nat, kd = (m : Int) := ⟨kd.toNat, by omega⟩
      have hm256 : m < 256 := by omega
      have HTA : Hid (atTr ⟨(m : Int), str L⟩ = .mk 49 [] [.mk 48 [] [.mk 6 [85, 4, m] [], .mk 12 L []]]) := Lib.hid (by unfold atTr; rw [bts_str hoL]; simp)
      rw [HTA.out] at HV1
      have HBD : Hid (∀ W, Below wr.heap.size wr W → ∀ x ∈ bl KA ++ w.heap.size :: xs, x < W.heap.size) := Lib.hid fun W hW x hx => by
        have h1 := HK.out.bound (HXS.out wr HVW.out) x hx
        have h2 := hW.size
        omega
      have HNX : Hid (∀ W, Below wr.heap.size wr W → W.heap.size ∉ bl KA ++ w.heap.size :: xs) := Lib.hid fun W hW hx => by
        have := HBD.out W hW _ hx
        omega
      clear hoL hat hkd HTA
      have hq0 : Below wr.heap.size wr (wr.alloc (.cells #[.int .i64 (m : Int), .string (str L)] 54)) := (Below.refl _ _).alloc (Nat.le_refl _) _
      have hs0 : (wr.alloc (.cells #[.int .i64 (m : Int), .string (str L)] 54)).heap.size = wr.heap.size + 1 := by simp
      have hs1 : ((wr.alloc (.cells #[.int .i64 (m : Int), .string (str L)] 54)).alloc (.cells #[.int .u8 85, .int .u8 4] 5 (2, 3))).heap.size = wr.heap.size + 1 + 1 := by simp
      have hs2 : (((wr.alloc (.cells #[.int .i64 (m : Int), .string (str L)] 54)).alloc (.cells #[.int .u8 85, .int .u8 4] 5 (2, 3))).alloc (.cells #[.int .u8 (m : Int)] 5)).heap.size = wr.heap.size + 1 + 1 + 1 := by simp
      have hcv : (convert 22 22 (.slice (some ⟨wr.heap.size + 1, 0, none⟩) 2 2)).run Tryd.prog ((wr.alloc (.cells #[.int .i64 (m : Int), .string (str L)] 54)).alloc (.cells #[.int .u8 85, .int .u8 4] 5)) = .ok (.slice (some ⟨wr.heap.size + 1, 0, none⟩) 2 2) ((wr.alloc (.cells #[.int .i64 (m : Int), .string (str L)] 54)).alloc (.cells #[.int .u8 85, .int .u8 4] 5 (2, 3))) := by
        have h := Lib.run_convert_bytes_const (P := Tryd.prog) (wr.alloc (.cells #[.int .i64 (m : Int), .string (str L)] 54)) 22 5 #[.int .u8 85, .int .u8 4] 2 2 Tryd.underlying22 Tryd.underlying5
        rw [hs0] at h
        exact h
      have hq2 : Below wr.heap.size wr (((wr.alloc (.cells #[.int .i64 (m : Int), .string (str L)] 54)).alloc (.cells #[.int .u8 85, .int .u8 4] 5 (2, 3))).alloc (.cells #[.int .u8 (m : Int)] 5)) := (hq0.alloc (by rw [hs0]; omega) _).alloc (by rw [hs1]; omega) _
      have hHA : Holds (((wr.alloc (.cells #[.int .i64 (m : Int), .string (str L)] 54)).alloc (.cells #[.int .u8 85, .int .u8 4] 5 (2, 3))).alloc (.cells #[.int .u8 (m : Int)] 5)) wr.heap.size 54 #[.int .i64 (m : Int), .string (str L)] := ((Holds.fresh wr 54 #[.int .i64 (m : Int), .string (str L)]).alloc _).alloc _
      have hb1 : (((wr.alloc (.cells #[.int .i64 (m : Int), .string (str L)] 54)).alloc (.cells #[.int .u8 85, .int .u8 4] 5 (2, 3))).alloc (.cells #[.int .u8 (m : Int)] 5)).heap[wr.heap.size + 1]? = some (.cells #[.int .u8 85, .int .u8 4] 5 (2, 3)) := by
        have h := heap_alloc_new (wr.alloc (.cells #[.int .i64 (m : Int), .string (str L)] 54)) (.cells #[.int .u8 85, .int .u8 4] 5 (2, 3))
        rw [hs0] at h
        exact (Below.heap_alloc ((wr.alloc (.cells #[.int .i64 (m : Int), .string (str L)] 54)).alloc (.cells #[.int .u8 85, .int .u8 4] 5 (2, 3))) _ _ (by rw [hs1]; omega)).trans h
      have hb2 : (((wr.alloc (.cells #[.int .i64 (m : Int), .string (str L)] 54)).alloc (.cells #[.int .u8 85, .int .u8 4] 5 (2, 3))).alloc (.cells #[.int .u8 (m : Int)] 5)).heap[wr.heap.size + 1 + 1]? = some (.cells #[.int .u8 (m : Int)] 5 (0, 0)) := by
        have h := heap_alloc_new ((wr.alloc (.cells #[.int .i64 (m : Int), .string (str L)] 54)).alloc (.cells #[.int .u8 85, .int .u8 4] 5 (2, 3))) (.cells #[.int .u8 (m : Int)] 5)
        rw [hs1] at h
        exact h
      have hr1 := bytes_block (b := [85, 4]) hb1 (by simp [bvals]) (by simp)
      have hr2 := bytes_block (b := [m]) hb2 (by simp [bvals]) (by simp)
      obtain ⟨c3, W3, hrun, hm3, hb3⟩ := run_grow (P := Tryd.prog) (((wr.alloc (.cells #[.int .i64 (m : Int), .string (str L)] 54)).alloc (.cells #[.int .u8 85, .int .u8 4] 5 (2, 3))).alloc (.cells #[.int .u8 (m : Int)] 5)) 22 22 22 5 Tryd.underlying22 Tryd.underlying22 info_u8 (B := wr.heap.size) hr1 rfl hr2 rfl (by rw [hs2]; omega) (by simp) (by simp)
      rw [hs2] at hrun hm3
      have Q3 := Lib.hid (hq2.trans (hb3.mono hq2.size))
      have hHA3 := hHA.under hb3 hHA.lt
      have HHA := Lib.hid hHA3
      have HI := Lib.hid (id_any W3 (bl KA ++ w.heap.size :: xs) _ c3 3 _ [85, 4, m] hm3.rd rfl (Nat.le_refl _) (by omega) (by intro x hx; simp at hx; omega) (HBD.out _ Q3.out))
      have z0 := (Holds.fresh wr 54 #[.int .i64 (m : Int), .string (str L)]).cell 0
      have z1 := (Holds.fresh wr 54 #[.int .i64 (m : Int), .string (str L)]).cell 1
      have y0 := ((Holds.fresh wr 54 #[.int .i64 (m : Int), .string (str L)]).alloc (.cells #[.int .u8 85, .int .u8 4] 5 (2, 3))).cell 0
      clear hq0 hs0 hs1 hs2 hq2 hHA hb1 hb2 hr1 hr2 hm3 hb3 hHA3
      go_wp2_with (first | (refine wpList_append_run _ rfl (.tmp 18) (.tmp 22) 22 rfl rfl _ _ rfl rfl _ _ hrun ?_) | fail)
      refine HI.out.mono ?_
      rintro e w5 hm5
      obtain ⟨lti, pt, pa, pn, pc, pk, pm, pd, rfl, h6i, hTi, hOi, hb5⟩ := MadeT.six hm5
      have hHi := Holds.fresh w5 41 #[.int .u8 (pt : Int), .slice pa pn pc, .slice pk pm pd]
      have hq5 : Below w5.heap.size w5 (w5.alloc (.cells #[.int .u8 (pt : Int), .slice pa pn pc, .slice pk pm pd] 41)) := (Below.refl _ _).alloc (Nat.le_refl _) _
      have Q6 := Lib.hid (Q3.out.trans ((hb5.trans (hq5.mono hb5.size)).mono Q3.out.size))
      have HHI := Lib.hid hHi
      have HGI : Hid (wr.heap.size ≤ w5.heap.size) := Lib.hid (Q3.out.trans (hb5.mono Q3.out.size)).size
      have H6I := Lib.hid h6i
      have HTI := Lib.hid hTi
      have HOI := Lib.hid (hOi.alloc (.cells #[.int .u8 (pt : Int), .slice pa pn pc, .slice pk pm pd] 41))
      have HHA6 := Lib.hid ((HHA.out.under hb5 HHA.out.lt).alloc (.cells #[.int .u8 (pt : Int), .slice pa pn pc, .slice pk pm pd] 41))
      obtain ⟨gi, hgi⟩ : ∃ gi, w5.heap.size = gi := ⟨_, rfl⟩
      have HGE := Lib.hid hgi
      generalize hW6 : w5.alloc (.cells #[.int .u8 (pt : Int), .slice pa pn pc, .slice pk pm pd] 41) = W6 at *
      rw [hgi] at HHI HGI
      clear hm5 hb5 hq5 h6i hTi hOi hHi HI hgi z0 z1 y0 HHA hcv hrun
      have HW6 := Lib.hid hW6
      clear hW6
      go_wp2_with fail
      rw [HW6.out, HGE.out]
      clear HW6 HGE c0 c1
      have HS : Hid (∀ W, Below W6.heap.size W6 W → (fun W => W.cell? ⟨gi, 0, none⟩ = some (.int .u8 (pt : Int)) ∧ W.cell? ⟨gi, 1, none⟩ = some (.slice pa pn pc) ∧ W.cell? ⟨gi, 2, none⟩ = some (.slice pk pm pd) ∧ W.cell? ⟨wr.heap.size, 1, none⟩ = some (.string (str L))) W) := Lib.hid fun W hW => by
        have h := HHI.out.under hW HHI.out.lt
        exact ⟨h.cell 0, h.cell 1, h.cell 2, (HHA6.out.under hW HHA6.out.lt).cell 1⟩
      refine wp_region_noPanic ?_
      refine wp_region_held_drew (S := (fun W => W.cell? ⟨gi, 0, none⟩ = some (.int .u8 (pt : Int)) ∧ W.cell? ⟨gi, 1, none⟩ = some (.slice pa pn pc) ∧ W.cell? ⟨gi, 2, none⟩ = some (.slice pk pm pd) ∧ W.cell? ⟨wr.heap.size, 1, none⟩ = some (.string (str L)))) (by kernel_rfl) (HS.out _ (Below.refl _ W6).drew) (fun hHeld => ?_)
      refine wpAnyH_take (i := 0) (oi := { dst := some 25, op := Op.move (Operand.tmp 3), type := 39, pos := _, after := _, guard := none }) (v := ?_) rfl (by kernel_rfl) (by kernel_rfl) (by kernel_rfl) (fun _ _ _ h => h) (Or.inl ⟨by rfl, ?_⟩) hHeld ?_
      rotate_left 1
      · (intro W hW; (try dsimp only at hW); go_simp; try with_reducible rfl)
      try simp only [Act.put, List.setIfInBounds_toArray, List.set_cons_zero, List.set_cons_succ]
      refine wpAnyH_take (i := 1) (oi := { dst := some 26, op := Op.load 41 (Operand.tmp 6), type := 41, pos := _, after := _, guard := none }) (v := ?_) rfl (by kernel_rfl) (by kernel_rfl) (by kernel_rfl) (fun _ _ _ h => h) (Or.inl ⟨by rfl, ?_⟩) hHeld ?_
      rotate_left 1
      · (intro W hW; obtain ⟨k0, k1, k2, _⟩ := hW; (try dsimp only at hW); go_simp; try with_reducible rfl)
      try simp only [Act.put, List.setIfInBounds_toArray, List.set_cons_zero, List.set_cons_succ]
      refine wpAnyH_take (i := 2) (oi := { dst := some 27, op := Op.fieldAddr 54 (Operand.tmp 5) 1, type := 0, pos := _, after := _, guard := none }) (v := ?_) rfl (by kernel_rfl) (by kernel_rfl) (by kernel_rfl) (fun _ _ _ h => h) (Or.inl ⟨by rfl, ?_⟩) hHeld ?_
      rotate_left 1
      · (intro W hW; (try dsimp only at hW); go_simp; try with_reducible rfl)
      try simp only [Act.put, List.setIfInBounds_toArray, List.set_cons_zero, List.set_cons_succ]
      refine wpAnyH_take (i := 3) (oi := { dst := some 28, op := Op.load 9 (Operand.tmp 27), type := 9, pos := _, after := _, guard := none }) (v := ?_) rfl (by kernel_rfl) (by kernel_rfl) (by kernel_rfl) (fun _ _ _ h => h) (Or.inl ⟨by rfl, ?_⟩) hHeld ?_
      rotate_left 1
      · (intro W hW; obtain ⟨_, _, _, k3⟩ := hW; (try dsimp only at hW); go_simp; try with_reducible rfl)
      try simp only [Act.put, List.setIfInBounds_toArray, List.set_cons_zero, List.set_cons_succ]
      refine wpAnyH_ready (rs := [4]) (by kernel_rfl) (by simp) ?_
      refine AllReadyH.cons (o := { dst := some 29, op := Op.call { callee := Callee.value (Operand.func 44), args := #[Operand.tmp 28], argTypes := #[9] }, type := 41, pos := _, after := _, guard := none }) rfl (fun K hK => ?_) AllReadyH.nil
      go_simp
      refine (text_any _ (bl KA ++ w.heap.size :: xs) L HOL.out (by omega) (HBD.out _ (Q6.out.trans ((Below.refl _ W6).drew.mono Q6.out.size)))).mono ?_
      intro e w7 hm
      obtain ⟨lt7, t7, a7, n7, c7, k7, m7, d7, rfl, h6, hlt', hoff, hb⟩ := MadeT.six hm
      have b7 : Hid (Below W6.heap.size W6 w7) := Lib.hid ((Below.refl _ W6).drew.trans hb)
      have Q7 := Lib.hid (Q6.out.trans (b7.out.mono Q6.out.size))
      have R7 := Lib.hid (b7.out)
      have S7 := Lib.hid (HS.out _ R7.out)
      have HS7 := Lib.hid h6
      have HT7 := Lib.hid hlt'
      have HO7 := Lib.hid hoff
      clear hm hb h6 hlt' hoff
      go_simp
      refine hK.out _ _ (S7.out) (fun _ => ?_)
      clear hK K hHeld
      try simp only [Act.put, List.setIfInBounds_toArray, List.set_cons_zero, List.set_cons_succ]
      have hHeld : ((fun W => W.cell? ⟨gi, 0, none⟩ = some (.int .u8 (pt : Int)) ∧ W.cell? ⟨gi, 1, none⟩ = some (.slice pa pn pc) ∧ W.cell? ⟨gi, 2, none⟩ = some (.slice pk pm pd) ∧ W.cell? ⟨wr.heap.size, 1, none⟩ = some (.string (str L)))) w7 := S7.out
      refine wpAnyH_ready (rs := [5]) (by kernel_rfl) (by simp) ?_
      refine AllReadyH.cons (o := { dst := some 30, op := Op.buildSlice 39 2 #[(0, Operand.tmp 26), (1, Operand.tmp 29)], type := 39, pos := _, after := _, guard := none }) rfl (fun K hK => ?_) AllReadyH.nil
      go_simp
      obtain ⟨w8, hw⟩ : ∃ W, W = w7.alloc (.cells #[.int .u8 (pt : Int), .slice pa pn pc, .slice pk pm pd, .int .u8 (t7 : Int), .slice a7 n7 c7, .slice k7 m7 d7] 41) := ⟨_, rfl⟩
      rw [← hw]
      have b8 : Hid (Below w7.heap.size w7 w8) := Lib.hid (by rw [hw]; exact (Below.refl _ _).alloc (Nat.le_refl _) _)
      have Q8 := Lib.hid (Q7.out.trans (b8.out.mono Q7.out.size))
      have R8 := Lib.hid (R7.out.trans (b8.out.mono R7.out.size))
      have S8 := Lib.hid (HS.out _ R8.out)
      have HP8 : Hid (Off (bl KA ++ w.heap.size :: xs) (KiP (some ⟨w7.heap.size, 0, none⟩) 2 [lti, lt7]) w8) := Lib.hid (by rw [hw]; exact row66 (HOI.out.under R7.out) H6I.out HO7.out HS7.out (HNX.out _ Q7.out))
      clear hw
      refine hK.out _ _ (S8.out) (fun _ => ?_)
      clear hK K hHeld
      try simp only [Act.put, List.setIfInBounds_toArray, List.set_cons_zero, List.set_cons_succ]
      have hHeld : ((fun W => W.cell? ⟨gi, 0, none⟩ = some (.int .u8 (pt : Int)) ∧ W.cell? ⟨gi, 1, none⟩ = some (.slice pa pn pc) ∧ W.cell? ⟨gi, 2, none⟩ = some (.slice pk pm pd) ∧ W.cell? ⟨wr.heap.size, 1, none⟩ = some (.string (str L)))) w8 := S8.out
      refine wpAnyH_ready (rs := [6]) (by kernel_rfl) (by simp) ?_
      refine AllReadyH.cons (o := { dst := some 31, op := Op.call { callee := Callee.value (Operand.func 45), args := #[Operand.const (Value.int IntKind.u8 48), Operand.tmp 30], argTypes := #[5, 39] }, type := 41, pos := _, after := _, guard := none }) rfl (fun K hK => ?_) AllReadyH.nil
      go_simp
      refine (seq_any _ (bl KA ++ w.heap.size :: xs) 48 2 2 _ [lti, lt7] HP8.out rfl (by omega) (by omega) (HBD.out _ Q8.out)).mono ?_
      intro e w9 hm
      obtain ⟨lt9, t9, a9, n9, c9, k9, m9, d9, rfl, h6, hlt', hoff, hb⟩ := MadeT.six hm
      have b9 : Hid (Below w8.heap.size w8 w9) := Lib.hid (hb)
      have Q9 := Lib.hid (Q8.out.trans (b9.out.mono Q8.out.size))
      have R9 := Lib.hid (R8.out.trans (b9.out.mono R8.out.size))
      have S9 := Lib.hid (HS.out _ R9.out)
      have HS9 := Lib.hid h6
      have HT9 := Lib.hid hlt'
      have HO9 := Lib.hid hoff
      clear hm hb h6 hlt' hoff
      go_simp
      refine hK.out _ _ (S9.out) (fun _ => ?_)
      clear hK K hHeld
      try simp only [Act.put, List.setIfInBounds_toArray, List.set_cons_zero, List.set_cons_succ]
      have hHeld : ((fun W => W.cell? ⟨gi, 0, none⟩ = some (.int .u8 (pt : Int)) ∧ W.cell? ⟨gi, 1, none⟩ = some (.slice pa pn pc) ∧ W.cell? ⟨gi, 2, none⟩ = some (.slice pk pm pd) ∧ W.cell? ⟨wr.heap.size, 1, none⟩ = some (.string (str L)))) w9 := S9.out
      refine wpAnyH_ready (rs := [7]) (by kernel_rfl) (by simp) ?_
      refine AllReadyH.cons (o := { dst := some 32, op := Op.buildSlice 39 1 #[(0, Operand.tmp 31)], type := 39, pos := _, after := _, guard := none }) rfl (fun K hK => ?_) AllReadyH.nil
      go_simp
      obtain ⟨w10, hw⟩ : ∃ W, W = w9.alloc (.cells #[.int .u8 (t9 : Int), .slice a9 n9 c9, .slice k9 m9 d9] 41) := ⟨_, rfl⟩
      rw [← hw]
      have b10 : Hid (Below w9.heap.size w9 w10) := Lib.hid (by rw [hw]; exact (Below.refl _ _).alloc (Nat.le_refl _) _)
      have Q10 := Lib.hid (Q9.out.trans (b10.out.mono Q9.out.size))
      have R10 := Lib.hid (R9.out.trans (b10.out.mono R9.out.size))
      have S10 := Lib.hid (HS.out _ R10.out)
      have HP10 : Hid (Off (bl KA ++ w.heap.size :: xs) (KiP (some ⟨w9.heap.size, 0, none⟩) 1 [lt9]) w10) := Lib.hid (by rw [hw]; exact row6 HO9.out HS9.out (HNX.out _ Q9.out))
      clear hw
      refine hK.out _ _ (S10.out) (fun _ => ?_)
      clear hK K hHeld
      try simp only [Act.put, List.setIfInBounds_toArray, List.set_cons_zero, List.set_cons_succ]
      have hHeld : ((fun W => W.cell? ⟨gi, 0, none⟩ = some (.int .u8 (pt : Int)) ∧ W.cell? ⟨gi, 1, none⟩ = some (.slice pa pn pc) ∧ W.cell? ⟨gi, 2, none⟩ = some (.slice pk pm pd) ∧ W.cell? ⟨wr.heap.size, 1, none⟩ = some (.string (str L)))) w10 := S10.out
      refine wpAnyH_ready (rs := [8]) (by kernel_rfl) (by simp) ?_
      refine AllReadyH.cons (o := { dst := some 33, op := Op.call { callee := Callee.value (Operand.func 45), args := #[Operand.const (Value.int IntKind.u8 49), Operand.tmp 32], argTypes := #[5, 39] }, type := 41, pos := _, after := _, guard := none }) rfl (fun K hK => ?_) AllReadyH.nil
      go_simp
      refine (seq_any _ (bl KA ++ w.heap.size :: xs) 49 1 1 _ [lt9] HP10.out rfl (by omega) (by omega) (HBD.out _ Q10.out)).mono ?_
      intro e w11 hm
      obtain ⟨lt11, t11, a11, n11, c11, k11, m11, d11, rfl, h6, hlt', hoff, hb⟩ := MadeT.six hm
      have b11 : Hid (Below w10.heap.size w10 w11) := Lib.hid (hb)
      have Q11 := Lib.hid (Q10.out.trans (b11.out.mono Q10.out.size))
      have R11 := Lib.hid (R10.out.trans (b11.out.mono R10.out.size))
      have S11 := Lib.hid (HS.out _ R11.out)
      have HS11 := Lib.hid h6
      have HT11 := Lib.hid hlt'
      have HO11 := Lib.hid hoff
      clear hm hb h6 hlt' hoff
      go_simp
      refine hK.out _ _ (S11.out) (fun _ => ?_)
      clear hK K hHeld
      try simp only [Act.put, List.setIfInBounds_toArray, List.set_cons_zero, List.set_cons_succ]
      have hHeld : ((fun W => W.cell? ⟨gi, 0, none⟩ = some (.int .u8 (pt : Int)) ∧ W.cell? ⟨gi, 1, none⟩ = some (.slice pa pn pc) ∧ W.cell? ⟨gi, 2, none⟩ = some (.slice pk pm pd) ∧ W.cell? ⟨wr.heap.size, 1, none⟩ = some (.string (str L)))) w11 := S11.out
      refine wpAnyH_ready (rs := [9]) (by kernel_rfl) (by simp) ?_
      refine AllReadyH.cons (o := { dst := some 34, op := Op.buildSlice 39 1 #[(0, Operand.tmp 33)], type := 39, pos := _, after := _, guard := none }) rfl (fun K hK => ?_) AllReadyH.nil
      go_simp
      obtain ⟨w12, hw⟩ : ∃ W, W = w11.alloc (.cells #[.int .u8 (t11 : Int), .slice a11 n11 c11, .slice k11 m11 d11] 41) := ⟨_, rfl⟩
      rw [← hw]
      have b12 : Hid (Below w11.heap.size w11 w12) := Lib.hid (by rw [hw]; exact (Below.refl _ _).alloc (Nat.le_refl _) _)
      have Q12 := Lib.hid (Q11.out.trans (b12.out.mono Q11.out.size))
      have R12 := Lib.hid (R11.out.trans (b12.out.mono R11.out.size))
      have S12 := Lib.hid (HS.out _ R12.out)
      have HF12 : Hid (Holds w12 w11.heap.size 41 [.int .u8 (t11 : Int), .slice a11 n11 c11, .slice k11 m11 d11].toArray) := Lib.hid (by rw [hw]; exact Holds.fresh _ _ _)
      have K12 := Lib.hid (HK.out.under Q12.out)
      have O12 := Lib.hid (HO11.out.under b12.out)
      have OW12 := Lib.hid K12.out.own
      have BX12 := Lib.hid (HXS.out _ (Nat.le_trans HVW.out Q12.out.size))
      have Z12 := Lib.hid (HZr.out.under Q12.out hwr)
      have B12 := Lib.hid (HB.out.trans (Q12.out.mono HB.out.size))
      have V12 := Lib.hid (Nat.le_trans HVW.out Q12.out.size)
      clear hw
      refine hK.out _ _ (S12.out) (fun _ => ?_)
      clear hK K hHeld
      try simp only [Act.put, List.setIfInBounds_toArray, List.set_cons_zero, List.set_cons_succ]
      have hHeld : ((fun W => W.cell? ⟨gi, 0, none⟩ = some (.int .u8 (pt : Int)) ∧ W.cell? ⟨gi, 1, none⟩ = some (.slice pa pn pc) ∧ W.cell? ⟨gi, 2, none⟩ = some (.slice pk pm pd) ∧ W.cell? ⟨wr.heap.size, 1, none⟩ = some (.string (str L)))) w12 := S12.out
      refine wpAnyH_ready (rs := [10]) (by kernel_rfl) (by simp) ?_
      refine AllReadyH.cons (o := { dst := some 35, op := Op.call { callee := Callee.builtin Builtin.append, args := #[Operand.tmp 25, Operand.tmp 34], argTypes := #[39, 39] }, type := 39, pos := _, after := _, guard := none }) rfl (fun K hK => ?_) AllReadyH.nil
      refine step_pushV _ rfl (.tmp 25) (.tmp 34) 39 rfl 41 _ 3 56 Tryd.underlying39 info_node rfl (by omega) (by omega) rfl OW12.out (cs := [.int .u8 (t11 : Int), .slice a11 n11 c11, .slice k11 m11 d11]) rfl rfl one6 HF12.out (by omega) ?_
      intro g13 c13 w13 ho13 hg13 hat13 hlt13
      have K13 := Lib.hid (K12.out.push6 O12.out HS11.out ho13 hg13 hat13 BX12.out)
      have Z13 := Lib.hid (Z12.out.grown hg13 (fun h => by have := HG.out _ h.symm; omega))
      have B13 := Lib.hid (below_own B12.out hg13 (fun g hg => by have := HG.out g hg; omega) (Nat.le_refl _))
      have V13 := Lib.hid (Nat.le_trans V12.out hg13.size)
      have G13 : Hid (∀ g, blockOf (some (⟨g13, 0, none⟩ : Addr)) = some g → w.heap.size < g) := Lib.hid fun g hg => by
        rcases hat13 with h | h
        · exact HG.out g (h.trans (by simpa [blockOf] using hg))
        · have e : g13 = g := by simpa [blockOf] using hg
          have := Z12.out.lt
          omega
      have S13 : Hid ((fun W => W.cell? ⟨gi, 0, none⟩ = some (.int .u8 (pt : Int)) ∧ W.cell? ⟨gi, 1, none⟩ = some (.slice pa pn pc) ∧ W.cell? ⟨gi, 2, none⟩ = some (.slice pk pm pd) ∧ W.cell? ⟨wr.heap.size, 1, none⟩ = some (.string (str L))) w13) := Lib.hid (by
        have h12 := HHI.out.under R12.out HHI.out.lt
        have h13 := h12.grown hg13 (fun e => by have := HK.out.lt e.symm; have := HGI.out; omega)
        have ha12 := HHA6.out.under R12.out HHA6.out.lt
        have ha13 := ha12.grown hg13 (fun e => by have := HK.out.lt e.symm; omega)
        exact ⟨h13.cell 0, h13.cell 1, h13.cell 2, ha13.cell 1⟩)
      clear ho13 hg13 hat13 OW12 HF12 O12 K12 BX12
      refine hK.out _ _ (S13.out) (fun _ => ?_)
      clear hK K hHeld
      try simp only [Act.put, List.setIfInBounds_toArray, List.set_cons_zero, List.set_cons_succ]
      have hHeld : ((fun W => W.cell? ⟨gi, 0, none⟩ = some (.int .u8 (pt : Int)) ∧ W.cell? ⟨gi, 1, none⟩ = some (.slice pa pn pc) ∧ W.cell? ⟨gi, 2, none⟩ = some (.slice pk pm pd) ∧ W.cell? ⟨wr.heap.size, 1, none⟩ = some (.string (str L)))) w13 := S13.out
      refine wpAnyH_take (i := 11) (oi := { dst := some 3, op := Op.assign (Operand.tmp 35), type := 39, pos := _, after := _, guard := none }) (v := ?_) rfl (by kernel_rfl) (by kernel_rfl) (by kernel_rfl) (fun _ _ _ h => h) (Or.inl ⟨by rfl, ?_⟩) hHeld ?_
      rotate_left 1
      · (intro W hW; (try dsimp only at hW); go_simp; try with_reducible rfl)
      try simp only [Act.put, List.setIfInBounds_toArray, List.set_cons_zero, List.set_cons_succ]
      refine wpAnyH_done (by kernel_rfl) ?_ _
      refine NoPanic.normal ?_
      have HTT : Hid ((ks ++ [lt11]).map Lt.t = (l.take (i + 1)).map atTr) := Lib.hid (by
        rw [HV1.out, List.map_append, HT.out]
        simp [HT11.out, HT9.out, HT7.out, HTI.out])
      go_wp2_with fail
      go_roundw
      case rel => exact ⟨i + 1, _, _, _, by omega, by go_num, rfl, K13.out, HTT.out, G13.out, Z13.out, V13.out, B13.out⟩
      case measure => simp [intOf]; omega
    · obtain rfl : i = n := by omega
      have HTT : Hid (ks.map Lt.t = l.map atTr) := Lib.hid (by rw [HT.out, List.take_of_length_le (by rw [HN.out]; exact Nat.le_refl _)])
      have HSE := Lib.hid (seq_any wr (w.heap.size :: xs) 48 d i KA ks HK.out.ki HK.out.len (by omega) (by omega) (HXS.out wr HVW.out))
      go_wp2_with fail
      refine HSE.out.mono ?_
      rintro e w2 hm2
      obtain ⟨lt2, pt, pa, pn, pc, pk, pm, pd, rfl, h62, hT2, hO2, hb2⟩ := MadeT.six hm2
      have HQ2 := Lib.hid (HB.out.trans (hb2.mono HB.out.size))
      have hz2 := HZr.out.under hb2 hwr
      have HO2 := Lib.hid hO2
      have z0 := hz2.cell 0
      have z1 := hz2.cell 1
      have z2 := hz2.cell 2
      have y0 := hz2.open_ 0
      have y1 := hz2.open_ 1
      have y2 := hz2.open_ 2
      have HLT : Hid (lt2.val = .agg #[.int .u8 (pt : Int), .slice pa pn pc, .slice pk pm pd]) := Lib.hid (by rw [Lt.val, ← lcell_cells, show lcell lt2 = _ from h62])
      have HTE : Hid (lt2.t = dnTr l) := Lib.hid (by rw [hT2, HTT.out]; rfl)
      clear hm2 hb2 hO2 HSE hT2
      go_wp2_with fail
      refine ret_one rfl rfl (((hz2.stored 0 _).stored 1 _).stored 2 _) rfl ?_
      exact ⟨lt2, by rw [HLT.out]; rfl, HTE.out, made_out HO2.out _ _ _, below_out HQ2.out _ _ _⟩
end Go.Proofs.YtbdkopcmdefhoaaDoor
namespace Go.Proofs.YtbdkopcmdefhoaaDoor
open Go.RowKit
set_option linter.unusedVariables false
set_option linter.unusedSimpArgs false
attribute [local go_sem ↓] Go.wp_at_zero Go.wp_at_succ

theorem ret_att {R : Ending → World → Prop} {tmps : Array Value} {w : World} {g : Nat} {t : TypeId} {cs : Array Value} {v : Value} {fn : Func} {p u : Tmp}
    (hr : fn.results = #[.cell p 54, .tmp u]) (hp : tmps.getD p undef = .pointer (some ⟨g, 0, none⟩)) (hu : tmps.getD u undef = v) (hg : Holds w g t cs) (hcs : cs.size = 2) (hR : R (.returned (.tuple #[.agg cs, v])) w) :
    bodyPost Tryd.prog fn R .ret { tmps := tmps, defers := [] } w := by
  have hi : (Tryd.prog.info? 54).map (·.size) = some cs.size := by rw [hcs]; kernel_rfl
  refine bodyPost_ret (v := .tuple #[.agg cs, v]) ?_ rfl hR
  rw [results_cell_tmp hr]
  have hp' : tmps[p]?.getD undef = .pointer (some ⟨g, 0, none⟩) := by simpa using hp
  have hu' : tmps[u]?.getD undef = v := by simpa using hu
  simp [hp', hu', asAddr, run_loadVar_row w g t _ cs (0, 0) _ hg Tryd.underlying54 rfl hi, Result.andThen]
/-- The things of a Seq of a tag; none of another thing. -/
def seqK (k : Nat) (t : Tr) : List Tr := if seqOk t.tag t.body.length k = true then t.kids else []
def seqL (k : Nat) (t : Lt) : List Lt := if seqOk t.tag t.body.length k = true then t.kids else []
theorem t_parts (t : Lt) : t.t.tag = t.tag ∧ t.t.body = t.body ∧ t.t.kids = t.kids.map Lt.t := by
  rcases t with ⟨tag, ba, bc, body, ka, kc, kids⟩
  rw [Lt.t_mk]
  exact ⟨rfl, rfl, rfl⟩
theorem seq_map (k : Nat) (t : Lt) : seqK k t.t = (seqL k t).map Lt.t := by
  obtain ⟨h1, h2, h3⟩ := t_parts t
  unfold seqK seqL
  rw [h1, h2, h3]
  split <;> rfl
theorem seqL_mem {k : Nat} {t x : Lt} (h : x ∈ seqL k t) : x ∈ t.kids := by
  unfold seqL at h
  split at h
  · exact h
  · cases h
def idB (p : Tr) : List Nat := if (heldOk p.tag p.kids.length 6 && idOk p.body) = true then p.body else []
def txB (p : Tr) : Option (List Nat) := txOf p.tag p.kids.length p.body
/-- Are so many too few, or (strictly) not so many? -/
def bad (s : Bool) (k n : Nat) : Bool := if s = true then decide (n ≠ k) else decide (n < k)
/-- A thing as a part of a name. -/
def attrT (s : Bool) (t : Tr) : Option Att :=
  if bad s 1 (seqK 49 t).length = true then none
  else if bad s 2 (seqK 48 ((seqK 49 t).getD 0 default)).length = true then none
  else if (txB ((seqK 48 ((seqK 49 t).getD 0 default)).getD 1 default)).isSome = true ∧ (idB ((seqK 48 ((seqK 49 t).getD 0 default)).getD 0 default)).length = 3 then
    some ⟨((idB ((seqK 48 ((seqK 49 t).getD 0 default)).getD 0 default)).getD 2 0 : Nat), str ((seqK 48 ((seqK 49 t).getD 0 default)).getD 1 default).body⟩
  else none
def AttrP (w : World) : Option Att → Ending → World → Prop
  | none, e, w' => ∃ k s, e = .returned (.tuple #[.agg #[.int .i64 k, .string s], .bool false]) ∧ Below w.heap.size w w'
  | some a, e, w' => e = .returned (.tuple #[.agg #[.int .i64 a.k, .string a.s], .bool true]) ∧ Below w.heap.size w w'
theorem SeqPost.one {w : World} {xs : List Nat} {ks : List Lt} {b : Bool} {e : Ending} {w' : World} (h : SeqPost w xs ks b e w') : ∃ A c, e = .returned (.tuple #[.slice A (if b = true then ks else []).length c, .bool b]) ∧ Off xs (KiP A c (if b = true then ks else [])) w' ∧ Below w.heap.size w w' := by
  rcases b with _ | _
  · exact ⟨none, 0, h.1, off_none _ _, h.2⟩
  · exact h
/-- A thing that is small enough. -/
def FitA (t : Tr) : Prop := t.kids.length ≤ 12000 ∧ ∀ k ∈ t.kids, k.kids.length ≤ 12000 ∧ ∀ p ∈ k.kids, p.body.length ≤ 12000
theorem below_att {w w' : World} {h : Nat} (hb : Below w.heap.size w w') (hh : w.heap.size ≤ h) (a b : Value) : Below w.heap.size w ((w'.setCell ⟨h, 0, none⟩ a).setCell ⟨h, 1, none⟩ b) :=
  (hb.setCell (p := ⟨h, 0, none⟩) hh _).setCell (p := ⟨h, 1, none⟩) hh _
theorem lt_at {l : List Lt} {j : Nat} (h : j < l.length) : (l.map Lt.t).getD j default = (l.getD j default).t := by simp [List.getD, h]
/-- A thing in a row: its cells, and itself. -/
theorem KiP.cells {w : World} {A : Option Addr} {c j : Nat} {l : List Lt} (h : Off [] (KiP A c l) w) (hj : j < l.length) : ∃ g off, A = some ⟨g, off, none⟩ ∧ g < w.heap.size ∧
    (∀ W, Below w.heap.size w W → W.cell? ⟨g, off + j * 3, none⟩ = some (.int .u8 ((l.getD j default).tag : Int)) ∧ W.cell? ⟨g, off + j * 3 + 1, none⟩ = some (.slice (l.getD j default).ba (l.getD j default).body.length (l.getD j default).bc) ∧ W.cell? ⟨g, off + j * 3 + 2, none⟩ = some (.slice (l.getD j default).ka (l.getD j default).kids.length (l.getD j default).kc)) := by
  obtain ⟨g, off, e, hg, hc⟩ := h.at_.1.2.2 (by omega)
  obtain ⟨q0, q1, q2⟩ := hc j hj
  exact ⟨g, off, e, hg, fun W hW => ⟨(hW.cell (p := ⟨g, _, none⟩) hg).trans q0, (hW.cell (p := ⟨g, _, none⟩) hg).trans q1, (hW.cell (p := ⟨g, _, none⟩) hg).trans q2⟩⟩
end Go.Proofs.YtbdkopcmdefhoaaDoor
namespace Go.Proofs.YtbdkopcmdefhoaaDoor
open Go.RowKit
set_option linter.unusedVariables false
set_option linter.unusedSimpArgs false
attribute [local go_sem ↓] Go.wp_at_zero Go.wp_at_succ

set_option maxRecDepth 100000 in
set_option maxHeartbeats 8000000 in
theorem attr_any (w : World) (t : Lt) (h : Off [] (ThP t) w) (hf : FitA t.t) (hT : Lib.Utf8Tabs 1 2 w) :
    Calls Tryd.prog 28 #[t.val] w (AttrP w (attrT false t.t)) := by
  obtain ⟨T, hT'⟩ : ∃ T, T = t.t := ⟨_, rfl⟩
  obtain ⟨o, HOO⟩ : ∃ o, Hid (o = attrT false T) := ⟨_, rfl⟩
  obtain ⟨qs, hqs⟩ : ∃ qs, qs = seqL 49 t := ⟨_, rfl⟩
  have HPS : Hid (seqK 49 T = qs.map Lt.t) := Lib.hid (by rw [hT', seq_map, hqs])
  rw [← hT', ← HOO.out]
  have HFQ : Hid (∀ x ∈ qs, x.kids.length ≤ 12000 ∧ ∀ p ∈ x.kids, p.body.length ≤ 12000) := Lib.hid fun x hx => by
    have h1 := seqL_mem (by rw [← hqs]; exact hx)
    obtain ⟨h2, h3⟩ := hf.2 x.t (by rw [(t_parts t).2.2]; exact List.mem_map_of_mem h1)
    rw [(t_parts x).2.2] at h2 h3
    rw [List.length_map] at h2
    refine ⟨h2, fun p hp => ?_⟩
    have h4 := h3 p.t (List.mem_map_of_mem hp)
    rwa [(t_parts p).2.1] at h4
  have hkl : t.kids.length ≤ 100000 := by have := hf.1; rw [(t_parts t).2.2, List.length_map] at this; omega
  have hth := h.at_
  obtain ⟨tag, ba, bc, body, ka, kc, kids⟩ := t
  have hko := kids_off h
  have hq2 : qs = if seqOk tag body.length 49 = true then kids else [] := hqs
  have htag : tag < 256 := (ThP.iff.1 hth).1
  have hkl2 : kids.length ≤ 100000 := hkl
  obtain ⟨n, hn⟩ : ∃ n, n = body.length := ⟨_, rfl⟩
  obtain ⟨kn, hkn⟩ : ∃ k, k = kids.length := ⟨_, rfl⟩
  rw [← hn] at hq2
  rw [← hkn] at hkl2
  have hval : (Lt.mk tag ba bc body ka kc kids).val = .agg #[.int .u8 (tag : Int), .slice ba n bc, .slice ka kn kc] := by rw [hn, hkn]; rfl
  rw [hval]
  have hH1 := Holds.fresh w 41 #[.int .u8 (tag : Int), .slice ba n bc, .slice ka kn kc]
  have hs1 : (w.alloc (.cells #[.int .u8 (tag : Int), .slice ba n bc, .slice ka kn kc] 41)).heap.size = w.heap.size + 1 := by simp
  have hH2 := hH1.alloc (.cells #[.int .i64 0, .string ⟨#[]⟩] 54)
  have hE2 : Holds ((w.alloc (.cells #[.int .u8 (tag : Int), .slice ba n bc, .slice ka kn kc] 41)).alloc (.cells #[.int .i64 0, .string ⟨#[]⟩] 54)) (w.heap.size + 1) 54 #[.int .i64 0, .string ⟨#[]⟩] := by
    have := Holds.fresh (w.alloc (.cells #[.int .u8 (tag : Int), .slice ba n bc, .slice ka kn kc] 41)) 54 #[.int .i64 0, .string ⟨#[]⟩]
    rw [hs1] at this
    exact this
  have hB2 : Below w.heap.size w ((w.alloc (.cells #[.int .u8 (tag : Int), .slice ba n bc, .slice ka kn kc] 41)).alloc (.cells #[.int .i64 0, .string ⟨#[]⟩] 54)) := ((Below.refl _ _).alloc (Nat.le_refl _) _).alloc (by omega) _
  obtain ⟨sq, hsq⟩ : ∃ b, seqOk tag n 49 = b := ⟨_, rfl⟩
  rw [hsq] at hq2
  have hgs := getSeq_any ((w.alloc (.cells #[.int .u8 (tag : Int), .slice ba n bc, .slice ka kn kc] 41)).alloc (.cells #[.int .i64 0, .string ⟨#[]⟩] 54)) [w.heap.size + 1] tag n bc kn kc 49 ba ka kids (((hko.new (g := w.heap.size + 1) (by omega)).alloc _).alloc _) hkn.symm (by omega) hkl2 (fun x hx => by rw [List.mem_singleton.1 hx]; exact hE2.lt)
  rw [hsq] at hgs
  have HGS := Lib.hid hgs
  have HQS := Lib.hid hq2
  have c0 := hH2.cell 0
  have c1 := hH2.cell 1
  have c2 := hH2.cell 2
  have HE2 := Lib.hid hE2
  have HB2 := Lib.hid hB2
  have HT := Lib.hid hT
  clear h hf hqs hkl hth hT' hko hq2 htag hn hkn hval hH1 hs1 hH2 hE2 hB2 hgs hkl2 hsq hT
  go_enter Tryd.func28, Tryd.ntmps28
  go_wp2_with fail
  refine HGS.out.mono ?_
  intro e w3 hm
  obtain ⟨A3, c3, rfl, hk3, hb3⟩ := hm.one
  rw [← HQS.out] at hk3 ⊢
  have HB3 := Lib.hid (HB2.out.trans (hb3.mono HB2.out.size))
  have HE3 := Lib.hid (HE2.out.under hb3 HE2.out.lt)
  have HK3 := Lib.hid (hk3.less (ys := []) (fun g hg => by cases hg))
  obtain ⟨m, hm'⟩ : ∃ m, m = qs.length := ⟨_, rfl⟩
  have HM := Lib.hid hm'
  rw [← hm']
  have hmc : m ≤ c3 := by rw [hm']; exact hk3.at_.1.1
  have hc63 := hk3.at_.1.2.1
  clear hm hb3 hk3 hm' HGS c0 c1 c2
  have HX1 : Hid (bad false 1 m = true → o = none) := Lib.hid fun hb => by rw [HOO.out]; unfold attrT; rw [HPS.out, List.length_map, ← HM.out, if_pos hb]
  by_cases hq1 : m < 1
  case pos =>
    have HNO : Hid (o = none) := Lib.hid (HX1.out (by unfold bad; rw [if_neg (by decide)]; exact decide_eq_true hq1))
    have d1 : ((m : Int) == 0) = true := by simp; omega
    have z0 := HE3.out.cell 0
    have z1 := HE3.out.cell 1
    have y0 := HE3.out.open_ 0
    have y1 := HE3.out.open_ 1
    go_wp2_with fail
    rw [HNO.out]
    exact ret_att rfl rfl rfl ((HE3.out.stored 0 _).stored 1 _) rfl ⟨_, _, rfl, below_att HB3.out (Nat.le_succ _) _ _⟩
  case neg =>
    have d1 : ((m : Int) == 0) = false := by simp; omega
    clear HX1
    obtain ⟨g, off, rfl, hg, hcs⟩ := KiP.cells (j := 0) HK3.out (by rw [← HM.out]; omega)
    obtain ⟨p0, p1, p2⟩ := hcs w3 (Below.refl _ _)
    have ht0 := KiP.kid HK3.out (j := 0) (by rw [← HM.out]; omega)
    have hf0 := HFQ.out _ (getD_mem (l := qs) (j := 0) (by rw [← HM.out]; omega))
    have HD0 : Hid ((seqK 49 T).getD 0 default = (qs.getD 0 default).t) := Lib.hid (by rw [HPS.out]; exact lt_at (by rw [← HM.out]; omega))
    obtain ⟨q0, hq0⟩ : ∃ q, q = qs.getD 0 default := ⟨_, rfl⟩
    rw [← hq0] at p0 p1 p2 ht0 hf0 HD0
    obtain ⟨rs, hrs⟩ : ∃ rs, rs = seqL 48 q0 := ⟨_, rfl⟩
    have HRS : Hid (seqK 48 ((seqK 49 T).getD 0 default) = rs.map Lt.t) := Lib.hid (by rw [HD0.out, seq_map, hrs])
    have HFR : Hid (∀ x ∈ rs, x.body.length ≤ 12000) := Lib.hid fun x hx => hf0.2 x (seqL_mem (by rw [← hrs]; exact hx))
    have HX0 : Hid (bad false 1 m ≠ true) := Lib.hid (by unfold bad; rw [if_neg (by decide)]; simp; omega)
    rw [show off + 0 * 3 = off by omega] at p0 p1 p2
    clear hq0 hcs HD0 HFQ
    obtain ⟨x1, b1a, b1c, b1, k1a, k1c, k1⟩ := q0
    dsimp only [Lt.tag, Lt.ba, Lt.bc, Lt.body, Lt.ka, Lt.kc, Lt.kids] at p0 p1 p2 hf0
    have hx1 : x1 < 256 := (ThP.iff.1 ht0.at_).1
    have hrs2 : rs = if seqOk x1 b1.length 48 = true then k1 else [] := hrs
    obtain ⟨n1, hn1⟩ : ∃ n, b1.length = n := ⟨_, rfl⟩
    obtain ⟨m1, hm1⟩ : ∃ n, k1.length = n := ⟨_, rfl⟩
    rw [hn1] at p1 hrs2
    rw [hm1] at p2 hf0
    obtain ⟨sr, hsr⟩ : ∃ b, seqOk x1 n1 48 = b := ⟨_, rfl⟩
    rw [hsr] at hrs2
    have hgs := getSeq_any w3 [] x1 n1 b1c m1 k1c 48 b1a k1a k1 (kids_off ht0) hm1 (by omega) (by omega) (by simp)
    rw [hsr] at hgs
    have HGS := Lib.hid hgs
    have HRS2 := Lib.hid hrs2
    clear hgs hrs hrs2 hsr hn1 hm1 ht0
    go_wp2_with fail
    refine HGS.out.mono ?_
    intro e w4 hm
    obtain ⟨A4, c4, rfl, hk4, hb4⟩ := hm.one
    rw [← HRS2.out] at hk4 ⊢
    have HB4 := Lib.hid (HB3.out.trans (hb4.mono HB3.out.size))
    have HE4 := Lib.hid (HE3.out.under hb4 HE3.out.lt)
    have HK4 := Lib.hid hk4
    obtain ⟨r, hr'⟩ : ∃ r, r = rs.length := ⟨_, rfl⟩
    have HR := Lib.hid hr'

    rw [← hr']
    have hrc : r ≤ c4 := by rw [hr']; exact hk4.at_.1.1
    have hr63 := hk4.at_.1.2.1
    clear hm hb4 hk4 hr' HGS p0 p1 p2
    have HX2 : Hid (bad false 2 r = true → o = none) := Lib.hid fun hb => by rw [HOO.out]; unfold attrT; rw [HPS.out, List.length_map, ← HM.out, if_neg HX0.out, ← HPS.out, HRS.out, List.length_map, ← HR.out, if_pos hb]
    by_cases hq2 : r < 2
    case pos =>
      have HNO : Hid (o = none) := Lib.hid (HX2.out (by unfold bad; rw [if_neg (by decide)]; exact decide_eq_true hq2))
      have d1 : decide ((r : Int) < 2) = true := decide_eq_true (by omega)
      have z0 := HE4.out.cell 0
      have z1 := HE4.out.cell 1
      have y0 := HE4.out.open_ 0
      have y1 := HE4.out.open_ 1
      go_wp2_with fail
      rw [HNO.out]
      exact ret_att rfl rfl rfl ((HE4.out.stored 0 _).stored 1 _) rfl ⟨_, _, rfl, below_att HB4.out (Nat.le_succ _) _ _⟩
    case neg =>
      have d1 : decide ((r : Int) < 2) = false := decide_eq_false (by omega)
      have HX3 : Hid (bad false 2 r ≠ true) := Lib.hid (by unfold bad; rw [if_neg (by decide)]; simp; omega)
      clear HX2
      obtain ⟨g5, off5, rfl, hg5, hcs⟩ := KiP.cells (j := 0) HK4.out (by rw [← HR.out]; omega)
      obtain ⟨g6, off6, he6, hg6, hcs6⟩ := KiP.cells (j := 1) HK4.out (by rw [← HR.out]; omega)
      injection he6 with he6
      obtain rfl : g5 = g6 := by injection he6
      obtain rfl : off5 = off6 := by injection he6
      obtain ⟨p0, p1, p2⟩ := hcs w4 (Below.refl _ _)
      have hta := KiP.kid HK4.out (j := 0) (by rw [← HR.out]; omega)
      have htb := KiP.kid HK4.out (j := 1) (by rw [← HR.out]; omega)
      have hba := HFR.out _ (getD_mem (l := rs) (j := 0) (by rw [← HR.out]; omega))
      have hbb := HFR.out _ (getD_mem (l := rs) (j := 1) (by rw [← HR.out]; omega))
      have HO1 : Hid (o = if (txB (rs.getD 1 default).t).isSome = true ∧ (idB (rs.getD 0 default).t).length = 3 then some ⟨((idB (rs.getD 0 default).t).getD 2 0 : Nat), str (rs.getD 1 default).t.body⟩ else none) := Lib.hid (by
        rw [HOO.out]; unfold attrT
        rw [HPS.out, List.length_map, ← HM.out, if_neg HX0.out, ← HPS.out, HRS.out, List.length_map, ← HR.out, if_neg HX3.out, lt_at (by rw [← HR.out]; omega), lt_at (by rw [← HR.out]; omega)])
      obtain ⟨qa, hqa⟩ : ∃ q, q = rs.getD 0 default := ⟨_, rfl⟩
      obtain ⟨qb, hqb⟩ : ∃ q, q = rs.getD 1 default := ⟨_, rfl⟩
      rw [← hqa] at p0 p1 p2 hta hba HO1
      rw [← hqb] at hcs6 htb hbb HO1
      rw [show off5 + 0 * 3 = off5 by omega] at p0 p1 p2
      rw [show off5 + 1 * 3 = off5 + 3 by omega] at hcs6
      have HC6 := Lib.hid hcs6
      clear hqa hqb hcs hcs6 he6 HX0 HX3 HPS HRS HOO HFR HRS2
      obtain ⟨xa, aa, ac, ab, aka, akc, akk⟩ := qa
      obtain ⟨xb, ba', bc', bb, bka, bkc, bkk⟩ := qb
      dsimp only [Lt.tag, Lt.ba, Lt.bc, Lt.body, Lt.ka, Lt.kc, Lt.kids] at p0 p1 p2 HC6 hba hbb
      have hia : idB (Lt.mk xa aa ac ab aka akc akk).t = if (heldOk xa akk.length 6 && idOk ab) = true then ab else [] := by rw [Lt.t_mk]; unfold idB; simp [Tr.tag, Tr.kids, Tr.body]
      have htx : txB (Lt.mk xb ba' bc' bb bka bkc bkk).t = txOf xb bkk.length bb := by rw [Lt.t_mk]; unfold txB; simp [Tr.tag, Tr.kids, Tr.body]
      have hbo : (Lt.mk xb ba' bc' bb bka bkc bkk).t.body = bb := by rw [Lt.t_mk]; rfl
      rw [hia, htx, hbo] at HO1
      obtain ⟨na, hna⟩ : ∃ n, ab.length = n := ⟨_, rfl⟩
      obtain ⟨nb, hnb⟩ : ∃ n, bb.length = n := ⟨_, rfl⟩
      obtain ⟨ka', hka⟩ : ∃ n, akk.length = n := ⟨_, rfl⟩
      obtain ⟨kb', hkb⟩ : ∃ n, bkk.length = n := ⟨_, rfl⟩
      rw [hna] at p1 hba
      rw [hka] at p2 HO1
      rw [hnb] at HC6 hbb
      rw [hkb] at HC6 HO1
      obtain ⟨_, hra, hoa, _⟩ := ThP.iff.1 hta.at_
      obtain ⟨_, _, hob, _⟩ := ThP.iff.1 htb.at_
      have HGI := Lib.hid (getID_any w4 xa na ac ka' akc _ aa aka ab hra hna (Nat.le_refl _) hoa)
      have HTB := Lib.hid htb
      have HNB := Lib.hid hnb
      have HOB := Lib.hid hob
      have HOA := Lib.hid hoa
      clear hra hoa hob hta htb hnb hna hka hkb hia htx hbo
      go_wp2_with fail
      refine HGI.out.mono ?_
      intro e w5 hm
      obtain ⟨A5, c5, rfl, hm5, hb5⟩ := hm.one
      have hidb : (if (heldOk xa ka' 6 && idOk ab) = true then some ab else none : Option (List Nat)).getD [] = if (heldOk xa ka' 6 && idOk ab) = true then ab else [] := by split <;> rfl
      obtain ⟨is_, his⟩ : ∃ b, (heldOk xa ka' 6 && idOk ab) = b := ⟨_, rfl⟩
      have hiss : (if (heldOk xa ka' 6 && idOk ab) = true then some ab else none : Option (List Nat)).isSome = is_ := by rw [his]; cases is_ <;> rfl
      rw [hidb] at hm5 ⊢
      rw [hiss]
      obtain ⟨D, hD⟩ : ∃ D, (if (heldOk xa ka' 6 && idOk ab) = true then ab else []) = D := ⟨_, rfl⟩
      rw [hD] at hm5 HO1 ⊢
      have hDo : ∀ y ∈ D, y < 256 := fun y hy => by
        rw [← hD] at hy
        split at hy
        · exact HOA.out y hy
        · cases hy
      have HDO := Lib.hid hDo
      have hDn : is_ = false → D = [] := fun h => by rw [← hD, his, h]; rfl
      obtain ⟨nd, hnd⟩ : ∃ n, D.length = n := ⟨_, rfl⟩
      rw [hnd] at HO1 ⊢
      have HDN := Lib.hid hDn
      have HND := Lib.hid hnd
      have HB5 := Lib.hid (HB4.out.trans (hb5.mono HB4.out.size))
      have HE5 := Lib.hid (HE4.out.under hb5 HE4.out.lt)
      have HM5 := Lib.hid hm5
      obtain ⟨p0, p1, p2⟩ := HC6.out w5 hb5
      have hrb := (ThP.iff.1 (HTB.out.under hb5).at_).2.1
      have hndc : nd ≤ c5 := by rw [← hnd]; exact hm5.le.1
      have hnd63 := hm5.le.2
      have HGT := Lib.hid (getText_any w5 xb nb bc' kb' bkc _ ba' bka bb hrb HNB.out (Nat.le_refl _) HOB.out (Utf8Tabs_below HT.out HB5.out))
      clear hm hb5 hm5 hidb his hiss hD hDn hDo hnd hrb HGI
      go_wp2_with fail
      refine HGT.out.mono ?_
      intro e w6 hm
      obtain ⟨rfl, hb6⟩ := hm.one
      have HB6 := Lib.hid (HB5.out.trans (hb6.mono HB5.out.size))
      have HE6 := Lib.hid (HE5.out.under hb6 HE5.out.lt)
      have HM6 := Lib.hid (HM5.out.under hb6)
      obtain ⟨tk, htk⟩ : ∃ b, (txOf xb kb' bb).isSome = b := ⟨_, rfl⟩
      have htg : tk = true → (txOf xb kb' bb).getD [] = bb := fun h => by
        rw [h] at htk
        unfold txOf at htk ⊢
        split at htk
        · rename_i h2; rw [if_pos h2]; rfl
        · cases htk
      obtain ⟨X, hX⟩ : ∃ X, (txOf xb kb' bb).getD [] = X := ⟨_, rfl⟩
      rw [hX] at htg
      rw [htk] at HO1
      rw [htk, hX]
      have HTG := Lib.hid htg
      have z0 := HE6.out.cell 0
      have z1 := HE6.out.cell 1
      have y0 := HE6.out.open_ 0
      have y1 := HE6.out.open_ 1
      clear hm hb6 htk htg hX HGT p0 p1 p2 HM5 HE5
      by_cases hall : tk = true ∧ nd = 3
      · obtain ⟨rfl, rfl⟩ := hall
        have HSO : Hid (o = some ⟨((D.getD 2 0 : Nat) : Int), str bb⟩) := Lib.hid (by rw [HO1.out, if_pos ⟨rfl, rfl⟩])
        have hX2 := HTG.out rfl
        subst hX2
  
        obtain ⟨g7, off7, rfl, hg7, hc7⟩ := HM6.out.rd.2.2 (by rw [HND.out]; omega)
        have k7 := hc7 2 (by rw [HND.out]; omega)
        have ho7 : D.getD 2 0 < 256 := HDO.out _ (by
          have h : 2 < D.length := by rw [HND.out]; omega
          simp [List.getD, h])
        obtain ⟨y, hy⟩ : ∃ y, D.getD 2 0 = y := ⟨_, rfl⟩
        rw [hy] at k7 ho7 HSO
        clear hc7 hy HO1
        go_wp2_with fail
        rw [HSO.out]
        exact ret_att rfl rfl rfl ((HE6.out.stored 0 _).stored 1 _) rfl ⟨rfl, below_att HB6.out (Nat.le_succ _) _ _⟩
      · have HNO : Hid (o = none) := Lib.hid (by rw [HO1.out, if_neg hall])
        cases tk
        · go_wp2_with fail
          rw [HNO.out]
          exact ret_att rfl rfl rfl ((HE6.out.stored 0 _).stored 1 _) rfl ⟨_, _, rfl, below_att HB6.out (Nat.le_succ _) _ _⟩
        · have hn3 : nd ≠ 3 := fun h => hall ⟨rfl, h⟩
          have d3 : ((nd : Int) != 3) = true := by simp; omega
          go_wp2_with fail
          rw [HNO.out]
          exact ret_att rfl rfl rfl ((HE6.out.stored 0 _).stored 1 _) rfl ⟨_, _, rfl, below_att HB6.out (Nat.le_succ _) _ _⟩
end Go.Proofs.YtbdkopcmdefhoaaDoor
namespace Go.Proofs.YtbdkopcmdefhoaaDoor
open Go.RowKit
set_option linter.unusedVariables false
set_option linter.unusedSimpArgs false
attribute [local go_sem ↓] Go.wp_at_zero Go.wp_at_succ

theorem info_att : (Tryd.prog.info? 54).map (fun i => (i.zero, i.size, i.bytes)) = some (some (.agg #[.int .i64 0, .string ⟨#[]⟩]), 2, 24) := by kernel_rfl
def acell (a : Att) : List Value := [.int .i64 a.k, .string a.s]
theorem oneA {k : Int} {s : ByteArray} : ∀ u ∈ [Value.int .i64 k, .string s], u.oneCell' = true := by
  intro u hu
  simp only [List.mem_cons, List.not_mem_nil, or_false] at hu
  rcases hu with rfl | rfl <;> rfl
/-- A row of one's own of parts. -/
structure Ats (A : Option Addr) (c n : Nat) (l : List Att) (w : World) : Prop where
  len : l.length = n
  own : OwnV 54 2 w A c n (l.flatMap acell)
theorem RdA.of_own {w : World} {A : Option Addr} {c n : Nat} {l : List Att} (hl : l.length = n) (h : OwnV 54 2 w A c n (l.flatMap acell)) : RdA w w.heap.size A c l := by
  subst hl
  refine ⟨h.le.1, h.le.2, fun hn => ?_⟩
  have at3 : ∀ j, j < l.length → ∀ t, t < 2 → ∀ v, (acell (l.getD j default))[t]? = some v → ∃ g, A = some ⟨g, 0, none⟩ ∧ g < w.heap.size ∧ w.cell? ⟨g, 2 * j + t, none⟩ = some v := fun j hj t ht v hv => by
    have e : l[j]? = some (l.getD j default) := by simp [List.getD, hj]
    have f := flat_at (f := acell) (m := 2) (L := l) (fun _ _ => rfl) e (j := t) ht
    obtain ⟨g, hA, hlt, hc, _⟩ := h.at_ (j := 2 * j + t) (v := v) (by rw [f]; exact hv)
    exact ⟨g, hA, hlt, hc⟩
  obtain ⟨g, rfl, hlt, _⟩ := at3 0 hn 0 (by omega) _ rfl
  refine ⟨g, 0, rfl, hlt, fun j hj => ?_⟩
  have k : ∀ t, t < 2 → ∀ v, (acell (l.getD j default))[t]? = some v → w.cell? ⟨g, 2 * j + t, none⟩ = some v := fun t ht v hv => by
    obtain ⟨g', e, _, hc⟩ := at3 j hj t ht v hv
    injection e with e
    obtain rfl : g = g' := by injection e
    exact hc
  exact ⟨by rw [show 0 + j * 2 = 2 * j + 0 by omega]; exact k 0 (by omega) _ rfl, by rw [show 0 + j * 2 + 1 = 2 * j + 1 by omega]; exact k 1 (by omega) _ rfl⟩
theorem Ats.nil (w : World) : Ats none 0 0 [] w := ⟨rfl, OwnV.nil _ _ _⟩
theorem Ats.under {A : Option Addr} {c n : Nat} {l : List Att} {w w' : World} (h : Ats A c n l w) (hb : Below w.heap.size w w') : Ats A c n l w' := ⟨h.len, h.own.keep fun g _ hg => hb.block g hg⟩
theorem Ats.rd {A : Option Addr} {c n : Nat} {l : List Att} {w : World} (h : Ats A c n l w) : RdA w w.heap.size A c l := RdA.of_own h.len h.own
theorem Ats.push {n : Nat} {l : List Att} {w' : World} {a : Att} {g' c' : Nat} (h : l.length = n) (ho : OwnV 54 2 w' (some ⟨g', 0, none⟩) c' (n + 1) (l.flatMap acell ++ [.int .i64 a.k, .string a.s])) : Ats (some ⟨g', 0, none⟩) c' (n + 1) (l ++ [a]) w' :=
  ⟨by simp [h], by rw [List.flatMap_append]; simpa [acell] using ho⟩
/-- A part's thing read is that part. -/
theorem attr_back {s : Bool} {a : Att} (h : atOk a = true) : attrT s (atTr a) = some a := by
  obtain ⟨hk, hl, ht⟩ := atOk_iff.1 h
  obtain ⟨k, t⟩ := a
  have hk4 : k = 3 ∨ k = 6 ∨ k = 10 ∨ k = 11 := kd_cases hk
  have p1 : parted 49 = true := rfl
  have p2 : parted 48 = true := rfl
  have e1 : seqK 49 (atTr ⟨k, t⟩) = [.mk 48 [] [.mk 6 [85, 4, k.toNat] [], .mk 12 (bts t) []]] := by simp [seqK, atTr, Tr.tag, Tr.body, Tr.kids, seqOk, p1]
  have e2 : seqK 48 (.mk 48 [] [.mk 6 [85, 4, k.toNat] [], .mk 12 (bts t) []]) = [.mk 6 [85, 4, k.toNat] [], .mk 12 (bts t) []] := by simp [seqK, Tr.tag, Tr.body, Tr.kids, seqOk, p2]
  have e3 : txB (.mk 12 (bts t) []) = some (bts t) := by
    show txOf 12 0 (bts t) = _
    rw [tx_back, if_pos ht]
  have e4 : idB (.mk 6 [85, 4, k.toNat] []) = [85, 4, k.toNat] := by
    unfold idB
    show (if (heldOk 6 0 6 && idOk [85, 4, k.toNat]) = true then [85, 4, k.toNat] else []) = _
    rw [if_pos]
    rcases hk4 with rfl | rfl | rfl | rfl <;> decide +kernel
  have e5 : ((k.toNat : Nat) : Int) = k := by omega
  unfold attrT
  rw [e1]
  rw [if_neg (by cases s <;> simp [bad])]
  rw [show ([Tr.mk 48 [] [.mk 6 [85, 4, k.toNat] [], .mk 12 (bts t) []]] : List Tr).getD 0 default = .mk 48 [] [.mk 6 [85, 4, k.toNat] [], .mk 12 (bts t) []] from rfl, e2]
  rw [if_neg (by cases s <;> simp [bad])]
  rw [show ([Tr.mk 6 [85, 4, k.toNat] [], .mk 12 (bts t) []] : List Tr).getD 0 default = .mk 6 [85, 4, k.toNat] [] from rfl, show ([Tr.mk 6 [85, 4, k.toNat] [], .mk 12 (bts t) []] : List Tr).getD 1 default = .mk 12 (bts t) [] from rfl, e3, e4]
  rw [if_pos ⟨rfl, rfl⟩]
  show some (⟨((k.toNat : Nat) : Int), str (bts t)⟩ : Att) = _
  rw [e5, str_bts]
theorem attr_len {s : Bool} {t : Tr} {a : Att} (h : attrT s t = some a) : (bts a.s).length ≤ 64 := by
  unfold attrT at h
  split at h
  · cases h
  · split at h
    · cases h
    · split at h
      · rename_i h3
        injection h with h
        subst h
        have h4 := h3.1
        unfold txB txOf at h4
        split at h4
        · rename_i h5
          have h6 := h5.2
          unfold textOk at h6
          simp only [Bool.and_eq_true, decide_eq_true_eq] at h6
          rw [bts_len, str_len]
          exact h6.1
        · cases h4
      · cases h
theorem dn_parts {l : List Att} {T : Tr} (h : dnTr l = T) : seqOk T.tag T.body.length 48 = true ∧ T.kids = l.map atTr := by
  subst h
  exact ⟨rfl, rfl⟩
/-- What is read of a thing that is a name's is that name. -/
theorem dn_read {s : Bool} {l l0 : List Att} (h : dnOk l = true) {ks : List Tr} (hk : ks = l.map atTr) (hl : l0.length = ks.length) (ho : ∀ j, j < ks.length → attrT s (ks.getD j default) = some (l0.getD j default)) : l0 = l := by
  subst hk
  rw [List.length_map] at hl ho
  refine List.ext_getElem hl fun j h1 h2 => ?_
  have h3 := ho j h2
  rw [show (l.map atTr).getD j default = atTr (l.getD j default) by simp [List.getD, h2], attr_back ((dnOk_iff.1 h).2.2 j h2)] at h3
  injection h3 with h3
  simpa [List.getD, h1, h2] using h3.symm
theorem dnTr_inj {l l' : List Att} (h : dnOk l = true) (h' : dnOk l' = true) (e : dnTr l = dnTr l') : l = l' := by
  have h2 : l.map atTr = l'.map atTr := by
    simp only [dnTr] at e
    injection e
  have hl := congrArg List.length h2
  rw [List.length_map, List.length_map] at hl
  refine dn_read (s := true) h' h2 (by rw [List.length_map]) fun j hj => ?_
  rw [List.length_map] at hj
  rw [show (l.map atTr).getD j default = atTr (l.getD j default) by simp [List.getD, hj], attr_back ((dnOk_iff.1 h).2.2 j hj)]
def GetDPost (w : World) (T : Tr) (e : Ending) (w' : World) : Prop :=
  (∃ A c, ∃ l : List Att, e = .returned (.tuple #[.slice A l.length c, .bool true]) ∧ RdA w' w'.heap.size A c l ∧ dnOk l = true ∧ dnTr l = T ∧ Below w.heap.size w w') ∨
  (e = .returned (.tuple #[.slice none 0 0, .bool false]) ∧ (∀ l : List Att, dnOk l = true → dnTr l ≠ T) ∧ Below w.heap.size w w')
theorem getD_no {w w' : World} {T : Tr} (h : ∀ l : List Att, dnOk l = true → dnTr l ≠ T) (hb : Below w.heap.size w w') : GetDPost w T (.returned (.tuple #[.slice none 0 0, .bool false])) w' := .inr ⟨rfl, h, hb⟩
/-- A name's thing that is small enough. -/
def FitG (t : Tr) : Prop := t.kids.length ≤ 12000 ∧ ∀ k ∈ t.kids, FitA k
end Go.Proofs.YtbdkopcmdefhoaaDoor
namespace Go.Proofs.YtbdkopcmdefhoaaDoor
open Go.RowKit
set_option linter.unusedVariables false
set_option linter.unusedSimpArgs false
attribute [local go_sem ↓] Go.wp_at_zero Go.wp_at_succ

set_option maxRecDepth 100000 in
set_option maxHeartbeats 16000000 in
theorem getD_any (w : World) (t : Lt) (h : Off [] (ThP t) w) (hf : FitG t.t) (hT : Lib.Utf8Tabs 1 2 w) :
    Calls Tryd.prog 17 #[t.val] w (GetDPost w t.t) := by
  obtain ⟨T, hTT⟩ : ∃ T, T = t.t := ⟨_, rfl⟩
  rw [← hTT]
  have HTH := Lib.hid h
  have HTT := Lib.hid hTT
  have HVAL : Hid (t.val = .agg #[.int .u8 (t.tag : Int), .slice t.ba t.body.length t.bc, .slice t.ka t.kids.length t.kc]) := Lib.hid rfl
  have HF := Lib.hid hf
  have hko : Off [] (KiP t.ka t.kc t.kids) w := by
    obtain ⟨tag, ba, bc, body, ka, kc, kids⟩ := t
    exact kids_off h
  have htag : t.tag < 256 := by
    obtain ⟨tag, ba, bc, body, ka, kc, kids⟩ := t
    exact (ThP.iff.1 h.at_).1
  have hkl : t.kids.length ≤ 100000 := by have := hf.1; rw [(t_parts t).2.2, List.length_map] at this; omega
  have HTK : Hid (T.kids = t.kids.map Lt.t ∧ seqOk T.tag T.body.length 48 = seqOk t.tag t.body.length 48) := Lib.hid (by rw [hTT, (t_parts t).1, (t_parts t).2.1, (t_parts t).2.2]; exact ⟨rfl, rfl⟩)
  have HT := Lib.hid hT
  rw [HVAL.out]
  obtain ⟨ks, hks⟩ : ∃ ks, ks = t.kids := ⟨_, rfl⟩
  have HKS := Lib.hid hks
  rw [← hks] at hko hkl HTK HVAL ⊢
  clear h hTT hf hks hT
  generalize t.tag = tag at *
  generalize t.ba = ba at *
  generalize t.bc = bc at *
  generalize t.body.length = n at *
  generalize t.ka = ka at *
  generalize t.kc = kc at *
  obtain ⟨kn, hkn⟩ : ∃ k, k = ks.length := ⟨_, rfl⟩
  have HKN := Lib.hid hkn
  rw [← hkn] at hkl HVAL ⊢
  have hH1 := Holds.fresh w 41 #[.int .u8 (tag : Int), .slice ba n bc, .slice ka kn kc]
  have HH1 := Lib.hid hH1
  have HB1 : Hid (Below w.heap.size w (w.alloc (.cells #[.int .u8 (tag : Int), .slice ba n bc, .slice ka kn kc] 41))) := Lib.hid ((Below.refl _ _).alloc (Nat.le_refl _) _)
  have hk1 := hko.alloc (.cells #[.int .u8 (tag : Int), .slice ba n bc, .slice ka kn kc] 41)
  have HGS := Lib.hid (getSeq_any _ [] tag n bc kn kc 48 ba ka ks hk1 hkn.symm (by omega) hkl (by simp))
  have c0 := hH1.cell 0
  have c1 := hH1.cell 1
  have c2 := hH1.cell 2
  clear hko hkn hH1 hk1
  rcases hsq : seqOk tag n 48 with _ | _
  case false =>
    have HNO : Hid (∀ l : List Att, dnOk l = true → dnTr l ≠ T) := Lib.hid fun l _ h2 => by
      have := (dn_parts h2).1
      rw [HTK.out.2, hsq] at this
      cases this
    rw [hsq] at HGS
    go_enter Tryd.func17, Tryd.ntmps17
    go_wp2_with fail
    refine HGS.out.mono ?_
    rintro e w3 ⟨rfl, hb3⟩
    have HB3 := Lib.hid (HB1.out.trans (hb3.mono HB1.out.size))
    clear hb3 HGS
    go_wp2_with fail
    go_ret2
    exact getD_no HNO.out HB3.out
  rw [hsq] at HGS
  have HSQ := Lib.hid hsq
  clear hsq
  by_cases h4 : 4 < kn
  case pos =>
    have HNO : Hid (∀ l : List Att, dnOk l = true → dnTr l ≠ T) := Lib.hid fun l h1 h2 => by
      have h3 := (dn_parts h2).2
      rw [HTK.out.1] at h3
      have h4' := congrArg List.length h3
      rw [List.length_map, List.length_map, ← HKN.out] at h4'
      have := (dnOk_iff.1 h1).2.1
      omega
    have d1 : decide ((4 : Int) < (kn : Int)) = true := decide_eq_true (by omega)
    go_enter Tryd.func17, Tryd.ntmps17
    go_wp2_with fail
    refine HGS.out.mono ?_
    rintro e w3 ⟨A3, c3, rfl, hk3, hb3⟩
    rw [← HKN.out]
    have HB3 := Lib.hid (HB1.out.trans (hb3.mono HB1.out.size))
    clear hb3 HGS hk3
    go_wp2_with fail
    go_ret2
    exact getD_no HNO.out HB3.out
  have d1 : decide ((4 : Int) < (kn : Int)) = false := decide_eq_false (by omega)
  go_enter Tryd.func17, Tryd.ntmps17
  go_wp2_with fail
  refine HGS.out.mono ?_
  rintro e w3 ⟨A3, c3, rfl, hk3, hb3⟩
  rw [← HKN.out]
  have HB3 := Lib.hid (HB1.out.trans (hb3.mono HB1.out.size))
  have HH3 := Lib.hid (HH1.out.under hb3 HH1.out.lt)
  have HK3 := Lib.hid hk3
  have hmc : kn ≤ c3 := by rw [HKN.out]; exact hk3.at_.1.1
  have hc63 := hk3.at_.1.2.1
  clear hb3 HGS hk3 c0 c1 c2 d1
  go_wp2_with fail
  go_loopw [6, 25] (fun lv iv wr => ∃ (i : Nat) (A : Option Addr) (c : Nat) (l : List Att), i ≤ kn ∧ iv = .int .i64 (i : Int) ∧ lv = .slice A i c ∧ Ats A c i l wr ∧ Hid (∀ j, j < i → attrT false (ks.getD j default).t = some (l.getD j default)) ∧ Hid (∀ g, blockOf A = some g → w3.heap.size ≤ g) ∧ Below w3.heap.size w3 wr) (fun _ iv _ => kn - (intOf iv).toNat)
  case atStart => exact ⟨0, none, 0, [], by omega, rfl, rfl, Ats.nil _, Lib.hid fun j hj => by omega, Lib.hid fun g hg => by simp [blockOf] at hg, Below.refl _ _⟩
  case round =>
    obtain ⟨i, A, c, l, hi, rfl, rfl, hE, HA, HG, hB⟩ := hrel
    have HB := Lib.hid hB
    have HE := Lib.hid hE
    clear hB hE
    by_cases hlt : i < kn
    · have hk4 := HK3.out.under HB.out
      obtain ⟨g, off, rfl, hg, hcs⟩ := KiP.cells (j := i) hk4 (by rw [← HKN.out]; exact hlt)
      obtain ⟨q0, q1, q2⟩ := hcs wr (Below.refl _ _)
      have hti := KiP.kid hk4 (j := i) (by rw [← HKN.out]; exact hlt)
      have HFI : Hid (FitA (ks.getD i default).t) := Lib.hid (by
        refine HF.out.2 _ ?_
        rw [(t_parts t).2.2, ← HKS.out]
        exact List.mem_map_of_mem (getD_mem (by rw [← HKN.out]; exact hlt)))
      obtain ⟨q, hq⟩ : ∃ q, q = ks.getD i default := ⟨_, rfl⟩
      rw [← hq] at q0 q1 q2 hti HFI
      have HQ := Lib.hid hq
      clear hq hcs hk4
      have hq1 : Below wr.heap.size wr (wr.alloc (.cells #[.int .u8 (q.tag : Int), .slice q.ba q.body.length q.bc, .slice q.ka q.kids.length q.kc] 41)) := (Below.refl _ _).alloc (Nat.le_refl _) _
      have hHq := Holds.fresh wr 41 #[.int .u8 (q.tag : Int), .slice q.ba q.body.length q.bc, .slice q.ka q.kids.length q.kc]
      have z0 := hHq.cell 0
      have z1 := hHq.cell 1
      have z2 := hHq.cell 2
      have HON : Hid (Calls Tryd.prog 28 #[.agg #[.int .u8 (q.tag : Int), .slice q.ba q.body.length q.bc, .slice q.ka q.kids.length q.kc]] (wr.alloc (.cells #[.int .u8 (q.tag : Int), .slice q.ba q.body.length q.bc, .slice q.ka q.kids.length q.kc] 41)) (AttrP (wr.alloc (.cells #[.int .u8 (q.tag : Int), .slice q.ba q.body.length q.bc, .slice q.ka q.kids.length q.kc] 41)) (attrT false q.t))) := Lib.hid (attr_any (wr.alloc (.cells #[.int .u8 (q.tag : Int), .slice q.ba q.body.length q.bc, .slice q.ka q.kids.length q.kc] 41)) q (hti.under hq1) HFI.out (Utf8Tabs_below HT.out (HB3.out.trans ((HB.out.trans (hq1.mono HB.out.size)).mono HB3.out.size))))
      have HQ1 := Lib.hid hq1
      clear hq1 hti HFI hHq
      generalize q.tag = qt at *
      generalize q.ba = qa at *
      generalize q.bc = qc at *
      generalize q.body.length = qn at *
      generalize q.ka = qk at *
      generalize q.kids.length = qm at *
      generalize q.kc = qd at *
      rcases hot : attrT false q.t with _ | ev
      · have HNO : Hid (∀ l : List Att, dnOk l = true → dnTr l ≠ T) := Lib.hid fun l2 h1 h2 => by
          have h3 := (dn_parts h2).2
          rw [HTK.out.1] at h3
          have h4' : (ks.map Lt.t).getD i default = (l2.map atTr).getD i default := by rw [h3]
          have hl2 : i < l2.length := by have h5 := congrArg List.length h3; rw [List.length_map, List.length_map, ← HKN.out] at h5; omega
          rw [lt_at (by rw [← HKN.out]; exact hlt), show (l2.map atTr).getD i default = atTr (l2.getD i default) by simp [List.getD, hl2]] at h4'
          rw [HQ.out, h4', attr_back ((dnOk_iff.1 h1).2.2 i hl2)] at hot
          cases hot
        rw [hot] at HON
        clear hot
        go_wp2_with fail
        refine HON.out.mono ?_
        rintro e w5 ⟨k0, s0, rfl, hb5⟩
        have HB5 := Lib.hid (HB3.out.trans ((HB.out.trans ((HQ1.out.trans (hb5.mono HQ1.out.size)).mono HB.out.size)).mono HB3.out.size))
        have HB6 : Hid (Below w.heap.size w (w5.alloc (.cells #[.int .i64 k0, .string s0] 54))) := Lib.hid (HB5.out.alloc HB5.out.size _)
        clear hb5 q0 q1 q2 HON z0 z1 z2
        go_wp2_with fail
        go_ret2
        exact getD_no HNO.out HB6.out
      · have HEV := Lib.hid hot
        rw [hot] at HON
        clear hot
        go_wp2_with fail
        refine HON.out.mono ?_
        rintro e w5 ⟨rfl, hb5⟩
        have hb15 := HQ1.out.trans (hb5.mono HQ1.out.size)
        obtain ⟨k0, s0⟩ := ev
        dsimp only
        have hH6 := Holds.fresh w5 54 #[.int .i64 k0, .string s0]
        have hq6 : Below w5.heap.size w5 (w5.alloc (.cells #[.int .i64 k0, .string s0] 54)) := (Below.refl _ _).alloc (Nat.le_refl _) _
        have hq7 : Below (w5.alloc (.cells #[.int .i64 k0, .string s0] 54)).heap.size (w5.alloc (.cells #[.int .i64 k0, .string s0] 54)) ((w5.alloc (.cells #[.int .i64 k0, .string s0] 54)).alloc (.cells #[.int .i64 k0, .string s0] 54)) := (Below.refl _ _).alloc (Nat.le_refl _) _
        have hq67 := hq6.trans (hq7.mono hq6.size)
        have hb17 := hb15.trans (hq67.mono hb15.size)
        have HB7 := Lib.hid (HB.out.trans (hb17.mono HB.out.size))
        have HE7 := Lib.hid (HE.out.under hb17)
        have hfx : Holds ((w5.alloc (.cells #[.int .i64 k0, .string s0] 54)).alloc (.cells #[.int .i64 k0, .string s0] 54)) (w5.alloc (.cells #[.int .i64 k0, .string s0] 54)).heap.size 54 [.int .i64 k0, .string s0].toArray := Holds.fresh _ _ _
        have hs6 : (w5.alloc (.cells #[.int .i64 k0, .string s0] 54)).heap.size = w5.heap.size + 1 := by simp
        rw [hs6] at hfx
        have HFX := Lib.hid hfx
        have HOW := Lib.hid HE7.out.own
        have a0 := hH6.cell 0
        have a1 := hH6.cell 1
        clear hb5 hb15 hq6 hq7 hq67 hb17 hH6 hfx hs6 q0 q1 q2 HON z0 z1 z2
        go_wp2_with (first | (at_builtin; refine wpList_pushV _ rfl (.tmp 36) (.tmp 38) 76 rfl 54 _ 2 24 Tryd.underlying76 info_att rfl (by omega) (by omega) rfl HOW.out (cs := [.int .i64 k0, .string s0]) rfl rfl oneA HFX.out (by omega) ?_; intro g9 c9 W9 ho9 hg9 hat9 hlt9))
        have HE9 := Lib.hid (Ats.push (a := ⟨k0, s0⟩) HE7.out.len ho9)
        have HB9 := Lib.hid (below_own HB7.out hg9 HG.out (Nat.le_refl _))
        have HG9 : Hid (∀ g, blockOf (some (⟨g9, 0, none⟩ : Addr)) = some g → w3.heap.size ≤ g) := Lib.hid fun g hg => by
          rcases hat9 with h | h
          · exact HG.out g (h.trans (by simpa [blockOf] using hg))
          · have e : g9 = g := by simpa [blockOf] using hg
            have := HB7.out.size
            omega
        have HA9 : Hid (∀ j, j < i + 1 → attrT false (ks.getD j default).t = some ((l ++ [(⟨k0, s0⟩ : Att)]).getD j default)) := Lib.hid fun j hj => by
          have hl := HE.out.len
          rcases Nat.lt_or_ge j i with h3 | h3
          · rw [HA.out j h3]
            simp [List.getD, List.getElem?_append_left (show j < l.length by omega)]
          · obtain rfl : j = i := by omega
            rw [← HQ.out, HEV.out]
            simp [List.getD, hl]
        clear ho9 hg9 hat9 HOW HFX HE7
        go_wp2_with fail
        go_roundw
        case rel => exact ⟨i + 1, _, _, _, by omega, by go_num, rfl, HE9.out, HA9, HG9, HB9.out⟩
        case measure => simp [intOf]; omega
    · obtain rfl : i = kn := by omega
      have HLL : Hid (l.length = i) := Lib.hid HE.out.len
      have HRD : Hid (∀ l2 : List Att, dnOk l2 = true → dnTr l2 = T → l = l2) := Lib.hid fun l2 h1 h2 => by
        have h3 := (dn_parts h2).2
        rw [HTK.out.1] at h3
        refine dn_read (s := false) h1 h3 (by rw [List.length_map, HLL.out, HKN.out]) fun j hj => ?_
        rw [List.length_map, ← HKN.out] at hj
        rw [lt_at (by rw [← HKN.out]; exact hj), HA.out j hj]
      have HBW := Lib.hid (HB3.out.trans (HB.out.mono HB3.out.size))
      have HSZ : Hid (∀ x ∈ l, (bts x.s).length ≤ 64) := Lib.hid fun x hx => by
        obtain ⟨j, hj, rfl⟩ := List.getElem_of_mem hx
        have h1 := attr_len (HA.out j (by rw [← HLL.out]; exact hj))
        have h2 : l.getD j default = l[j] := by simp [List.getD, hj]
        rwa [h2] at h1
      have hxp := HE.out.rd
      have HXP : Hid (∀ W, Below wr.heap.size wr W → RdA W W.heap.size A c l) := Lib.hid fun W hW => (hxp.under hW).more hW.size
      have HTB : Hid (∀ W, Below wr.heap.size wr W → Lib.Utf8Tabs 1 2 W) := Lib.hid fun W hW => Utf8Tabs_below HT.out (HBW.out.trans (hW.mono HBW.out.size))
      have HIS : Hid (∀ W, Below wr.heap.size wr W → Calls Tryd.prog 29 #[.slice A i c] W fun e w' => e = .returned (.bool (dnOk l)) ∧ Below W.heap.size W w') := Lib.hid fun W hW => isDn_any W _ A c i l HLL.out (HXP.out W hW) (Nat.le_refl _) (fun x hx => by have := HSZ.out x hx; omega) (HTB.out W hW)
      clear hxp
      rcases hxi : dnOk l with _ | _
      · have HNO : Hid (∀ l2 : List Att, dnOk l2 = true → dnTr l2 ≠ T) := Lib.hid fun l2 h1 h2 => by
          have h3 := HRD.out l2 h1 h2
          rw [h3, h1] at hxi
          cases hxi
        rw [hxi] at HIS
        clear hxi
        go_wp2_with fail
        refine wp_region_noPanic ?_
        refine wp_region_held_drew (S := fun W => Below wr.heap.size wr W) (by kernel_rfl) (Below.refl _ wr).drew (fun hHeld => ?_)
        refine wpAnyH_take (i := 0) (oi := { dst := some 41, op := Op.move (Operand.tmp 6), type := 76, pos := _, after := _, guard := none }) (v := ?_) rfl (by kernel_rfl) (by kernel_rfl) (by kernel_rfl) (fun _ _ _ h => h) (Or.inl ⟨by rfl, ?_⟩) hHeld ?_
        rotate_left 1
        · (intro W hW; (try dsimp only at hW); go_simp; try with_reducible rfl)
        try simp only [Act.put, List.setIfInBounds_toArray, List.set_cons_zero, List.set_cons_succ]
        refine wpAnyH_ready (rs := [1]) (by kernel_rfl) (by simp) ?_
        refine AllReadyH.cons (o := { dst := some 42, op := Op.call { callee := Callee.value (Operand.func 29), args := #[Operand.tmp 41], argTypes := #[76] }, type := 4, pos := _, after := _, guard := none }) rfl (fun K hK => ?_) AllReadyH.nil
        go_simp
        refine (HIS.out _ ((Below.refl _ wr).drew)).mono ?_
        rintro e w4 ⟨rfl, hb4⟩
        have b4 : Hid (Below wr.heap.size wr w4) := Lib.hid (((Below.refl _ wr).drew).trans hb4)
        clear hb4
        go_simp
        refine hK.out _ _ (b4.out) (fun _ => ?_)
        clear hK K hHeld
        try simp only [Act.put, List.setIfInBounds_toArray, List.set_cons_zero, List.set_cons_succ]
        refine wpAnyH_strong (S' := fun W => Below w4.heap.size w4 W) (fun W hW => b4.out.trans (hW.mono b4.out.size)) _ _ _ _ ?_
        have hHeld : (fun W => Below w4.heap.size w4 W) w4 := Below.refl _ _
        refine wpAnyH_take (i := 2) (oi := { dst := some 43, op := Op.unOp UnOp.not 4 (Operand.tmp 42), type := 4, pos := _, after := _, guard := none }) (v := ?_) rfl (by kernel_rfl) (by kernel_rfl) (by kernel_rfl) (fun _ _ _ h => h) (Or.inl ⟨by rfl, ?_⟩) hHeld ?_
        rotate_left 1
        · (intro W hW; (try dsimp only at hW); go_simp; try with_reducible rfl)
        try simp only [Act.put, List.setIfInBounds_toArray, List.set_cons_zero, List.set_cons_succ]
        refine wpAnyH_take (i := 3) (oi := { dst := some 44, op := Op.move (Operand.tmp 43), type := 4, pos := _, after := _, guard := none }) (v := ?_) rfl (by kernel_rfl) (by kernel_rfl) (by kernel_rfl) (fun _ _ _ h => h) (Or.inl ⟨by rfl, ?_⟩) hHeld ?_
        rotate_left 1
        · (intro W hW; (try dsimp only at hW); go_simp; try with_reducible rfl)
        try simp only [Act.put, List.setIfInBounds_toArray, List.set_cons_zero, List.set_cons_succ]
        refine wpAnyH_take (i := 4) (oi := { dst := some 45, op := Op.move (Operand.tmp 6), type := 76, pos := _, after := _, guard := some (3, false) }) (v := undef) rfl (by kernel_rfl) (by kernel_rfl) (by kernel_rfl) (fun _ _ _ h => h) (Or.inr ⟨by rfl, rfl⟩) hHeld ?_
        try simp only [Act.put, List.setIfInBounds_toArray, List.set_cons_zero, List.set_cons_succ]
        refine wpAnyH_take (i := 5) (oi := { dst := some 46, op := Op.call { callee := Callee.value (Operand.func 31), args := #[Operand.tmp 45], argTypes := #[76] }, type := 41, pos := _, after := _, guard := some (3, false) }) (v := undef) rfl (by kernel_rfl) (by kernel_rfl) (by kernel_rfl) (fun _ _ _ h => h) (Or.inr ⟨by rfl, rfl⟩) hHeld ?_
        try simp only [Act.put, List.setIfInBounds_toArray, List.set_cons_zero, List.set_cons_succ]
        refine wpAnyH_take (i := 6) (oi := { dst := some 47, op := Op.load 41 (Operand.tmp 1), type := 41, pos := _, after := _, guard := some (3, false) }) (v := undef) rfl (by kernel_rfl) (by kernel_rfl) (by kernel_rfl) (fun _ _ _ h => h) (Or.inr ⟨by rfl, rfl⟩) hHeld ?_
        try simp only [Act.put, List.setIfInBounds_toArray, List.set_cons_zero, List.set_cons_succ]
        refine wpAnyH_take (i := 7) (oi := { dst := some 48, op := Op.call { callee := Callee.value (Operand.func 30), args := #[Operand.tmp 46, Operand.tmp 47], argTypes := #[41, 41] }, type := 4, pos := _, after := _, guard := some (3, false) }) (v := undef) rfl (by kernel_rfl) (by kernel_rfl) (by kernel_rfl) (fun _ _ _ h => h) (Or.inr ⟨by rfl, rfl⟩) hHeld ?_
        try simp only [Act.put, List.setIfInBounds_toArray, List.set_cons_zero, List.set_cons_succ]
        refine wpAnyH_take (i := 8) (oi := { dst := some 49, op := Op.unOp UnOp.not 4 (Operand.tmp 48), type := 4, pos := _, after := _, guard := some (3, false) }) (v := undef) rfl (by kernel_rfl) (by kernel_rfl) (by kernel_rfl) (fun _ _ _ h => h) (Or.inr ⟨by rfl, rfl⟩) hHeld ?_
        try simp only [Act.put, List.setIfInBounds_toArray, List.set_cons_zero, List.set_cons_succ]
        refine wpAnyH_take (i := 9) (oi := { dst := some 50, op := Op.pick (Operand.tmp 44) (Operand.const (Value.bool true)) (Operand.tmp 49), type := 4, pos := _, after := _, guard := none }) (v := ?_) rfl (by kernel_rfl) (by kernel_rfl) (by kernel_rfl) (fun _ _ _ h => h) (Or.inl ⟨by rfl, ?_⟩) hHeld ?_
        rotate_left 1
        · (intro W hW; (try dsimp only at hW); go_simp; try with_reducible rfl)
        try simp only [Act.put, List.setIfInBounds_toArray, List.set_cons_zero, List.set_cons_succ]
        refine wpAnyH_done (by kernel_rfl) ?_ _
        refine NoPanic.normal ?_
        go_wp2_with fail
        go_ret2
        exact getD_no HNO.out (HBW.out.trans (b4.out.mono HBW.out.size))
      · have HXI := Lib.hid hxi
        have HND : Hid (∀ W, Below wr.heap.size wr W → Calls Tryd.prog 31 #[.slice A i c] W (MadeT W [] (dnTr l))) := Lib.hid fun W hW => dnNode_any W [] _ A c i l HLL.out (HXP.out W hW) (Nat.le_refl _) hxi (HTB.out W hW) (by simp)
        rw [hxi] at HIS
        clear hxi
        have HZ : Hid (∀ W, Below wr.heap.size wr W → W.cell? ⟨w.heap.size, 0, none⟩ = some (.int .u8 (tag : Int)) ∧ W.cell? ⟨w.heap.size, 1, none⟩ = some (.slice ba n bc) ∧ W.cell? ⟨w.heap.size, 2, none⟩ = some (.slice ka i kc)) := Lib.hid fun W hW => by
          have h := (HH3.out.under HB.out HH3.out.lt).under hW (by have := HH3.out.lt; have := HB.out.size; omega)
          exact ⟨h.cell 0, h.cell 1, h.cell 2⟩
        by_cases hte : dnTr l = T
        · have HS : Hid (∀ (W : World) (lt : Lt), Below wr.heap.size wr W → lt.t = dnTr l → Off [] (ThP lt) W → Calls Tryd.prog 30 #[lt.val, .agg #[.int .u8 (tag : Int), .slice ba n bc, .slice ka i kc]] W fun e w' => e = .returned (.bool true) ∧ Below W.heap.size W w') := Lib.hid fun W lt hW hl ho => by
            rw [← HVAL.out]
            exact same_any lt t W W.heap.size ho.at_ (HTH.out.under (HBW.out.trans (hW.mono HBW.out.size))).at_ (Nat.le_refl _) true (by rw [hl, hte, HTT.out]; simp)
          have HTE := Lib.hid hte
          clear hte
          go_wp2_with fail
          refine wp_region_noPanic ?_
          refine wp_region_held_drew (S := fun W => Below wr.heap.size wr W) (by kernel_rfl) (Below.refl _ wr).drew (fun hHeld => ?_)
          refine wpAnyH_take (i := 0) (oi := { dst := some 41, op := Op.move (Operand.tmp 6), type := 76, pos := _, after := _, guard := none }) (v := ?_) rfl (by kernel_rfl) (by kernel_rfl) (by kernel_rfl) (fun _ _ _ h => h) (Or.inl ⟨by rfl, ?_⟩) hHeld ?_
          rotate_left 1
          · (intro W hW; (try dsimp only at hW); go_simp; try with_reducible rfl)
          try simp only [Act.put, List.setIfInBounds_toArray, List.set_cons_zero, List.set_cons_succ]
          refine wpAnyH_ready (rs := [1]) (by kernel_rfl) (by simp) ?_
          refine AllReadyH.cons (o := { dst := some 42, op := Op.call { callee := Callee.value (Operand.func 29), args := #[Operand.tmp 41], argTypes := #[76] }, type := 4, pos := _, after := _, guard := none }) rfl (fun K hK => ?_) AllReadyH.nil
          go_simp
          refine (HIS.out _ ((Below.refl _ wr).drew)).mono ?_
          rintro e w4 ⟨rfl, hb4⟩
          have b4 : Hid (Below wr.heap.size wr w4) := Lib.hid (((Below.refl _ wr).drew).trans hb4)
          clear hb4
          go_simp
          refine hK.out _ _ (b4.out) (fun _ => ?_)
          clear hK K hHeld
          try simp only [Act.put, List.setIfInBounds_toArray, List.set_cons_zero, List.set_cons_succ]
          refine wpAnyH_strong (S' := fun W => Below w4.heap.size w4 W) (fun W hW => b4.out.trans (hW.mono b4.out.size)) _ _ _ _ ?_
          have hHeld : (fun W => Below w4.heap.size w4 W) w4 := Below.refl _ _
          refine wpAnyH_take (i := 2) (oi := { dst := some 43, op := Op.unOp UnOp.not 4 (Operand.tmp 42), type := 4, pos := _, after := _, guard := none }) (v := ?_) rfl (by kernel_rfl) (by kernel_rfl) (by kernel_rfl) (fun _ _ _ h => h) (Or.inl ⟨by rfl, ?_⟩) hHeld ?_
          rotate_left 1
          · (intro W hW; (try dsimp only at hW); go_simp; try with_reducible rfl)
          try simp only [Act.put, List.setIfInBounds_toArray, List.set_cons_zero, List.set_cons_succ]
          refine wpAnyH_take (i := 3) (oi := { dst := some 44, op := Op.move (Operand.tmp 43), type := 4, pos := _, after := _, guard := none }) (v := ?_) rfl (by kernel_rfl) (by kernel_rfl) (by kernel_rfl) (fun _ _ _ h => h) (Or.inl ⟨by rfl, ?_⟩) hHeld ?_
          rotate_left 1
          · (intro W hW; (try dsimp only at hW); go_simp; try with_reducible rfl)
          try simp only [Act.put, List.setIfInBounds_toArray, List.set_cons_zero, List.set_cons_succ]
          refine wpAnyH_take (i := 4) (oi := { dst := some 45, op := Op.move (Operand.tmp 6), type := 76, pos := _, after := _, guard := some (3, false) }) (v := ?_) rfl (by kernel_rfl) (by kernel_rfl) (by kernel_rfl) (fun _ _ _ h => h) (Or.inl ⟨by rfl, ?_⟩) hHeld ?_
          rotate_left 1
          · (intro W hW; (try dsimp only at hW); go_simp; try with_reducible rfl)
          try simp only [Act.put, List.setIfInBounds_toArray, List.set_cons_zero, List.set_cons_succ]
          refine wpAnyH_take (i := 6) (oi := { dst := some 47, op := Op.load 41 (Operand.tmp 1), type := 41, pos := _, after := _, guard := some (3, false) }) (v := ?_) rfl (by kernel_rfl) (by kernel_rfl) (by kernel_rfl) (fun _ _ _ h => h) (Or.inl ⟨by rfl, ?_⟩) hHeld ?_
          rotate_left 1
          · (intro W hW; obtain ⟨k0, k1, k2⟩ := HZ.out W (b4.out.trans (hW.mono b4.out.size)); (try dsimp only at hW); go_simp; try with_reducible rfl)
          try simp only [Act.put, List.setIfInBounds_toArray, List.set_cons_zero, List.set_cons_succ]
          refine wpAnyH_ready (rs := [5]) (by kernel_rfl) (by simp) ?_
          refine AllReadyH.cons (o := { dst := some 46, op := Op.call { callee := Callee.value (Operand.func 31), args := #[Operand.tmp 45], argTypes := #[76] }, type := 41, pos := _, after := _, guard := some (3, false) }) rfl (fun K hK => ?_) AllReadyH.nil
          go_simp
          refine (HND.out _ b4.out).mono ?_
          rintro e w5 hm5
          obtain ⟨lt5, pt, pa, pn, pc, pk, pm, pd, rfl, h65, hT5, hO5, hb5⟩ := MadeT.six hm5
          have b5 : Hid (Below w4.heap.size w4 w5) := Lib.hid hb5
          have H5 := Lib.hid (b4.out.trans (hb5.mono b4.out.size))
          have HSA := Lib.hid (HS.out w5 lt5 H5.out hT5 hO5)
          rw [h65.val] at HSA
          clear hb5 hm5 hT5 hO5 h65
          go_simp
          refine hK.out _ _ (b5.out) (fun _ => ?_)
          clear hK K hHeld
          try simp only [Act.put, List.setIfInBounds_toArray, List.set_cons_zero, List.set_cons_succ]
          refine wpAnyH_strong (S' := fun W => Below w5.heap.size w5 W) (fun W hW => b5.out.trans (hW.mono b5.out.size)) _ _ _ _ ?_
          have hHeld : (fun W => Below w5.heap.size w5 W) w5 := Below.refl _ _
          refine wpAnyH_ready (rs := [7]) (by kernel_rfl) (by simp) ?_
          refine AllReadyH.cons (o := { dst := some 48, op := Op.call { callee := Callee.value (Operand.func 30), args := #[Operand.tmp 46, Operand.tmp 47], argTypes := #[41, 41] }, type := 4, pos := _, after := _, guard := some (3, false) }) rfl (fun K hK => ?_) AllReadyH.nil
          go_simp
          refine HSA.out.mono ?_
          rintro e w7 ⟨rfl, hb7⟩
          have b7 : Hid (Below w5.heap.size w5 w7) := Lib.hid hb7
          have H7 := Lib.hid (H5.out.trans (hb7.mono H5.out.size))
          clear hb7
          go_simp
          refine hK.out _ _ (b7.out) (fun _ => ?_)
          clear hK K hHeld
          try simp only [Act.put, List.setIfInBounds_toArray, List.set_cons_zero, List.set_cons_succ]
          refine wpAnyH_strong (S' := fun W => Below w7.heap.size w7 W) (fun W hW => b7.out.trans (hW.mono b7.out.size)) _ _ _ _ ?_
          have hHeld : (fun W => Below w7.heap.size w7 W) w7 := Below.refl _ _
          refine wpAnyH_take (i := 8) (oi := { dst := some 49, op := Op.unOp UnOp.not 4 (Operand.tmp 48), type := 4, pos := _, after := _, guard := some (3, false) }) (v := ?_) rfl (by kernel_rfl) (by kernel_rfl) (by kernel_rfl) (fun _ _ _ h => h) (Or.inl ⟨by rfl, ?_⟩) hHeld ?_
          rotate_left 1
          · (intro W hW; (try dsimp only at hW); go_simp; try with_reducible rfl)
          try simp only [Act.put, List.setIfInBounds_toArray, List.set_cons_zero, List.set_cons_succ]
          refine wpAnyH_take (i := 9) (oi := { dst := some 50, op := Op.pick (Operand.tmp 44) (Operand.const (Value.bool true)) (Operand.tmp 49), type := 4, pos := _, after := _, guard := none }) (v := ?_) rfl (by kernel_rfl) (by kernel_rfl) (by kernel_rfl) (fun _ _ _ h => h) (Or.inl ⟨by rfl, ?_⟩) hHeld ?_
          rotate_left 1
          · (intro W hW; (try dsimp only at hW); go_simp; try with_reducible rfl)
          try simp only [Act.put, List.setIfInBounds_toArray, List.set_cons_zero, List.set_cons_succ]
          refine wpAnyH_done (by kernel_rfl) ?_ _
          refine NoPanic.normal ?_
          go_wp2_with fail
          go_ret2
          exact .inl ⟨A, c, l, by rw [HLL.out]; rfl, HXP.out _ H7.out, HXI.out, HTE.out, HBW.out.trans (H7.out.mono HBW.out.size)⟩
        · have HS : Hid (∀ (W : World) (lt : Lt), Below wr.heap.size wr W → lt.t = dnTr l → Off [] (ThP lt) W → Calls Tryd.prog 30 #[lt.val, .agg #[.int .u8 (tag : Int), .slice ba n bc, .slice ka i kc]] W fun e w' => e = .returned (.bool false) ∧ Below W.heap.size W w') := Lib.hid fun W lt hW hl ho => by
            rw [← HVAL.out]
            exact same_any lt t W W.heap.size ho.at_ (HTH.out.under (HBW.out.trans (hW.mono HBW.out.size))).at_ (Nat.le_refl _) false (by rw [hl, ← HTT.out]; simp [hte])
          have HNO : Hid (∀ l2 : List Att, dnOk l2 = true → dnTr l2 ≠ T) := Lib.hid fun l2 h1 h2 => by
            have h3 := HRD.out l2 h1 h2
            exact hte (by rw [h3]; exact h2)
          clear hte
          go_wp2_with fail
          refine wp_region_noPanic ?_
          refine wp_region_held_drew (S := fun W => Below wr.heap.size wr W) (by kernel_rfl) (Below.refl _ wr).drew (fun hHeld => ?_)
          refine wpAnyH_take (i := 0) (oi := { dst := some 41, op := Op.move (Operand.tmp 6), type := 76, pos := _, after := _, guard := none }) (v := ?_) rfl (by kernel_rfl) (by kernel_rfl) (by kernel_rfl) (fun _ _ _ h => h) (Or.inl ⟨by rfl, ?_⟩) hHeld ?_
          rotate_left 1
          · (intro W hW; (try dsimp only at hW); go_simp; try with_reducible rfl)
          try simp only [Act.put, List.setIfInBounds_toArray, List.set_cons_zero, List.set_cons_succ]
          refine wpAnyH_ready (rs := [1]) (by kernel_rfl) (by simp) ?_
          refine AllReadyH.cons (o := { dst := some 42, op := Op.call { callee := Callee.value (Operand.func 29), args := #[Operand.tmp 41], argTypes := #[76] }, type := 4, pos := _, after := _, guard := none }) rfl (fun K hK => ?_) AllReadyH.nil
          go_simp
          refine (HIS.out _ ((Below.refl _ wr).drew)).mono ?_
          rintro e w4 ⟨rfl, hb4⟩
          have b4 : Hid (Below wr.heap.size wr w4) := Lib.hid (((Below.refl _ wr).drew).trans hb4)
          clear hb4
          go_simp
          refine hK.out _ _ (b4.out) (fun _ => ?_)
          clear hK K hHeld
          try simp only [Act.put, List.setIfInBounds_toArray, List.set_cons_zero, List.set_cons_succ]
          refine wpAnyH_strong (S' := fun W => Below w4.heap.size w4 W) (fun W hW => b4.out.trans (hW.mono b4.out.size)) _ _ _ _ ?_
          have hHeld : (fun W => Below w4.heap.size w4 W) w4 := Below.refl _ _
          refine wpAnyH_take (i := 2) (oi := { dst := some 43, op := Op.unOp UnOp.not 4 (Operand.tmp 42), type := 4, pos := _, after := _, guard := none }) (v := ?_) rfl (by kernel_rfl) (by kernel_rfl) (by kernel_rfl) (fun _ _ _ h => h) (Or.inl ⟨by rfl, ?_⟩) hHeld ?_
          rotate_left 1
          · (intro W hW; (try dsimp only at hW); go_simp; try with_reducible rfl)
          try simp only [Act.put, List.setIfInBounds_toArray, List.set_cons_zero, List.set_cons_succ]
          refine wpAnyH_take (i := 3) (oi := { dst := some 44, op := Op.move (Operand.tmp 43), type := 4, pos := _, after := _, guard := none }) (v := ?_) rfl (by kernel_rfl) (by kernel_rfl) (by kernel_rfl) (fun _ _ _ h => h) (Or.inl ⟨by rfl, ?_⟩) hHeld ?_
          rotate_left 1
          · (intro W hW; (try dsimp only at hW); go_simp; try with_reducible rfl)
          try simp only [Act.put, List.setIfInBounds_toArray, List.set_cons_zero, List.set_cons_succ]
          refine wpAnyH_take (i := 4) (oi := { dst := some 45, op := Op.move (Operand.tmp 6), type := 76, pos := _, after := _, guard := some (3, false) }) (v := ?_) rfl (by kernel_rfl) (by kernel_rfl) (by kernel_rfl) (fun _ _ _ h => h) (Or.inl ⟨by rfl, ?_⟩) hHeld ?_
          rotate_left 1
          · (intro W hW; (try dsimp only at hW); go_simp; try with_reducible rfl)
          try simp only [Act.put, List.setIfInBounds_toArray, List.set_cons_zero, List.set_cons_succ]
          refine wpAnyH_take (i := 6) (oi := { dst := some 47, op := Op.load 41 (Operand.tmp 1), type := 41, pos := _, after := _, guard := some (3, false) }) (v := ?_) rfl (by kernel_rfl) (by kernel_rfl) (by kernel_rfl) (fun _ _ _ h => h) (Or.inl ⟨by rfl, ?_⟩) hHeld ?_
          rotate_left 1
          · (intro W hW; obtain ⟨k0, k1, k2⟩ := HZ.out W (b4.out.trans (hW.mono b4.out.size)); (try dsimp only at hW); go_simp; try with_reducible rfl)
          try simp only [Act.put, List.setIfInBounds_toArray, List.set_cons_zero, List.set_cons_succ]
          refine wpAnyH_ready (rs := [5]) (by kernel_rfl) (by simp) ?_
          refine AllReadyH.cons (o := { dst := some 46, op := Op.call { callee := Callee.value (Operand.func 31), args := #[Operand.tmp 45], argTypes := #[76] }, type := 41, pos := _, after := _, guard := some (3, false) }) rfl (fun K hK => ?_) AllReadyH.nil
          go_simp
          refine (HND.out _ b4.out).mono ?_
          rintro e w5 hm5
          obtain ⟨lt5, pt, pa, pn, pc, pk, pm, pd, rfl, h65, hT5, hO5, hb5⟩ := MadeT.six hm5
          have b5 : Hid (Below w4.heap.size w4 w5) := Lib.hid hb5
          have H5 := Lib.hid (b4.out.trans (hb5.mono b4.out.size))
          have HSA := Lib.hid (HS.out w5 lt5 H5.out hT5 hO5)
          rw [h65.val] at HSA
          clear hb5 hm5 hT5 hO5 h65
          go_simp
          refine hK.out _ _ (b5.out) (fun _ => ?_)
          clear hK K hHeld
          try simp only [Act.put, List.setIfInBounds_toArray, List.set_cons_zero, List.set_cons_succ]
          refine wpAnyH_strong (S' := fun W => Below w5.heap.size w5 W) (fun W hW => b5.out.trans (hW.mono b5.out.size)) _ _ _ _ ?_
          have hHeld : (fun W => Below w5.heap.size w5 W) w5 := Below.refl _ _
          refine wpAnyH_ready (rs := [7]) (by kernel_rfl) (by simp) ?_
          refine AllReadyH.cons (o := { dst := some 48, op := Op.call { callee := Callee.value (Operand.func 30), args := #[Operand.tmp 46, Operand.tmp 47], argTypes := #[41, 41] }, type := 4, pos := _, after := _, guard := some (3, false) }) rfl (fun K hK => ?_) AllReadyH.nil
          go_simp
          refine HSA.out.mono ?_
          rintro e w7 ⟨rfl, hb7⟩
          have b7 : Hid (Below w5.heap.size w5 w7) := Lib.hid hb7
          have H7 := Lib.hid (H5.out.trans (hb7.mono H5.out.size))
          clear hb7
          go_simp
          refine hK.out _ _ (b7.out) (fun _ => ?_)
          clear hK K hHeld
          try simp only [Act.put, List.setIfInBounds_toArray, List.set_cons_zero, List.set_cons_succ]
          refine wpAnyH_strong (S' := fun W => Below w7.heap.size w7 W) (fun W hW => b7.out.trans (hW.mono b7.out.size)) _ _ _ _ ?_
          have hHeld : (fun W => Below w7.heap.size w7 W) w7 := Below.refl _ _
          refine wpAnyH_take (i := 8) (oi := { dst := some 49, op := Op.unOp UnOp.not 4 (Operand.tmp 48), type := 4, pos := _, after := _, guard := some (3, false) }) (v := ?_) rfl (by kernel_rfl) (by kernel_rfl) (by kernel_rfl) (fun _ _ _ h => h) (Or.inl ⟨by rfl, ?_⟩) hHeld ?_
          rotate_left 1
          · (intro W hW; (try dsimp only at hW); go_simp; try with_reducible rfl)
          try simp only [Act.put, List.setIfInBounds_toArray, List.set_cons_zero, List.set_cons_succ]
          refine wpAnyH_take (i := 9) (oi := { dst := some 50, op := Op.pick (Operand.tmp 44) (Operand.const (Value.bool true)) (Operand.tmp 49), type := 4, pos := _, after := _, guard := none }) (v := ?_) rfl (by kernel_rfl) (by kernel_rfl) (by kernel_rfl) (fun _ _ _ h => h) (Or.inl ⟨by rfl, ?_⟩) hHeld ?_
          rotate_left 1
          · (intro W hW; (try dsimp only at hW); go_simp; try with_reducible rfl)
          try simp only [Act.put, List.setIfInBounds_toArray, List.set_cons_zero, List.set_cons_succ]
          refine wpAnyH_done (by kernel_rfl) ?_ _
          refine NoPanic.normal ?_
          go_wp2_with fail
          go_ret2
          exact getD_no HNO.out (HBW.out.trans (H7.out.mono HBW.out.size))
end Go.Proofs.YtbdkopcmdefhoaaDoor
