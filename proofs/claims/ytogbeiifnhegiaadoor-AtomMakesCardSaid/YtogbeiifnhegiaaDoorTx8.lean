/-
  Any truth, text, bytes, ID, things as a thing, and back (statement AtomMakes): all sizes; its arguments opened.
-/
import Derived.Test.YtogbeiifnhegiaaDoorTx7
import Derived.Test.YtogbeiifnhegiaaDoorOpenT
namespace Go.Proofs.YtogbeiifnhegiaaDoor
open Go.RowKit Go.ChangeShapes Go.WideShapes
set_option linter.unusedVariables false
set_option linter.unusedSimpArgs false

theorem str_all (t : ByteArray) : ∃ l : List Nat, t = str l ∧ ∀ x ∈ l, x < 256 := by
  refine ⟨t.data.toList.map UInt8.toNat, ?_, fun x hx => ?_⟩
  · cases t with
    | mk d =>
      unfold str
      congr 1
      rw [List.map_map]
      have : (UInt8.ofNat ∘ UInt8.toNat) = id := by funext x; simp
      rw [this, List.map_id]
  · obtain ⟨y, _, rfl⟩ := List.mem_map.1 hx
    exact y.toNat_lt
theorem nodes_open {H : Type} {enc : TypeId × Value → H} {w : World} {base : Nat} {held : Bool} {fuel : Nat} {v : Value} {x : DataW H × List MemPlace} (g2 : DataW.trod enc Tryd.prog w base (fun _ => true) held fuel 23 v.cells.toList = some x) (hv : ∃ a n c, v = .slice a n c) :
    ∃ (A : Option Addr) (n c : Nat) (l : List Lt), v = .slice A n c ∧ l.length = n ∧ Off [] (KiP A c l) w := by
  obtain ⟨a, n, c, rfl⟩ := hv
  have hc : (Value.slice a n c).cells.toList = [.slice a n c] := by simp [Value.cells]
  rw [hc] at g2
  have g0 : ∃ y0, DataW.trod enc Tryd.prog w base (fun _ => true) held (fuel + 1) 5 [.int .u8 48] = some y0 := ⟨_, rfl⟩
  rcases open_slice_n Tryd.underlying23 g2 with hcs | ⟨a', len, cap, m, hm, hcs, hl, hmx, hel⟩
  · injection hcs with hcs _
    injection hcs with h1 h2 h3
    subst h1 h2 h3
    exact ⟨none, 0, 0, [], rfl, rfl, off_none _ _⟩
  · injection hcs with hcs _
    injection hcs with h1 h2 h3
    subst h1 h2 h3
    obtain ⟨l, hln, hlp⟩ := list_of (P := fun i (t : Lt) => (w.cell? (a'.add (i * 3)) = some (.int .u8 (t.tag : Int)) ∧ w.cell? (a'.add (i * 3 + 1)) = some (.slice t.ba t.body.length t.bc) ∧ w.cell? (a'.add (i * 3 + 2)) = some (.slice t.ka t.kids.length t.kc)) ∧ TrAt w w.heap.size t) n (fun i hi => by
      obtain ⟨cs', y, h1, h2⟩ := hel i hi
      rw [cells_node] at h1
      obtain ⟨_, hlen, hcell⟩ := World.cells?_some h1
      match cs', hlen with
      | [u0, u1, u2], _ =>
        obtain ⟨t, q0, q1, q2, q3⟩ := thing_open (m + 1) m u0 u1 u2 y (by omega) h2
        have k0 := hcell 0 (by omega)
        have k1 := hcell 1 (by omega)
        have k2 := hcell 2 (by omega)
        rw [Deep.add_add] at k0 k1 k2
        exact ⟨t, ⟨by rw [← q0]; simpa using k0, by rw [← q1]; simpa using k1, by rw [← q2]; simpa using k2⟩, q3⟩)
    have hrow : RowT w w.heap.size (some a') c l := by
      refine ⟨by omega, by unfold maxLen at hmx; exact hmx, fun hn => ?_⟩
      obtain ⟨b, off, sp'⟩ := a'
      have hc0 := (hlp 0 (by omega)).1.1
      have hsp : sp' = none := by simpa [Addr.add] using World.cell?_spot hc0
      subst hsp
      have hadd : ∀ j, (⟨b, off, none⟩ : Addr).add j = ⟨b, off + j, none⟩ := fun j => by unfold Addr.add; split <;> simp_all
      refine ⟨b, off, rfl, ?_, fun j hj => ?_⟩
      · have := World.block_lt_of_cell? w _ hc0
        rw [hadd] at this
        exact this
      · obtain ⟨⟨k0, k1, k2⟩, _⟩ := hlp j (by omega)
        rw [hadd] at k0 k1 k2
        exact ⟨k0, by rw [show off + j * 3 + 1 = off + (j * 3 + 1) by omega]; exact k1, by rw [show off + j * 3 + 2 = off + (j * 3 + 2) by omega]; exact k2⟩
    refine ⟨some a', n, c, l, rfl, hln, kids_off (tag := 48) (ba := none) (bc := 0) (body := []) (Off.of_at (B := w.heap.size) (trAt_mk.2 ⟨by omega, Rd.nil_ _ _ _, by simp, hrow, fun j hj => (hlp j (by omega)).2⟩) (Nat.le_refl _))⟩
set_option maxRecDepth 1000000 in
set_option maxHeartbeats 4000000 in
theorem law_makes (w : World) (hT : Lib.Utf8Tabs 0 1 w) (v : Bool) (l1 : List Nat) (ho1 : ∀ x ∈ l1, x < 256) (A2 : Option Addr) (n2 c2 : Nat) (l2 : List Nat) (hn2 : l2.length = n2) (hr2 : Rd .u8 w w.heap.size A2 c2 l2) (ho2 : ∀ x ∈ l2, x < 256) (tg : Nat) (htg : tg < 256) (A4 : Option Addr) (n4 c4 : Nat) (ks : List Lt) (hn4 : ks.length = n4) (hk : Off [] (KiP A4 c4 ks) w) :
    Calls Tryd.prog 3 #[.bool v, .string (str l1), .slice A2 n2 c2, .int .u8 (tg : Int), .slice A4 n4 c4] w fun e w' => e = .returned (.bool true) ∧ Below w.heap.size w w' := by
  obtain ⟨n1, hn1⟩ : ∃ n1, l1.length = n1 := ⟨_, rfl⟩
  by_cases q1 : 200 < n1
  · have t1 : decide ((200 : Int) < (n1 : Int)) = true := decide_eq_true (by omega)
    have hsz : (str l1).size = n1 := by rw [str_len]; exact hn1
    clear hT ho1 hn2 hr2 ho2 htg hn4 hk hn1
    go_enter Tryd.func3, Tryd.ntmps3
    go_wp2_with fail
    go_ret
    exact ⟨rfl, Below.refl _ _⟩
  have t1 : decide ((200 : Int) < (n1 : Int)) = false := decide_eq_false (by omega)
  by_cases q2 : 300 < n2
  · have t2 : decide ((300 : Int) < (n2 : Int)) = true := decide_eq_true (by omega)
    have hsz : (str l1).size = n1 := by rw [str_len]; exact hn1
    clear hT ho1 hn2 hr2 ho2 htg hn4 hk hn1
    go_enter Tryd.func3, Tryd.ntmps3
    go_wp2_with fail
    go_ret
    exact ⟨rfl, Below.refl _ _⟩
  have t2 : decide ((300 : Int) < (n2 : Int)) = false := decide_eq_false (by omega)
  by_cases q4 : 10 < n4
  · have t4 : decide ((10 : Int) < (n4 : Int)) = true := decide_eq_true (by omega)
    have hsz : (str l1).size = n1 := by rw [str_len]; exact hn1
    clear hT ho1 hn2 hr2 ho2 htg hn4 hk hn1
    go_enter Tryd.func3, Tryd.ntmps3
    go_wp2_with fail
    go_ret
    exact ⟨rfl, Below.refl _ _⟩
  exact makes_yes w hT v l1 ho1 A2 n2 c2 l2 hn2 hr2 ho2 tg htg A4 n4 c4 ks hn4 hk n1 hn1 (by omega) (by omega) (by omega)
end Go.Proofs.YtogbeiifnhegiaaDoor
