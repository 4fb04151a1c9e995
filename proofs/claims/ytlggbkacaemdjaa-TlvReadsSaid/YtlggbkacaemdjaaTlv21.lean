/-
  Five in a thing: known.
-/
import Derived.Test.YtlggbkacaemdjaaTlv20
import Derived.Test.YtlggbkacaemdjaaStr
namespace Go.Proofs.Ytlggbkacaemdjaa
open Go.RowKit
set_option linter.unusedVariables false
set_option linter.unusedSimpArgs false

def five : Tr := .mk 48 [] [.mk 2 [5] []]
theorem read_five : readT [48, 3, 2, 1, 5] = .ok five := by
  simp [readT, rd, rds, lenOf, tagOk, parted, five]
theorem bytes_five : bytesT five = [48, 3, 2, 1, 5] := by
  simp [bytesT, isT, five, Tr.sound, Tr.sounds, Tr.enc, Tr.encs, Tr.count, Tr.counts, ok1, tagOk, parted, lenB]
theorem enc_five : five.enc.length = 5 := by simp [five, Tr.enc, Tr.encs, lenB]
theorem count_five : five.count = 2 := by simp [five, Tr.count, Tr.counts]
theorem t_five {lt : Lt} (h : lt.t = five) : ∃ ba bc ka kc ba0 bc0 ka0 kc0, lt = .mk 48 ba bc [] ka kc [.mk 2 ba0 bc0 [5] ka0 kc0 []] := by
  obtain ⟨tag, ba, bc, body, ka, kc, kids⟩ := lt
  rw [Lt.t_mk] at h
  injection h with h1 h2 h3
  subst h1 h2
  rcases kids with _ | ⟨⟨tag0, ba0, bc0, body0, ka0, kc0, kids0⟩, _ | ⟨k1, kids⟩⟩
  · cases h3
  · rw [List.map_cons, List.map_nil, Lt.t_mk] at h3
    injection h3 with h3 _
    injection h3 with h4 h5 h6
    subst h4 h5
    obtain rfl : kids0 = [] := by
      rcases kids0 with _ | ⟨_, _⟩
      · rfl
      · cases h6
    exact ⟨ba, bc, ka, kc, ba0, bc0, ka0, kc0, rfl⟩
  · injection h3 with _ h3
    cases h3
def RowB (w : World) : World := w.alloc (.cells #[.int .u8 48, .int .u8 3, .int .u8 2, .int .u8 1, .int .u8 5] 5)
theorem rd_five (w : World) : Rd .u8 (w.alloc (.cells #[.int .u8 48, .int .u8 3, .int .u8 2, .int .u8 1, .int .u8 5] 5)) (w.heap.size + 1) (some ⟨w.heap.size, 0, none⟩) 5 [48, 3, 2, 1, 5] := by
  have h : Row .u8 5 (w.alloc (.cells #[.int .u8 48, .int .u8 3, .int .u8 2, .int .u8 1, .int .u8 5] 5)) w.heap.size [48, 3, 2, 1, 5] := Holds.fresh w _ _
  have := h.rd (n := 5) (c := 5) (by simp) (by omega) (by omega)
  simpa using this
set_option maxRecDepth 100000 in
set_option maxHeartbeats 8000000 in
theorem known_any (w : World) :
    Calls Try.prog 16 #[] w fun e w' => e = .returned (.bool true) ∧ Below w.heap.size w w' := by
  have HR := Lib.hid (rd_five w)
  have HQ1 : Hid (Below w.heap.size w (w.alloc (.cells #[.int .u8 48, .int .u8 3, .int .u8 2, .int .u8 1, .int .u8 5] 5))) := Lib.hid ((Below.refl _ _).alloc (Nat.le_refl _) _)
  have hs1 : (w.alloc (.cells #[.int .u8 48, .int .u8 3, .int .u8 2, .int .u8 1, .int .u8 5] 5)).heap.size = w.heap.size + 1 := by simp
  have HS1 := Lib.hid hs1
  clear hs1
  go_enter Try.func16, Try.ntmps16
  go_wp2_with fail
  have hrd := read_any _ _ _ _ _ _ HR.out rfl (by intro x hx; simp at hx; omega) (by rw [HS1.out]; exact Nat.le_refl _)
  rw [read_five] at hrd
  refine hrd.mono ?_
  rintro e w2 ⟨lt, rfl, hlt, hat, hb⟩
  have HBY := Lib.hid (fun W (hW : Below w2.heap.size w2 W) => bytes_any lt W w2.heap.size (hat.under' hW) hW.size (by rw [hlt, count_five]; omega) (by rw [hlt, enc_five]; omega))
  have HCO := Lib.hid (fun W (hW : Below w2.heap.size w2 W) => count_any lt W w2.heap.size (hat.under' hW) hW.size (by rw [hlt, count_five]; omega))
  rw [hlt, bytes_five] at HBY
  rw [hlt, count_five] at HCO
  obtain ⟨ba, bc, ka, kc, ba0, bc0, ka0, kc0, rfl⟩ := t_five hlt
  have HQ2 : Hid (Below w.heap.size w w2) := Lib.hid (HQ1.out.trans (hb.mono HQ1.out.size))
  have hval : (Lt.mk 48 ba bc [] ka kc [.mk 2 ba0 bc0 [5] ka0 kc0 []]).val = .agg #[.int .u8 48, .slice ba 0 bc, .slice ka 1 kc] := rfl
  rw [hval] at HBY HCO ⊢
  rw [trAt_mk] at hat
  obtain ⟨_, _, _, hrow, hkid⟩ := hat
  have hkid0 := hkid 0 (by simp)
  simp only [List.getD_cons_zero] at hkid0
  rw [trAt_mk] at hkid0
  obtain ⟨_, hbody0, _, _, _⟩ := hkid0
  obtain ⟨b, off, rfl, hlt0, hcs⟩ := hrow.2.2 (by simp)
  have hcs0 := hcs 0 (by simp)
  simp only [List.getD_cons_zero, Lt.tag, Lt.ba, Lt.bc, Lt.body, Nat.zero_mul, Nat.add_zero] at hcs0
  have hQ3 : Below w2.heap.size w2 (w2.alloc (.cells #[.int .u8 48, .slice ba 0 bc, .slice (some ⟨b, off, none⟩) 1 kc] 25)) := (Below.refl _ _).alloc (Nat.le_refl _) _
  have hH3 : Holds (w2.alloc (.cells #[.int .u8 48, .slice ba 0 bc, .slice (some ⟨b, off, none⟩) 1 kc] 25)) w2.heap.size 25 #[.int .u8 48, .slice ba 0 bc, .slice (some ⟨b, off, none⟩) 1 kc] := Holds.fresh _ _ _
  have a0 := hH3.cell 0
  have a1 := hH3.cell 1
  have a2 := hH3.cell 2
  have r0 : ((w2.alloc (.cells #[.int .u8 48, .slice ba 0 bc, .slice (some ⟨b, off, none⟩) 1 kc] 25))).cell? ⟨b, off, none⟩ = some (.int .u8 2) := (hQ3.cell (p := ⟨b, off, none⟩) hlt0).trans hcs0.1
  have r1 : ((w2.alloc (.cells #[.int .u8 48, .slice ba 0 bc, .slice (some ⟨b, off, none⟩) 1 kc] 25))).cell? ⟨b, off + 1, none⟩ = some (.slice ba0 1 bc0) := (hQ3.cell (p := ⟨b, off + 1, none⟩) hlt0).trans hcs0.2.1
  have hkc : 1 ≤ kc := hrow.1
  have hkc63 := hrow.2.1
  have cv : (convert 22 9 (.slice ba0 1 bc0)).run Try.prog (w2.alloc (.cells #[.int .u8 48, .slice ba 0 bc, .slice (some ⟨b, off, none⟩) 1 kc] 25)) = .ok (.string ⟨#[5]⟩) (w2.alloc (.cells #[.int .u8 48, .slice ba 0 bc, .slice (some ⟨b, off, none⟩) 1 kc] 25)) := conv_str (hbody0.under hQ3) rfl (by intro x hx; simp at hx; omega)
  have HQ3 := Lib.hid hQ3
  have HF4 : Hid (∀ W, Below ((w2.alloc (.cells #[.int .u8 48, .slice ba 0 bc, .slice (some ⟨b, off, none⟩) 1 kc] 25))).heap.size (w2.alloc (.cells #[.int .u8 48, .slice ba 0 bc, .slice (some ⟨b, off, none⟩) 1 kc] 25)) W → W.cell? ⟨w2.heap.size, 0, none⟩ = some (.int .u8 48) ∧ W.cell? ⟨w2.heap.size, 1, none⟩ = some (.slice ba 0 bc) ∧ W.cell? ⟨w2.heap.size, 2, none⟩ = some (.slice (some ⟨b, off, none⟩) 1 kc)) := Lib.hid fun W hW => by
    have h := hH3.under hW hH3.lt
    exact ⟨h.cell 0, h.cell 1, h.cell 2⟩
  clear hrd hb hlt hval hrow hkid hbody0 hcs hcs0 hQ3 hH3
  go_wp2_with fail
  refine (HBY.out _ HQ3.out).mono ?_
  rintro e w4 ⟨A4, c4, n4, rfl, hn4, hm4, hb4⟩
  have HQ4 : Hid (Below w2.heap.size w2 w4) := Lib.hid (HQ3.out.trans (hb4.mono HQ3.out.size))
  obtain ⟨s0, s1, s2⟩ := HF4.out _ hb4
  have cv4 : (convert 22 9 (.slice A4 n4 c4)).run Try.prog w4 = .ok (.string ⟨#[48, 3, 2, 1, 5]⟩) w4 := conv_str hm4.rd hn4 (by intro x hx; simp at hx; omega)
  clear HF4 hb4 hm4 cv r0 r1 a0 a1 a2 hn4
  go_wp2_with fail
  refine (HCO.out _ HQ4.out).mono ?_
  rintro e w5 ⟨rfl, hb5⟩
  have HQ5 : Hid (Below w.heap.size w w5) := Lib.hid (HQ2.out.trans ((HQ4.out.trans (hb5.mono HQ4.out.size)).mono HQ2.out.size))
  clear hb5 s0 s1 s2 cv4
  go_wp2_with fail
  go_ret
  exact ⟨rfl, HQ5.out⟩
end Go.Proofs.Ytlggbkacaemdjaa
