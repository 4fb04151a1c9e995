/-
  A manifest of no files: what the functions answer. The thing of a manifest of no files, read. The thing of any manifest; the thing of one of no files, read whole. The thing of a manifest of no files, read whole. Is a manifest of no files told, read, held, the same? The law: manifests and their things.
-/
import Derived.Test.YtdjklhglkmacbaaDoorLiA
import Derived.Test.YtdjklhglkmacbaaDoorLiS
import Derived.Test.YtdjklhglkmacbaaDoorTlv26
import Derived.Test.YtdjklhglkmacbaaDoorLiN
import Derived.Test.YtdjklhglkmacbaaDoorTlv19
import Derived.Test.YtdjklhglkmacbaaDoorTlv3
namespace Go.Proofs.YtdjklhglkmacbaaDoor
open Go.RowKit
set_option linter.unusedVariables false
set_option linter.unusedSimpArgs false
attribute [local go_sem ↓] Go.wp_at_zero Go.wp_at_succ

theorem ret_mf {R : Ending → World → Prop} {tmps : Array Value} {w : World} {g : Nat} {t : TypeId} {cs : Array Value} {v : Value} {fn : Func} {p u : Tmp}
    (hr : fn.results = #[.cell p 25, .tmp u]) (hp : tmps.getD p undef = .pointer (some ⟨g, 0, none⟩)) (hu : tmps.getD u undef = v) (hg : Holds w g t cs) (hcs : cs.size = 3) (hR : R (.returned (.tuple #[.agg cs, v])) w) :
    bodyPost Tryd.prog fn R .ret { tmps := tmps, defers := [] } w := by
  have hi : (Tryd.prog.info? 25).map (·.size) = some cs.size := by rw [hcs]; kernel_rfl
  refine bodyPost_ret (v := .tuple #[.agg cs, v]) ?_ rfl hR
  rw [results_cell_tmp hr]
  have hp' : tmps[p]?.getD undef = .pointer (some ⟨g, 0, none⟩) := by simpa using hp
  have hu' : tmps[u]?.getD undef = v := by simpa using hu
  simp [hp', hu', asAddr, run_loadVar_row w g t _ cs (0, 0) _ hg Tryd.underlying25 rfl hi, Result.andThen]
set_option maxRecDepth 100000 in
set_option maxHeartbeats 1000000 in
theorem large_nil (w : World) : Calls Tryd.prog 42 #[.slice none 0 0] w fun e w' => e = .returned (.bool false) ∧ w' = w := by
  go_enter Tryd.func42, Tryd.ntmps42
  go_wp2_with fail
  go_loopw [7] (fun iv wr => iv = .int .i64 0 ∧ wr = w) (fun _ _ => 0)
  case atStart => exact ⟨rfl, rfl⟩
  case round =>
    obtain ⟨rfl, rfl⟩ := hrel
    go_wp2_with fail
    go_ret
    exact ⟨rfl, rfl⟩
set_option maxRecDepth 100000 in
set_option maxHeartbeats 1000000 in
theorem all_nil (w : World) : Calls Tryd.prog 43 #[.slice none 0 0] w fun e w' => e = .returned (.bool true) ∧ Below w.heap.size w w' := by
  have hmm := @run_makeMap Tryd.prog
  have hbel : Below w.heap.size w (w.alloc (.map #[] 0)) := (Below.refl _ _).alloc (Nat.le_refl _) _
  go_enter Tryd.func43, Tryd.ntmps43
  go_wp2_with fail
  generalize w.alloc (.map #[] 0) = W at *
  clear hmm
  go_loopw [12] (fun iv wr => iv = .int .i64 0 ∧ Below w.heap.size w wr) (fun _ _ => 0)
  case atStart => exact ⟨rfl, hbel⟩
  case round =>
    obtain ⟨rfl, hB⟩ := hrel
    have HB := Lib.hid hB
    clear hB hbel
    go_wp2_with fail
    go_loopw [30] (fun iv wr' => iv = .int .i64 0 ∧ Below w.heap.size w wr') (fun _ _ => 0)
    case atStart => exact ⟨rfl, HB.out⟩
    case round =>
      obtain ⟨rfl, hB⟩ := hrel
      have HB2 := Lib.hid hB
      clear hB
      go_wp2_with fail
      go_ret
      exact ⟨rfl, HB2.out⟩
set_option maxRecDepth 100000 in
set_option maxHeartbeats 1000000 in
theorem check_nil (w : World) (s : ByteArray) (u : Int) : Calls Tryd.prog 16 #[.agg #[.string s, .int .u64 u, .slice none 0 0], .slice none 0 0] w fun e w' => e = .returned (.int .i64 0) ∧ Below w.heap.size w w' := by
  have hz := Holds.fresh w 25 #[.string s, .int .u64 u, .slice none 0 0]
  have HB : Hid (Below w.heap.size w (w.alloc (.cells #[.string s, .int .u64 u, .slice none 0 0] 25))) := Lib.hid ((Below.refl _ _).alloc (Nat.le_refl _) _)
  have c2 := hz.cell 2
  clear hz
  go_enter Tryd.func16, Tryd.ntmps16
  go_wp2_with fail
  go_loopw [16] (fun iv wr => iv = .int .i64 0 ∧ Below w.heap.size w wr) (fun _ _ => 0)
  case atStart => exact ⟨rfl, HB.out⟩
  case round =>
    obtain ⟨rfl, hB⟩ := hrel
    have HB2 := Lib.hid hB
    clear hB c2
    go_wp2_with fail
    go_ret
    exact ⟨rfl, HB2.out⟩
set_option maxRecDepth 100000 in
set_option maxHeartbeats 1000000 in
theorem check_one (w : World) (s : ByteArray) (u : Int) (A : Option Addr) : Calls Tryd.prog 16 #[.agg #[.string s, .int .u64 u, .slice none 0 0], .slice A 1 1] w fun e w' => e = .returned (.int .i64 11) ∧ Below w.heap.size w w' := by
  have hz := Holds.fresh w 25 #[.string s, .int .u64 u, .slice none 0 0]
  have HB : Hid (Below w.heap.size w (w.alloc (.cells #[.string s, .int .u64 u, .slice none 0 0] 25))) := Lib.hid ((Below.refl _ _).alloc (Nat.le_refl _) _)
  have c2 := hz.cell 2
  clear hz
  go_enter Tryd.func16, Tryd.ntmps16
  go_wp2_with fail
  go_ret
  exact ⟨rfl, HB.out⟩
end Go.Proofs.YtdjklhglkmacbaaDoor
namespace Go.Proofs.YtdjklhglkmacbaaDoor
open Go.RowKit
set_option linter.unusedVariables false
set_option linter.unusedSimpArgs false
attribute [local go_sem ↓] Go.wp_at_zero Go.wp_at_succ

def nT : Tr := .mk 48 [] [.mk 12 [110] [], .mk 2 [7] [], .mk 48 [] []]
theorem nT_is : mfTr ⟨[110], 7, []⟩ = nT := by
  unfold mfTr nT
  rw [show intB (dg2 7) = [7] by decide]; rfl
theorem nT_ok : isT nT = true := by decide
theorem leaf_of {k : Lt} {tag : Nat} {b : List Nat} (h : k.t = .mk tag b []) : ∃ ba bc ka kc, k = .mk tag ba bc b ka kc [] := by
  obtain ⟨h1, h2, h3⟩ := lt_parts h
  rcases k with ⟨t, ba, bc, body, ka, kc, kids⟩
  simp only [Lt.tag, Lt.body, Lt.kids] at h1 h2 h3
  subst h1 h2
  exact ⟨ba, bc, ka, kc, by rw [List.eq_nil_of_length_eq_zero h3]⟩
set_option maxRecDepth 100000 in
set_option maxHeartbeats 4000000 in
theorem formed_one (w : World) (ba ka : Option Addr) (bc kc : Nat) (k0 k1 k2 : Lt) (hk : Off [] (KiP ka kc [k0, k1, k2]) w) (h0 : k0.t = .mk 12 [110] []) (h1 : k1.t = .mk 2 [7] []) (h2 : k2.t = .mk 48 [] [])
    (hT : Lib.Utf8Tabs 0 1 w) (s0 : ByteArray) (hs0 : s0 = str [110]) :
    Calls Tryd.prog 41 #[.agg #[.int .u8 48, .slice ba 0 bc, .slice ka 3 kc]] w fun e w' => e = .returned (.tuple #[.agg #[.string s0, .int .u64 7, .slice none 0 0], .bool true]) ∧ Below w.heap.size w w' := by
  obtain ⟨b0a, b0c, k0a, k0c, rfl⟩ := leaf_of h0
  obtain ⟨b1a, b1c, k1a, k1c, rfl⟩ := leaf_of h1
  obtain ⟨b2a, b2c, k2a, k2c, rfl⟩ := leaf_of h2
  have hHN := (Holds.fresh w 31 #[.int .u8 48, .slice ba 0 bc, .slice ka 3 kc]).alloc (.cells #[.string ⟨#[]⟩, .int .u64 0, .slice none 0 0] 25)
  have hHZ := Holds.fresh (w.alloc (.cells #[.int .u8 48, .slice ba 0 bc, .slice ka 3 kc] 31)) 25 #[.string ⟨#[]⟩, .int .u64 0, .slice none 0 0]
  rw [show (w.alloc (.cells #[.int .u8 48, .slice ba 0 bc, .slice ka 3 kc] 31)).heap.size = w.heap.size + 1 by simp] at hHZ
  have hq : Below w.heap.size w ((w.alloc (.cells #[.int .u8 48, .slice ba 0 bc, .slice ka 3 kc] 31)).alloc (.cells #[.string ⟨#[]⟩, .int .u64 0, .slice none 0 0] 25)) := ((Below.refl _ _).alloc (Nat.le_refl _) _).alloc (by simp) _
  have hk2 := (hk.alloc (.cells #[.int .u8 48, .slice ba 0 bc, .slice ka 3 kc] 31)).alloc (.cells #[.string ⟨#[]⟩, .int .u64 0, .slice none 0 0] 25)
  have c0 := hHN.cell 0
  have c1 := hHN.cell 1
  have c2 := hHN.cell 2
  have hSE := getSeq_any ((w.alloc (.cells #[.int .u8 48, .slice ba 0 bc, .slice ka 3 kc] 31)).alloc (.cells #[.string ⟨#[]⟩, .int .u64 0, .slice none 0 0] 25)) [] 48 0 bc 3 kc 48 ba ka _ hk2 rfl (by omega) (by omega) (by simp)
  rw [show seqOk 48 0 48 = true by decide] at hSE
  have HSE : Hid (Calls Tryd.prog 59 #[.agg #[.int .u8 48, .slice ba 0 bc, .slice ka 3 kc], .int .u8 48] ((w.alloc (.cells #[.int .u8 48, .slice ba 0 bc, .slice ka 3 kc] 31)).alloc (.cells #[.string ⟨#[]⟩, .int .u64 0, .slice none 0 0] 25)) fun e w' => ∃ A c, e = .returned (.tuple #[.slice A 3 c, .bool true]) ∧ Off [] (KiP A c [.mk 12 b0a b0c [110] k0a k0c [], .mk 2 b1a b1c [7] k1a k1c [], .mk 48 b2a b2c [] k2a k2c []]) w' ∧ Below ((w.alloc (.cells #[.int .u8 48, .slice ba 0 bc, .slice ka 3 kc] 31)).alloc (.cells #[.string ⟨#[]⟩, .int .u64 0, .slice none 0 0] 25)).heap.size ((w.alloc (.cells #[.int .u8 48, .slice ba 0 bc, .slice ka 3 kc] 31)).alloc (.cells #[.string ⟨#[]⟩, .int .u64 0, .slice none 0 0] 25)) w') := Lib.hid hSE
  have HZ := Lib.hid hHZ
  have HQ := Lib.hid hq
  have HT := Lib.hid hT
  have hne : s0.toList.isEmpty = false := by rw [hs0, str_nil]; rfl
  have HS0 := Lib.hid hs0
  clear hHN hHZ hq hk2 hSE hk h0 h1 h2 hT hs0
  obtain ⟨V, hV⟩ : ∃ V, V = ((w.alloc (.cells #[.int .u8 48, .slice ba 0 bc, .slice ka 3 kc] 31)).alloc (.cells #[.string ⟨#[]⟩, .int .u64 0, .slice none 0 0] 25)) := ⟨_, rfl⟩
  rw [← hV] at HSE HZ HQ
  have HV := Lib.hid hV
  clear hV
  go_enter Tryd.func41, Tryd.ntmps41
  go_wp2_with fail
  rw [← HV.out]
  refine HSE.out.mono ?_
  rintro e w3 ⟨A3, c3, rfl, hk3, hb3⟩
  have hx := hk3.at_
  obtain ⟨g, off, rfl, hg, hcs⟩ := hx.1.2.2 (by simp)
  have hc3 : 3 ≤ c3 := hx.1.1
  have hc3m := hx.1.2.1
  have p0 : w3.cell? ⟨g, off, none⟩ = some (.int .u8 12) ∧ w3.cell? ⟨g, off + 1, none⟩ = some (.slice b0a 1 b0c) ∧ w3.cell? ⟨g, off + 2, none⟩ = some (.slice k0a 0 k0c) := hcs 0 (by simp)
  have p1 : w3.cell? ⟨g, off + 3, none⟩ = some (.int .u8 2) ∧ w3.cell? ⟨g, off + 3 + 1, none⟩ = some (.slice b1a 1 b1c) ∧ w3.cell? ⟨g, off + 3 + 2, none⟩ = some (.slice k1a 0 k1c) := hcs 1 (by simp)
  have p2 : w3.cell? ⟨g, off + 6, none⟩ = some (.int .u8 48) ∧ w3.cell? ⟨g, off + 6 + 1, none⟩ = some (.slice b2a 0 b2c) ∧ w3.cell? ⟨g, off + 6 + 2, none⟩ = some (.slice k2a 0 k2c) := hcs 2 (by simp)
  have HP1 : Hid (∀ W, Below w3.heap.size w3 W → W.cell? ⟨g, off + 3, none⟩ = some (.int .u8 2) ∧ W.cell? ⟨g, off + 3 + 1, none⟩ = some (.slice b1a 1 b1c) ∧ W.cell? ⟨g, off + 3 + 2, none⟩ = some (.slice k1a 0 k1c)) := Lib.hid fun W hW =>
    ⟨(hW.cell (p := ⟨g, _, none⟩) hg).trans p1.1, (hW.cell (p := ⟨g, _, none⟩) hg).trans p1.2.1, (hW.cell (p := ⟨g, _, none⟩) hg).trans p1.2.2⟩
  have HP2 : Hid (∀ W, Below w3.heap.size w3 W → W.cell? ⟨g, off + 6, none⟩ = some (.int .u8 48) ∧ W.cell? ⟨g, off + 6 + 1, none⟩ = some (.slice b2a 0 b2c) ∧ W.cell? ⟨g, off + 6 + 2, none⟩ = some (.slice k2a 0 k2c)) := Lib.hid fun W hW =>
    ⟨(hW.cell (p := ⟨g, _, none⟩) hg).trans p2.1, (hW.cell (p := ⟨g, _, none⟩) hg).trans p2.2.1, (hW.cell (p := ⟨g, _, none⟩) hg).trans p2.2.2⟩
  have HB3 := Lib.hid (HQ.out.trans (hb3.mono HQ.out.size))
  have HZ3 := Lib.hid (HZ.out.under hb3 HZ.out.lt)
  have hT0 := hx.2 (.mk 12 b0a b0c [110] k0a k0c []) (by simp)
  have hG0 := getText_any w3 12 1 b0c 0 k0c w3.heap.size b0a k0a [110] (ThP.iff.1 hT0).2.1 rfl (Nat.le_refl _) (by simp) (Utf8Tabs_below HT.out HB3.out)
  rw [show txOf 12 0 [110] = some [110] by decide] at hG0
  have HG0 : Hid (Calls Tryd.prog 50 #[.agg #[.int .u8 12, .slice b0a 1 b0c, .slice k0a 0 k0c]] w3 fun e w' => e = .returned (.tuple #[.string s0, .bool true]) ∧ Below w3.heap.size w3 w') := Lib.hid (by rw [HS0.out]; exact hG0)
  have HG1 : Hid (∀ W, Below w3.heap.size w3 W → Calls Tryd.prog 60 #[.agg #[.int .u8 2, .slice b1a 1 b1c, .slice k1a 0 k1c]] W fun e w' => e = .returned (.tuple #[.int .u64 7, .bool true]) ∧ Below W.heap.size W w') := Lib.hid fun W hW => by
    have hT1 := (hk3.under hW).at_.2 (.mk 2 b1a b1c [7] k1a k1c []) (by simp)
    have h := getSmall_any W 2 1 b1c 0 k1c W.heap.size b1a k1a [7] (ThP.iff.1 hT1).2.1 rfl (Nat.le_refl _) (by simp)
    rw [show smallOf (if heldOk 2 0 2 = true then gi [7] 9 else none) = some 7 by decide] at h
    exact h
  have HG2 : Hid (∀ W, Below w3.heap.size w3 W → Calls Tryd.prog 59 #[.agg #[.int .u8 48, .slice b2a 0 b2c, .slice k2a 0 k2c], .int .u8 48] W fun e w' => ∃ A c, e = .returned (.tuple #[.slice A 0 c, .bool true]) ∧ Off [] (KiP A c []) w' ∧ Below W.heap.size W w') := Lib.hid fun W hW => by
    have h := getSeq_any W [] 48 0 b2c 0 k2c 48 b2a k2a [] (kids_off (KiP.kid (hk3.under hW) (j := 2) (by simp))) rfl (by omega) (by omega) (by simp)
    rw [show seqOk 48 0 48 = true by decide] at h
    exact h
  obtain ⟨x0, x1, x2⟩ := p0
  clear hx hcs hk3 hb3 hT0 hG0 p1 p2 c0 c1 c2 HSE HV HZ HQ hg
  go_wp2_with fail
  refine HG0.out.mono ?_
  rintro e w4 ⟨rfl, hb4⟩
  obtain ⟨x0, x1, x2⟩ := HP1.out w4 hb4
  have HB4 := Lib.hid hb4
  have HG := Lib.hid (HG1.out w4 hb4)
  clear hb4 HG0 HG1
  go_wp2_with fail
  refine HG.out.mono ?_
  rintro e w5 ⟨rfl, hb5⟩
  have HB5 := Lib.hid (HB4.out.trans (hb5.mono HB4.out.size))
  clear hb5 HG x0 x1 x2
  obtain ⟨x0, x1, x2⟩ := HP2.out w5 HB5.out
  have HG := Lib.hid (HG2.out w5 HB5.out)
  clear HG2
  go_wp2_with fail
  refine HG.out.mono ?_
  rintro e w6 ⟨A6, c6, rfl, hk6, hb6⟩
  have hB6 := HB5.out.trans (hb6.mono HB5.out.size)
  have hc6 : 0 ≤ c6 := Nat.zero_le _
  have hc6m := hk6.at_.1.2.1
  have hz6 := (HZ3.out.under hB6 HZ3.out.lt).alloc (.cells #[.string s0, .int .u64 7, .slice none 0 0] 25)
  have hm6 := Holds.fresh w6 25 #[.string s0, .int .u64 7, .slice none 0 0]
  have HB6 : Hid (Below w.heap.size w (w6.alloc (.cells #[.string s0, .int .u64 7, .slice none 0 0] 25))) := Lib.hid ((HB3.out.trans (hB6.mono HB3.out.size)).alloc (HB3.out.trans (hB6.mono HB3.out.size)).size _)
  obtain ⟨W7, hW7⟩ : ∃ W, W = w6.alloc (.cells #[.string s0, .int .u64 7, .slice none 0 0] 25) := ⟨_, rfl⟩
  rw [← hW7] at hz6 hm6 HB6
  have HZ7 := Lib.hid hz6
  have HM7 := Lib.hid hm6
  have HW7 := Lib.hid hW7
  clear hB6 hb6 hk6 hz6 hm6 hW7 x0 x1 x2 HG
  go_wp2_with fail
  rw [← HW7.out]
  go_loopw [70] (fun iv wr => iv = .int .i64 0 ∧ wr = W7) (fun _ _ => 0)
  case atStart => exact ⟨rfl, rfl⟩
  case round =>
    obtain ⟨rfl, rfl⟩ := hrel
    have m0 := HM7.out.cell 0
    have m1 := HM7.out.cell 1
    have m2 := HM7.out.cell 2
    have y0 := HZ7.out.open_ 0
    have y1 := HZ7.out.open_ 1
    have y2 := HZ7.out.open_ 2
    have z0 := HZ7.out.cell 0
    have z1 := HZ7.out.cell 1
    have z2 := HZ7.out.cell 2
    go_wp2_with fail
    exact ret_mf rfl rfl rfl (((HZ7.out.stored 0 _).stored 1 _).stored 2 _) rfl ⟨rfl, below_outG HB6.out (by omega) _ _ _⟩
end Go.Proofs.YtdjklhglkmacbaaDoor
namespace Go.Proofs.YtdjklhglkmacbaaDoor
open Go.RowKit
set_option linter.unusedVariables false
set_option linter.unusedSimpArgs false
attribute [local go_sem ↓] Go.wp_at_zero Go.wp_at_succ

def mfNT (v : MV) : Tr := if mfOk v = true then mfTr v else .mk 0 [] []
def noLt : Lt := .mk 0 none 0 [] none 0 []
theorem off_no (xs : List Nat) (w : World) : Off xs (ThP noLt) w := off_body (fun w' _ _ => Rd.nil_ _ _ _) (by omega) (by simp)
set_option maxRecDepth 100000 in
set_option maxHeartbeats 4000000 in
theorem mfNodeA_any (w : World) (xs : List Nat) (m : Mf) (h : MfP m w) (hT : Lib.Utf8Tabs 0 1 w) (hsz : m.name.length ≤ 9223372036854775807 ∧ ∀ e ∈ m.files, e.path.length ≤ 9223372036854775807) (hxs : ∀ x ∈ xs, x < w.heap.size) :
    Calls Tryd.prog 11 #[.agg (mcell m).toArray] w (MadeT w xs (mfNT m.v)) := by
  rcases hok : mfOk m.v with _ | _
  case true =>
    rw [show mfNT m.v = mfTr m.v by unfold mfNT; rw [if_pos hok]]
    exact mfNode_any w xs m h hok hT hxs
  rw [show mfNT m.v = .mk 0 [] [] by unfold mfNT; rw [if_neg (by rw [hok]; simp)]]
  have HIS0 : Hid (∀ W : World, Below w.heap.size w W → Calls Tryd.prog 9 #[.agg (mcell m).toArray] W fun e w' => e = .returned (.bool false) ∧ Below W.heap.size W w') := Lib.hid fun W hW => by
    rw [← hok]
    exact mfIs_any W m (Off.of_m h W hW.size (fun g _ hg => hW.block g hg)) (Utf8Tabs_below hT hW) hsz
  clear h hok hT hsz hxs
  obtain ⟨name, ctr, fa, fc, files⟩ := m
  simp only [mcell] at *
  generalize files.length = fn at *
  generalize (ctr : Int) = u at *
  generalize str name = s at *
  have hq0 : Below w.heap.size w ((w.alloc (.cells #[.string s, .int .u64 u, .slice fa fn fc] 25)).alloc (.cells #[.int .u8 0, .slice none 0 0, .slice none 0 0] 31)) := ((Below.refl _ _).alloc (Nat.le_refl _) _).alloc (by simp) _
  have hbox := (Holds.fresh w 25 #[.string s, .int .u64 u, .slice fa fn fc]).alloc (.cells #[.int .u8 0, .slice none 0 0, .slice none 0 0] 31)
  have hz := Holds.fresh (w.alloc (.cells #[.string s, .int .u64 u, .slice fa fn fc] 25)) 31 #[.int .u8 0, .slice none 0 0, .slice none 0 0]
  rw [show (w.alloc (.cells #[.string s, .int .u64 u, .slice fa fn fc] 25)).heap.size = w.heap.size + 1 by simp] at hz
  have c0 := hbox.cell 0
  have c1 := hbox.cell 1
  have c2 := hbox.cell 2
  obtain ⟨V, hV⟩ : ∃ V, V = ((w.alloc (.cells #[.string s, .int .u64 u, .slice fa fn fc] 25)).alloc (.cells #[.int .u8 0, .slice none 0 0, .slice none 0 0] 31)) := ⟨_, rfl⟩
  rw [← hV] at hq0 hbox hz
  have HB0 := Lib.hid hq0
  have HZ := Lib.hid hz
  have HBX := Lib.hid hbox
  have HIS := Lib.hid (HIS0.out V hq0)
  have HV := Lib.hid hV
  clear hV hq0 hbox hz HIS0
  go_enter Tryd.func11, Tryd.ntmps11
  go_wp2_with fail
  rw [← HV.out]
  clear HV c0 c1 c2
  refine HIS.out.mono ?_
  rintro e V2 ⟨rfl, hb2⟩
  have HB2 := Lib.hid (HB0.out.trans (hb2.mono HB0.out.size))
  have HZ2 := Lib.hid (HZ.out.under hb2 HZ.out.lt)
  have z0 := HZ2.out.cell 0
  have z1 := HZ2.out.cell 1
  have z2 := HZ2.out.cell 2
  have y0 := HZ2.out.open_ 0
  have y1 := HZ2.out.open_ 1
  have y2 := HZ2.out.open_ 2
  clear hb2 HIS
  go_wp2_with fail
  refine ret_one rfl rfl (((HZ2.out.stored 0 _).stored 1 _).stored 2 _) rfl ?_
  exact ⟨noLt, rfl, rfl, off_no _ _, below_outG HB2.out (by omega) _ _ _⟩
set_option maxRecDepth 100000 in
set_option maxHeartbeats 4000000 in
theorem mfNodeR_any (w : World) (xs : List Nat) (m : Mf) (h : MfP m w) (hxs : ∀ x ∈ xs, x < w.heap.size) :
    Calls Tryd.prog 12 #[.agg (mcell m).toArray] w (MadeT w xs (mfNT m.v)) := by
  obtain ⟨r, hr⟩ : ∃ r, r = mfOk m.v := ⟨_, rfl⟩
  have HIS0 : Hid (∀ W : World, Below w.heap.size w W → Calls Tryd.prog 8 #[.agg (mcell m).toArray] W fun e w' => e = .returned (.bool r) ∧ Below W.heap.size W w') := Lib.hid fun W hW => by
    rw [hr]
    exact mfIs'_any W m (Off.of_m h W hW.size (fun g _ hg => hW.block g hg))
  have HND0 : Hid (r = true → ∀ W : World, Below w.heap.size w W → ∀ ys : List Nat, (∀ x ∈ ys, x < W.heap.size) → Calls Tryd.prog 34 #[.agg (mcell m).toArray] W (MadeT W ys (mfNT m.v))) := Lib.hid fun hrt W hW ys hy => by
    rw [show mfNT m.v = mfTr m.v by unfold mfNT; rw [if_pos (by rw [← hr]; exact hrt)]]
    exact mfNode'_any W ys m (Off.of_m h W hW.size (fun g _ hg => hW.block g hg)) (by rw [← hr]; exact hrt) hy
  have HNO : Hid (r = false → mfNT m.v = .mk 0 [] []) := Lib.hid fun hrf => by unfold mfNT; rw [if_neg (by rw [← hr, hrf]; simp)]
  generalize mfNT m.v = T at *
  clear h hr
  obtain ⟨name, ctr, fa, fc, files⟩ := m
  simp only [mcell] at *
  generalize files.length = fn at *
  generalize (ctr : Int) = u at *
  generalize str name = s at *
  have hq0 : Below w.heap.size w ((w.alloc (.cells #[.string s, .int .u64 u, .slice fa fn fc] 25)).alloc (.cells #[.int .u8 0, .slice none 0 0, .slice none 0 0] 31)) := ((Below.refl _ _).alloc (Nat.le_refl _) _).alloc (by simp) _
  have hbox := (Holds.fresh w 25 #[.string s, .int .u64 u, .slice fa fn fc]).alloc (.cells #[.int .u8 0, .slice none 0 0, .slice none 0 0] 31)
  have hz := Holds.fresh (w.alloc (.cells #[.string s, .int .u64 u, .slice fa fn fc] 25)) 31 #[.int .u8 0, .slice none 0 0, .slice none 0 0]
  rw [show (w.alloc (.cells #[.string s, .int .u64 u, .slice fa fn fc] 25)).heap.size = w.heap.size + 1 by simp] at hz
  have c0 := hbox.cell 0
  have c1 := hbox.cell 1
  have c2 := hbox.cell 2
  obtain ⟨V, hV⟩ : ∃ V, V = ((w.alloc (.cells #[.string s, .int .u64 u, .slice fa fn fc] 25)).alloc (.cells #[.int .u8 0, .slice none 0 0, .slice none 0 0] 31)) := ⟨_, rfl⟩
  rw [← hV] at hq0 hbox hz
  have HB0 := Lib.hid hq0
  have HZ := Lib.hid hz
  have HBX := Lib.hid hbox
  have HIS := Lib.hid (HIS0.out V hq0)
  have HXS : Hid (∀ W : World, V.heap.size ≤ W.heap.size → ∀ x ∈ (w.heap.size + 1) :: xs, x < W.heap.size) := Lib.hid fun W hW x hx => by
    rcases List.mem_cons.1 hx with rfl | hx
    · have := HZ.out.lt; omega
    · have := hxs x hx; have := HB0.out.size; omega
  have HND : Hid (r = true → ∀ W : World, Below V.heap.size V W → Calls Tryd.prog 34 #[.agg #[.string s, .int .u64 u, .slice fa fn fc]] W (MadeT W ((w.heap.size + 1) :: xs) T)) := Lib.hid fun hrt W hW => HND0.out hrt W (HB0.out.trans (hW.mono HB0.out.size)) _ (HXS.out W hW.size)
  have HV := Lib.hid hV
  clear hV hq0 hbox hz HIS0 HND0
  go_enter Tryd.func12, Tryd.ntmps12
  go_wp2_with fail
  rw [← HV.out]
  clear HV c0 c1 c2
  refine HIS.out.mono ?_
  rintro e V2 ⟨rfl, hb2⟩
  have HB2 := Lib.hid (HB0.out.trans (hb2.mono HB0.out.size))
  have HZ2 := Lib.hid (HZ.out.under hb2 HZ.out.lt)
  cases r with
  | false =>
    have HT := Lib.hid (HNO.out rfl)
    have z0 := HZ2.out.cell 0
    have z1 := HZ2.out.cell 1
    have z2 := HZ2.out.cell 2
    have y0 := HZ2.out.open_ 0
    have y1 := HZ2.out.open_ 1
    have y2 := HZ2.out.open_ 2
    clear hb2 HIS HND HNO
    go_wp2_with fail
    refine ret_one rfl rfl (((HZ2.out.stored 0 _).stored 1 _).stored 2 _) rfl ?_
    rw [HT.out]
    exact ⟨noLt, rfl, rfl, off_no _ _, below_outG HB2.out (by omega) _ _ _⟩
  | true =>
    have HC := Lib.hid (HND.out rfl V2 hb2)
    have hbx := HBX.out.under hb2 HBX.out.lt
    have c0 := hbx.cell 0
    have c1 := hbx.cell 1
    have c2 := hbx.cell 2
    clear hb2 HIS HND HNO hbx
    go_wp2_with fail
    refine HC.out.mono ?_
    intro e w3 hm
    obtain ⟨lt, t, a, n, c, k, m, d, rfl, h6, hlt, hoff, hb⟩ := MadeT.six hm
    have HB3 := Lib.hid (HB2.out.trans (hb.mono HB2.out.size))
    have HZ3 := Lib.hid (HZ2.out.under hb HZ2.out.lt)
    have z0 := HZ3.out.cell 0
    have z1 := HZ3.out.cell 1
    have z2 := HZ3.out.cell 2
    have y0 := HZ3.out.open_ 0
    have y1 := HZ3.out.open_ 1
    have y2 := HZ3.out.open_ 2
    have HLT := Lib.hid (Of6.val h6)
    have HTE := Lib.hid hlt
    have HO := Lib.hid hoff
    clear hm h6 hlt hoff hb HC c0 c1 c2
    go_wp2_with fail
    refine ret_one rfl rfl (((HZ3.out.stored 0 _).stored 1 _).stored 2 _) rfl ?_
    exact ⟨lt, by rw [HLT.out]; rfl, HTE.out, made_outG HO.out _ _ _, below_outG HB3.out (by omega) _ _ _⟩
end Go.Proofs.YtdjklhglkmacbaaDoor
namespace Go.Proofs.YtdjklhglkmacbaaDoor
open Go.RowKit
set_option linter.unusedVariables false
set_option linter.unusedSimpArgs false
attribute [local go_sem ↓] Go.wp_at_zero Go.wp_at_succ

theorem nT_lt {lt : Lt} {w : World} (h : lt.t = nT) (hr : TrAt w w.heap.size lt) : ∃ ba bc ka kc k0 k1 k2, lt.val = .agg #[.int .u8 48, .slice ba 0 bc, .slice ka 3 kc] ∧ Off [] (KiP ka kc [k0, k1, k2]) w ∧ k0.t = .mk 12 [110] [] ∧ k1.t = .mk 2 [7] [] ∧ k2.t = .mk 48 [] [] := by
  have ho := Off.of_at hr (Nat.le_refl _)
  rcases lt with ⟨t, ba, bc, body, ka, kc, kids⟩
  rw [Lt.t, nT, Lt.ts_map] at h
  injection h with h1 h2 h3
  subst h1 h2
  rcases kids with _ | ⟨k0, _ | ⟨k1, _ | ⟨k2, _ | ⟨k3, r⟩⟩⟩⟩
  · simp at h3
  · simp at h3
  · simp at h3
  · simp only [List.map_cons, List.map_nil, List.cons.injEq, and_true] at h3
    exact ⟨ba, bc, ka, kc, k0, k1, k2, rfl, kids_off ho, h3.1, h3.2.1, h3.2.2⟩
  · simp at h3
set_option maxRecDepth 100000 in
set_option maxHeartbeats 4000000 in
theorem read_one (w : World) (A : Option Addr) (c : Nat) (hr : Rd .u8 w w.heap.size A c [48, 8, 12, 1, 110, 2, 1, 7, 48, 0]) (hT : Lib.Utf8Tabs 0 1 w) (s0 : ByteArray) (hs0 : s0 = str [110]) :
    Calls Tryd.prog 19 #[.slice A 10 c] w fun e w' => e = .returned (.tuple #[.agg #[.string s0, .int .u64 7, .slice none 0 0], .int .i64 0]) ∧ Below w.heap.size w w' := by
  have hq : Below w.heap.size w (w.alloc (.cells #[.string ⟨#[]⟩, .int .u64 0, .slice none 0 0] 25)) := (Below.refl _ _).alloc (Nat.le_refl _) _
  have hz := Holds.fresh w 25 #[.string ⟨#[]⟩, .int .u64 0, .slice none 0 0]
  have hRE := read_any (w.alloc (.cells #[.string ⟨#[]⟩, .int .u64 0, .slice none 0 0] 25)) w.heap.size A c 10 _ (hr.under hq) rfl (by simp) hq.size
  rw [show readT [48, 8, 12, 1, 110, 2, 1, 7, 48, 0] = .ok nT by
    have h := read_enc nT_ok
    rwa [show nT.enc = [48, 8, 12, 1, 110, 2, 1, 7, 48, 0] by decide] at h] at hRE
  have HRE := Lib.hid hRE
  have HQ := Lib.hid hq
  have HZ := Lib.hid hz
  have HT := Lib.hid hT
  have HS0 := Lib.hid hs0
  obtain ⟨V, hV⟩ : ∃ V, V = w.alloc (.cells #[.string ⟨#[]⟩, .int .u64 0, .slice none 0 0] 25) := ⟨_, rfl⟩
  rw [← hV] at HRE HQ HZ
  have HV := Lib.hid hV
  clear hr hT hs0 hq hz hRE hV
  go_enter Tryd.func19, Tryd.ntmps19
  go_wp2_with fail
  rw [← HV.out]
  refine HRE.out.mono ?_
  rintro e w2 ⟨lt, rfl, hlt, hta, hb2⟩
  obtain ⟨ba, bc, ka, kc, k0, k1, k2, hval, hki, e0, e1, e2⟩ := nT_lt hlt hta
  rw [hval]
  have hq3 : Below w2.heap.size w2 (w2.alloc (.cells #[.int .u8 48, .slice ba 0 bc, .slice ka 3 kc] 31)) := (Below.refl _ _).alloc (Nat.le_refl _) _
  have hB2 := HQ.out.trans (hb2.mono HQ.out.size)
  have HB3 := Lib.hid (hB2.trans (hq3.mono hB2.size))
  have HZ3 := Lib.hid ((HZ.out.under hb2 HZ.out.lt).alloc (.cells #[.int .u8 48, .slice ba 0 bc, .slice ka 3 kc] 31))
  have hn := Holds.fresh w2 31 #[.int .u8 48, .slice ba 0 bc, .slice ka 3 kc]
  have HC := Lib.hid (formed_one (w2.alloc (.cells #[.int .u8 48, .slice ba 0 bc, .slice ka 3 kc] 31)) ba ka bc kc k0 k1 k2 (hki.alloc _) e0 e1 e2 (Utf8Tabs_below HT.out HB3.out) s0 HS0.out)
  have c0 := hn.cell 0
  have c1 := hn.cell 1
  have c2 := hn.cell 2
  obtain ⟨W3, hW3⟩ : ∃ W, W = w2.alloc (.cells #[.int .u8 48, .slice ba 0 bc, .slice ka 3 kc] 31) := ⟨_, rfl⟩
  rw [← hW3] at HC HB3 HZ3
  have HW3 := Lib.hid hW3
  clear hlt hta hb2 hval hki e0 e1 e2 hq3 hB2 hn hW3 HV HRE HZ HQ
  go_wp2_with fail
  rw [← HW3.out]
  refine HC.out.mono ?_
  rintro e w4 ⟨rfl, hb4⟩
  have hB4 := HB3.out.trans (hb4.mono HB3.out.size)
  have HB5 : Hid (Below w.heap.size w (w4.alloc (.cells #[.string s0, .int .u64 7, .slice none 0 0] 25))) := Lib.hid (hB4.alloc hB4.size _)
  have HZ5 := Lib.hid ((HZ3.out.under hb4 HZ3.out.lt).alloc (.cells #[.string s0, .int .u64 7, .slice none 0 0] 25))
  have HM5 := Lib.hid (Holds.fresh w4 25 #[.string s0, .int .u64 7, .slice none 0 0])
  obtain ⟨g, hg⟩ : ∃ g, g = w4.heap.size := ⟨_, rfl⟩
  have hgw : w.heap.size ≤ g := by rw [hg]; exact hB4.size
  rw [← hg] at HM5
  have HGE := Lib.hid hg
  obtain ⟨W5, hW5⟩ : ∃ W, W = w4.alloc (.cells #[.string s0, .int .u64 7, .slice none 0 0] 25) := ⟨_, rfl⟩
  rw [← hW5] at HB5 HZ5 HM5
  have m2 := HM5.out.cell 2
  have HW5 := Lib.hid hW5
  have HL := Lib.hid (large_nil W5)
  clear hb4 hB4 hg hW5 HC c0 c1 c2 HW3 HZ3
  have m2' := m2
  rw [HW5.out, HGE.out] at m2'
  go_wp2_with fail
  rw [← HW5.out, ← HGE.out]
  refine HL.out.mono ?_
  rintro e w6 ⟨rfl, rfl⟩
  clear m2' HL
  go_wp2_with fail
  go_loopw [8, 35] (fun pv iv wr => pv = .slice none 0 0 ∧ iv = .int .i64 0 ∧ wr = w6) (fun _ _ _ => 0)
  case atStart => exact ⟨rfl, rfl, rfl⟩
  case round =>
    obtain ⟨rfl, rfl, rfl⟩ := hrel
    have HA := Lib.hid (all_nil wr)
    clear m2
    go_wp2_with fail
    refine HA.out.mono ?_
    rintro e w7 ⟨rfl, hb7⟩
    have HB7 := Lib.hid (HB5.out.trans (hb7.mono HB5.out.size))
    have HZ7 := Lib.hid (HZ5.out.under hb7 HZ5.out.lt)
    have HM7 := Lib.hid (HM5.out.under hb7 HM5.out.lt)
    have m2 := HM7.out.cell 2
    have hri := rise_any w7 none 0 0 [] (NsP.none _) rfl
    rw [show risingOk (([] : List En).map En.v) = true by decide] at hri
    have HRI := Lib.hid hri
    clear hb7 HA hri HZ5 HM5 HB5
    go_wp2_with fail
    refine HRI.out.mono ?_
    rintro e w8 ⟨rfl, hb8⟩
    have HB8 := Lib.hid (HB7.out.trans (hb8.mono HB7.out.size))
    have HZ8 := Lib.hid (HZ7.out.under hb8 HZ7.out.lt)
    have hm8 := HM7.out.under hb8 HM7.out.lt
    clear m2
    have m0 := hm8.cell 0
    have m1 := hm8.cell 1
    have m2 := hm8.cell 2
    have z0 := HZ8.out.cell 0
    have z1 := HZ8.out.cell 1
    have z2 := HZ8.out.cell 2
    have y0 := HZ8.out.open_ 0
    have y1 := HZ8.out.open_ 1
    have y2 := HZ8.out.open_ 2
    clear hb8 hm8 HRI
    go_wp2_with fail
    exact ret_mf rfl rfl rfl (((HZ8.out.stored 0 _).stored 1 _).stored 2 _) rfl ⟨rfl, below_outG HB8.out (Nat.le_refl _) _ _ _⟩
end Go.Proofs.YtdjklhglkmacbaaDoor
namespace Go.Proofs.YtdjklhglkmacbaaDoor
open Go.RowKit
set_option linter.unusedVariables false
set_option linter.unusedSimpArgs false
attribute [local go_sem ↓] Go.wp_at_zero Go.wp_at_succ

def km : Mf := ⟨[110], 7, none, 0, []⟩
theorem km_cells : (mcell km).toArray = #[.string ⟨#[110]⟩, .int .u64 7, .slice none 0 0] := by
  show #[Value.string (str [110]), .int .u64 ((7 : Nat) : Int), .slice none 0 0] = _
  rfl
theorem km_p (w : World) : MfP km w := ⟨NsP.none w, by intro x hx; simp [km] at hx; omega, by show 7 < _; omega⟩
set_option maxRecDepth 100000 in
set_option maxHeartbeats 4000000 in
theorem known22_any (w : World) (hT : Lib.Utf8Tabs 0 1 w) : Calls Tryd.prog 15 #[] w fun e w' => e = .returned (.bool true) ∧ Below w.heap.size w w' := by
  obtain ⟨s0, hs0⟩ : ∃ s, s = str [110] := ⟨_, rfl⟩
  have hse : (s0.toList == ([110] : List UInt8)) = true := by rw [hs0, Lib.toList_data]; rfl
  have hse2 : (s0.toList == (⟨#[110]⟩ : ByteArray).toList) = true := by rw [hs0, Lib.toList_data, Lib.toList_data]; rfl
  have HS0 := Lib.hid hs0
  have hq : Below w.heap.size w (w.alloc (.cells #[.string ⟨#[110]⟩, .int .u64 7, .slice none 0 0] 25)) := (Below.refl _ _).alloc (Nat.le_refl _) _
  have hm := Holds.fresh w 25 #[.string ⟨#[110]⟩, .int .u64 7, .slice none 0 0]
  have c0 := hm.cell 0
  have c1 := hm.cell 1
  have c2 := hm.cell 2
  have hN := mfNode_any (w.alloc (.cells #[.string ⟨#[110]⟩, .int .u64 7, .slice none 0 0] 25)) [] km (km_p _) (by decide) (Utf8Tabs_below hT hq) (by simp)
  rw [km_cells, show mfTr km.v = nT from nT_is] at hN
  have HSM : Hid (∀ W, Calls Tryd.prog 13 #[.agg #[.string ⟨#[110]⟩, .int .u64 7, .slice none 0 0], .agg #[.string ⟨#[110]⟩, .int .u64 7, .slice none 0 0]] W fun e w' => e = .returned (.bool true) ∧ Below W.heap.size W w') := Lib.hid fun W => by
    have h := mfSame_any W km km (km_p W) (km_p W)
    rw [km_cells, show mvEq km.v km.v = true by unfold mvEq; simp] at h
    exact h
  have HQ := Lib.hid hq
  have HM := Lib.hid hm
  have HT := Lib.hid hT
  have HN := Lib.hid hN
  obtain ⟨V, hV⟩ : ∃ V, V = (w.alloc (.cells #[.string ⟨#[110]⟩, .int .u64 7, .slice none 0 0] 25)) := ⟨_, rfl⟩
  rw [← hV] at HQ HM HN
  have HV := Lib.hid hV
  clear hq hm hT hN hV hs0
  go_enter Tryd.func15, Tryd.ntmps15
  go_wp2_with fail
  rw [← HV.out]
  refine HN.out.mono ?_
  rintro e w2 ⟨lt, rfl, hlt, hoff, hb2⟩
  have hby := bytes'_any lt w2 w2.heap.size hoff.at_ (Nat.le_refl _) (by rw [hlt]; decide) (by rw [hlt]; decide)
  rw [hlt, show bytesT nT = [48, 8, 12, 1, 110, 2, 1, 7, 48, 0] by decide] at hby
  have HBY := Lib.hid hby
  have HB2 := Lib.hid (HQ.out.trans (hb2.mono HQ.out.size))
  have HM2 := Lib.hid (HM.out.under hb2 HM.out.lt)
  generalize lt.val = lv at *
  clear hlt hoff hb2 hby c0 c1 c2 HV HN HM HQ
  go_wp2_with fail
  refine HBY.out.mono ?_
  rintro e w3 ⟨A3, c3, n3, rfl, hn3, hmi, hb3⟩
  obtain rfl : n3 = 10 := by rw [← hn3]; rfl
  have HB3 := Lib.hid (HB2.out.trans (hb3.mono HB2.out.size))
  have HM3 := Lib.hid (HM2.out.under hb3 HM2.out.lt)
  have HRD := Lib.hid (read_one w3 A3 c3 hmi.rd (Utf8Tabs_below HT.out HB3.out) s0 HS0.out)
  clear hn3 hmi hb3 HBY HM2 HB2
  go_wp2_with fail
  refine HRD.out.mono ?_
  rintro e w4 ⟨rfl, hb4⟩
  have hB4 := HB3.out.trans (hb4.mono HB3.out.size)
  have HB5 : Hid (Below w.heap.size w (w4.alloc (.cells #[.string s0, .int .u64 7, .slice none 0 0] 25))) := Lib.hid (hB4.alloc hB4.size _)
  have hm5 := (HM3.out.under hb4 HM3.out.lt).alloc (.cells #[.string s0, .int .u64 7, .slice none 0 0] 25)
  have hx5 := Holds.fresh w4 25 #[.string s0, .int .u64 7, .slice none 0 0]
  have HM5 := Lib.hid hm5
  have c0 := hm5.cell 0
  have c1 := hm5.cell 1
  have c2 := hm5.cell 2
  have x0 := hx5.cell 0
  have x1 := hx5.cell 1
  have x2 := hx5.cell 2
  obtain ⟨W5, hW5⟩ : ∃ W, W = w4.alloc (.cells #[.string s0, .int .u64 7, .slice none 0 0] 25) := ⟨_, rfl⟩
  rw [← hW5] at HB5 HM5
  have HW5 := Lib.hid hW5
  have HC := Lib.hid (check_nil W5 ⟨#[110]⟩ 7)
  clear hb4 hB4 hm5 hx5 hW5 HRD HM3 HB3
  go_wp2_with fail
  rw [← HW5.out]
  refine HC.out.mono ?_
  rintro e w6 ⟨rfl, hb6⟩
  have HB6 := Lib.hid (HB5.out.trans (hb6.mono HB5.out.size))
  have hm6 := HM5.out.under hb6 HM5.out.lt
  have HM6 := Lib.hid hm6
  clear c0 c1 c2 x0 x1 x2 HC HW5 HM5 HB5 hb6
  have c0 := hm6.cell 0
  have c1 := hm6.cell 1
  have c2 := hm6.cell 2
  clear hm6
  go_wp2_with fail
  refine (check_one _ ⟨#[110]⟩ 7 _).mono ?_
  rintro e w7 ⟨rfl, hb7⟩
  have hA : ∀ X, Below w6.heap.size w6 (w6.alloc X) := fun X => (Below.refl _ _).alloc (Nat.le_refl _) X
  have hb67 := (hA _).trans (hb7.mono (hA _).size)
  have HB7 := Lib.hid (HB6.out.trans (hb67.mono HB6.out.size))
  have hm7 := HM6.out.under hb67 HM6.out.lt
  clear c0 c1 c2
  have c0 := hm7.cell 0
  have c1 := hm7.cell 1
  have c2 := hm7.cell 2
  clear hA hb67 hb7 hm7
  go_wp2_with fail
  refine (HSM.out w7).mono ?_
  rintro e w8 ⟨rfl, hb8⟩
  have HB8 := Lib.hid (HB7.out.trans (hb8.mono HB7.out.size))
  clear hb8
  go_wp2_with fail
  go_ret
  exact ⟨rfl, HB8.out⟩
end Go.Proofs.YtdjklhglkmacbaaDoor
namespace Go.Proofs.YtdjklhglkmacbaaDoor
open Go.RowKit
set_option linter.unusedVariables false
set_option linter.unusedSimpArgs false
attribute [local go_sem ↓] Go.wp_at_zero Go.wp_at_succ

theorem str_sizeL (l : List Nat) : (str l).size = l.length := by simp [str, ByteArray.size]
def longV (m : Mf) : Bool := decide (200 < m.name.length) || decide (40 < m.files.length)
set_option maxRecDepth 100000 in
set_option maxHeartbeats 2000000 in
theorem long22_any (w : World) (m : Mf) : Calls Tryd.prog 7 #[.agg (mcell m).toArray] w fun e w' => e = .returned (.bool (longV m)) ∧ Below w.heap.size w w' := by
  obtain ⟨r, hr⟩ : ∃ r, r = longV m := ⟨_, rfl⟩
  rw [← hr]
  obtain ⟨name, ctr, fa, fc, files⟩ := m
  simp only [mcell, longV] at *
  have hsz := str_sizeL name
  generalize (ctr : Int) = u at *
  obtain ⟨s, hs⟩ : ∃ k, k = str name := ⟨_, rfl⟩
  rw [← hs] at hsz ⊢
  rw [← hsz] at hr
  clear hsz hs
  generalize files.length = fn at *
  have hz := Holds.fresh w 25 #[.string s, .int .u64 u, .slice fa fn fc]
  have HB : Hid (Below w.heap.size w (w.alloc (.cells #[.string s, .int .u64 u, .slice fa fn fc] 25))) := Lib.hid ((Below.refl _ _).alloc (Nat.le_refl _) _)
  have c0 := hz.cell 0
  have c2 := hz.cell 2
  clear hz
  by_cases h1 : 200 < s.size
  · have d1 : decide ((200 : Int) < ((s.size : Nat) : Int)) = true := decide_eq_true (by omega)
    have HE : Hid (r = true) := Lib.hid (by rw [hr, decide_eq_true h1]; rfl)
    clear hr h1
    go_enter Tryd.func7, Tryd.ntmps7
    go_wp2_with fail
    go_ret
    exact ⟨by rw [HE.out]; rfl, HB.out⟩
  have d1 : decide ((200 : Int) < ((s.size : Nat) : Int)) = false := decide_eq_false (by omega)
  by_cases h2 : 40 < fn
  · have d2 : decide ((40 : Int) < (fn : Int)) = true := decide_eq_true (by omega)
    have HE : Hid (r = true) := Lib.hid (by rw [hr, decide_eq_true h2]; simp)
    clear hr h1 h2
    go_enter Tryd.func7, Tryd.ntmps7
    go_wp2_with fail
    go_ret
    exact ⟨by rw [HE.out]; rfl, HB.out⟩
  · have d2 : decide ((40 : Int) < (fn : Int)) = false := decide_eq_false (by omega)
    have HE : Hid (r = false) := Lib.hid (by rw [hr, decide_eq_false h1, decide_eq_false h2]; rfl)
    clear hr h1 h2
    go_enter Tryd.func7, Tryd.ntmps7
    go_wp2_with fail
    go_ret
    exact ⟨by rw [HE.out]; rfl, HB.out⟩
set_option maxRecDepth 100000 in
set_option maxHeartbeats 8000000 in
theorem law_manifests (w : World) (hT : Lib.Utf8Tabs 0 1 w) (m m2 : Mf) (h : MfP m w) (h2 : MfP m2 w) (hsz : m.name.length ≤ 9223372036854775807 ∧ ∀ e ∈ m.files, e.path.length ≤ 9223372036854775807) :
    Calls Tryd.prog 3 #[.agg (mcell m).toArray, .agg (mcell m2).toArray] w fun e w' => e = .returned (.bool true) ∧ Below w.heap.size w w' := by
  have hO := Off.of_m h
  have hO2 := Off.of_m h2
  have hIR := mfIs'_any
  obtain ⟨r, hr⟩ : ∃ r, r = mfOk m.v := ⟨_, rfl⟩
  obtain ⟨q, hq⟩ : ∃ q, q = mvEq m.v m2.v := ⟨_, rfl⟩
  obtain ⟨T, hT0⟩ : ∃ T, T = mfNT m.v := ⟨_, rfl⟩
  have HTW : Hid (∀ W, Below w.heap.size w W → Lib.Utf8Tabs 0 1 W) := Lib.hid fun W hW => Utf8Tabs_below hT hW
  have GLA := Lib.hid fun W => long22_any W m
  have GLB := Lib.hid fun W => long22_any W m2
  have GIR := Lib.hid fun W (hW : Below w.heap.size w W) => mfIs'_any W m (hO.under hW).at_
  have GIS := Lib.hid fun W (hW : Below w.heap.size w W) => mfIs_any W m (hO.under hW).at_ (HTW.out W hW) hsz
  have GNA := Lib.hid fun W (hW : Below w.heap.size w W) => mfNodeA_any W [] m (hO.under hW).at_ (HTW.out W hW) hsz (by simp)
  have GNR := Lib.hid fun W (hW : Below w.heap.size w W) => mfNodeR_any W [] m (hO.under hW).at_ (by simp)
  have GSA := Lib.hid fun W (hW : Below w.heap.size w W) => mfSame_any W m m2 (hO.under hW).at_ (hO2.under hW).at_
  have GSR := Lib.hid fun W (hW : Below w.heap.size w W) => mfSame'_any W m m2 (hO.under hW).at_ (hO2.under hW).at_
  rw [← hr] at GIR GIS
  rw [← hq] at GSA GSR
  rw [← hT0] at GNA GNR
  generalize longV m = la at *
  generalize longV m2 = lb at *
  clear hr hq hT0 hsz hO hO2 hIR h h2 hT
  obtain ⟨name, ctr, fa, fc, files⟩ := m
  obtain ⟨name2, ctr2, fa2, fc2, files2⟩ := m2
  simp only [mcell] at *
  generalize files.length = fn at *
  generalize files2.length = fn2 at *
  generalize (ctr : Int) = u at *
  generalize (ctr2 : Int) = u2 at *
  generalize str name = s at *
  generalize str name2 = s2 at *
  have hq0 : Below w.heap.size w ((w.alloc (.cells #[.string s, .int .u64 u, .slice fa fn fc] 25)).alloc (.cells #[.string s2, .int .u64 u2, .slice fa2 fn2 fc2] 25)) := ((Below.refl _ _).alloc (Nat.le_refl _) _).alloc (by simp) _
  have hA := (Holds.fresh w 25 #[.string s, .int .u64 u, .slice fa fn fc]).alloc (.cells #[.string s2, .int .u64 u2, .slice fa2 fn2 fc2] 25)
  have hB := Holds.fresh (w.alloc (.cells #[.string s, .int .u64 u, .slice fa fn fc] 25)) 25 #[.string s2, .int .u64 u2, .slice fa2 fn2 fc2]
  rw [show (w.alloc (.cells #[.string s, .int .u64 u, .slice fa fn fc] 25)).heap.size = w.heap.size + 1 by simp] at hB
  have a0 := hA.cell 0
  have a1 := hA.cell 1
  have a2 := hA.cell 2
  obtain ⟨V, hV⟩ : ∃ V, V = ((w.alloc (.cells #[.string s, .int .u64 u, .slice fa fn fc] 25)).alloc (.cells #[.string s2, .int .u64 u2, .slice fa2 fn2 fc2] 25)) := ⟨_, rfl⟩
  rw [← hV] at hq0 hA hB
  have HQ := Lib.hid hq0
  have HA := Lib.hid hA
  have HB := Lib.hid hB
  have HV := Lib.hid hV
  have HUP : Hid (∀ W, Below V.heap.size V W → Below w.heap.size w W) := Lib.hid fun W hW => hq0.trans (hW.mono hq0.size)
  have HLA : Hid (∀ W, Calls Tryd.prog 7 #[.agg #[.string s, .int .u64 u, .slice fa fn fc]] W fun e w' => e = .returned (.bool la) ∧ Below W.heap.size W w') := Lib.hid GLA.out
  have HLB : Hid (∀ W, Calls Tryd.prog 7 #[.agg #[.string s2, .int .u64 u2, .slice fa2 fn2 fc2]] W fun e w' => e = .returned (.bool lb) ∧ Below W.heap.size W w') := Lib.hid GLB.out
  have HIR : Hid (∀ W, Below V.heap.size V W → Calls Tryd.prog 8 #[.agg #[.string s, .int .u64 u, .slice fa fn fc]] W fun e w' => e = .returned (.bool r) ∧ Below W.heap.size W w') := Lib.hid fun W hW => GIR.out W (HUP.out W hW)
  have HIS : Hid (∀ W, Below V.heap.size V W → Calls Tryd.prog 9 #[.agg #[.string s, .int .u64 u, .slice fa fn fc]] W fun e w' => e = .returned (.bool r) ∧ Below W.heap.size W w') := Lib.hid fun W hW => GIS.out W (HUP.out W hW)
  have HNA : Hid (∀ W, Below V.heap.size V W → Calls Tryd.prog 11 #[.agg #[.string s, .int .u64 u, .slice fa fn fc]] W (MadeT W [] T)) := Lib.hid fun W hW => GNA.out W (HUP.out W hW)
  have HNR : Hid (∀ W, Below V.heap.size V W → Calls Tryd.prog 12 #[.agg #[.string s, .int .u64 u, .slice fa fn fc]] W (MadeT W [] T)) := Lib.hid fun W hW => GNR.out W (HUP.out W hW)
  have HSA : Hid (∀ W, Below V.heap.size V W → Calls Tryd.prog 13 #[.agg #[.string s, .int .u64 u, .slice fa fn fc], .agg #[.string s2, .int .u64 u2, .slice fa2 fn2 fc2]] W fun e w' => e = .returned (.bool q) ∧ Below W.heap.size W w') := Lib.hid fun W hW => GSA.out W (HUP.out W hW)
  have HSR : Hid (∀ W, Below V.heap.size V W → Calls Tryd.prog 14 #[.agg #[.string s, .int .u64 u, .slice fa fn fc], .agg #[.string s2, .int .u64 u2, .slice fa2 fn2 fc2]] W fun e w' => e = .returned (.bool q) ∧ Below W.heap.size W w') := Lib.hid fun W hW => GSR.out W (HUP.out W hW)
  have HKN : Hid (∀ W, Below V.heap.size V W → Calls Tryd.prog 15 #[] W fun e w' => e = .returned (.bool true) ∧ Below W.heap.size W w') := Lib.hid fun W hW => known22_any W (HTW.out W (HUP.out W hW))
  clear hq0 hA hB hV GLA GLB GIR GIS GNA GNR GSA GSR HTW
  go_enter Tryd.func3, Tryd.ntmps3
  go_wp2_with fail
  rw [← HV.out]
  refine (HLA.out V).mono ?_
  rintro e w1 ⟨rfl, hb1⟩
  have B1 : Hid (Below V.heap.size V w1) := Lib.hid hb1
  clear a0 a1 a2 HV hb1 HLA
  rcases la with _ | _
  case true =>
    go_wp2_with fail
    go_ret
    exact ⟨rfl, HUP.out _ B1.out⟩
  have hb := HB.out.under B1.out HB.out.lt
  have b0 := hb.cell 0
  have b1 := hb.cell 1
  have b2 := hb.cell 2
  clear hb
  go_wp2_with fail
  refine (HLB.out w1).mono ?_
  rintro e w2 ⟨rfl, hb2⟩
  have B2 : Hid (Below V.heap.size V w2) := Lib.hid (B1.out.trans (hb2.mono B1.out.size))
  clear b0 b1 b2 hb2 HLB
  rcases lb with _ | _
  case true =>
    go_wp2_with fail
    go_ret
    exact ⟨rfl, HUP.out _ B2.out⟩
  have ha := HA.out.under B2.out HA.out.lt
  have a0 := ha.cell 0
  have a1 := ha.cell 1
  have a2 := ha.cell 2
  clear ha
  go_wp2_with fail
  refine (HIR.out w2 B2.out).mono ?_
  rintro e w4 ⟨rfl, hb4⟩
  have B4 : Hid (Below V.heap.size V w4) := Lib.hid (B2.out.trans (hb4.mono B2.out.size))
  clear a0 a1 a2 hb4 HIR
  go_wp2_with fail
  refine wp_region_noPanic ?_
  refine wp_region_held_drew (S := (fun W => Below V.heap.size V W)) (by kernel_rfl) (B4.out.drew) (fun hHeld => ?_)
  refine wpAnyH_take (i := 0) (oi := { dst := some 14, op := Op.load 25 (Operand.tmp 2), type := 25, pos := _, after := _, guard := none }) (v := ?_) rfl (by kernel_rfl) (by kernel_rfl) (by kernel_rfl) (fun _ _ _ h => h) (Or.inl ⟨by rfl, ?_⟩) hHeld ?_
  rotate_left 1
  · (intro W hW; have k := HA.out.under hW HA.out.lt; have k0 := k.cell 0; have k1 := k.cell 1; have k2 := k.cell 2; (try dsimp only at hW); go_simp; try with_reducible rfl)
  try simp only [Act.put, List.setIfInBounds_toArray, List.set_cons_zero, List.set_cons_succ]
  refine wpAnyH_take (i := 2) (oi := { dst := some 16, op := Op.move (Operand.tmp 5), type := 4, pos := _, after := _, guard := none }) (v := ?_) rfl (by kernel_rfl) (by kernel_rfl) (by kernel_rfl) (fun _ _ _ h => h) (Or.inl ⟨by rfl, ?_⟩) hHeld ?_
  rotate_left 1
  · (intro W hW; (try dsimp only at hW); go_simp; try with_reducible rfl)
  try simp only [Act.put, List.setIfInBounds_toArray, List.set_cons_zero, List.set_cons_succ]
  refine wpAnyH_ready (rs := [1]) (by kernel_rfl) (by simp) ?_
  refine AllReadyH.cons (o := { dst := some 15, op := Op.call { callee := Callee.value (Operand.func 9), args := #[Operand.tmp 14], argTypes := #[25] }, type := 4, pos := _, after := _, guard := none }) rfl (fun K hK => ?_) AllReadyH.nil
  go_simp
  refine (HIS.out _ B4.out.drew).mono ?_
  rintro e w5 ⟨rfl, hb⟩
  have S5 : Hid ((fun W => Below V.heap.size V W) w5) := Lib.hid (B4.out.drew.trans (hb.mono B4.out.drew.size))
  clear hb
  go_simp
  refine hK.out _ _ (S5.out) (fun _ => ?_)
  clear hK K hHeld
  try simp only [Act.put, List.setIfInBounds_toArray, List.set_cons_zero, List.set_cons_succ]
  have hHeld : ((fun W => Below V.heap.size V W)) w5 := S5.out
  refine wpAnyH_take (i := 3) (oi := { dst := some 17, op := Op.binOp BinOp.eql 4 (Operand.tmp 15) (Operand.tmp 16) 4, type := 4, pos := _, after := _, guard := none }) (v := ?_) rfl (by kernel_rfl) (by kernel_rfl) (by kernel_rfl) (fun _ _ _ h => h) (Or.inl ⟨by rfl, ?_⟩) hHeld ?_
  rotate_left 1
  · (intro W hW; (try dsimp only at hW); go_simp; try with_reducible rfl)
  try simp only [Act.put, List.setIfInBounds_toArray, List.set_cons_zero, List.set_cons_succ]
  refine wpAnyH_take (i := 4) (oi := { dst := some 18, op := Op.move (Operand.tmp 17), type := 4, pos := _, after := _, guard := none }) (v := ?_) rfl (by kernel_rfl) (by kernel_rfl) (by kernel_rfl) (fun _ _ _ h => h) (Or.inl ⟨by rfl, ?_⟩) hHeld ?_
  rotate_left 1
  · (intro W hW; (try dsimp only at hW); go_simp; try with_reducible rfl)
  try simp only [Act.put, List.setIfInBounds_toArray, List.set_cons_zero, List.set_cons_succ]
  refine wpAnyH_take (i := 5) (oi := { dst := some 19, op := Op.load 25 (Operand.tmp 2), type := 25, pos := _, after := _, guard := some (4, true) }) (v := ?_) rfl (by kernel_rfl) (by kernel_rfl) (by kernel_rfl) (fun _ _ _ h => h) (Or.inl ⟨by rfl, ?_⟩) hHeld ?_
  rotate_left 1
  · (intro W hW; have k := HA.out.under hW HA.out.lt; have k0 := k.cell 0; have k1 := k.cell 1; have k2 := k.cell 2; (try dsimp only at hW); go_simp; try with_reducible rfl)
  try simp only [Act.put, List.setIfInBounds_toArray, List.set_cons_zero, List.set_cons_succ]
  refine wpAnyH_take (i := 7) (oi := { dst := some 21, op := Op.load 25 (Operand.tmp 2), type := 25, pos := _, after := _, guard := some (4, true) }) (v := ?_) rfl (by kernel_rfl) (by kernel_rfl) (by kernel_rfl) (fun _ _ _ h => h) (Or.inl ⟨by rfl, ?_⟩) hHeld ?_
  rotate_left 1
  · (intro W hW; have k := HA.out.under hW HA.out.lt; have k0 := k.cell 0; have k1 := k.cell 1; have k2 := k.cell 2; (try dsimp only at hW); go_simp; try with_reducible rfl)
  try simp only [Act.put, List.setIfInBounds_toArray, List.set_cons_zero, List.set_cons_succ]
  refine wpAnyH_ready (rs := [6]) (by kernel_rfl) (by simp) ?_
  refine AllReadyH.cons (o := { dst := some 20, op := Op.call { callee := Callee.value (Operand.func 11), args := #[Operand.tmp 19], argTypes := #[25] }, type := 31, pos := _, after := _, guard := some (4, true) }) rfl (fun K hK => ?_) AllReadyH.nil
  go_simp
  refine (HNA.out _ S5.out).mono ?_
  intro e w6 hm
  obtain ⟨lt6, t6, a6, n6, c6, k6, m6, d6, rfl, h6, hlt, hoff, hb⟩ := MadeT.six hm
  have b6 := Lib.hid hb
  have S6 : Hid ((fun W => Below V.heap.size V W) w6) := Lib.hid (S5.out.trans (hb.mono S5.out.size))
  have HS6 := Lib.hid h6
  have HT6 := Lib.hid hlt
  have HO6 := Lib.hid hoff
  clear hm h6 hlt hoff hb
  go_simp
  refine hK.out _ _ (S6.out) (fun _ => ?_)
  clear hK K hHeld
  try simp only [Act.put, List.setIfInBounds_toArray, List.set_cons_zero, List.set_cons_succ]
  have hHeld : ((fun W => Below V.heap.size V W)) w6 := S6.out
  refine wpAnyH_ready (rs := [8]) (by kernel_rfl) (by simp) ?_
  refine AllReadyH.cons (o := { dst := some 22, op := Op.call { callee := Callee.value (Operand.func 12), args := #[Operand.tmp 21], argTypes := #[25] }, type := 31, pos := _, after := _, guard := some (4, true) }) rfl (fun K hK => ?_) AllReadyH.nil
  go_simp
  refine (HNR.out _ S6.out).mono ?_
  intro e w8 hm
  obtain ⟨lt8, t8, a8, n8, c8, k8, m8, d8, rfl, h6, hlt, hoff, hb⟩ := MadeT.six hm
  have b8 := Lib.hid hb
  have S8 : Hid ((fun W => Below V.heap.size V W) w8) := Lib.hid (S6.out.trans (hb.mono S6.out.size))
  have HS8 := Lib.hid h6
  have HT8 := Lib.hid hlt
  have HO8 := Lib.hid hoff
  clear hm h6 hlt hoff hb
  go_simp
  refine hK.out _ _ (S8.out) (fun _ => ?_)
  clear hK K hHeld
  try simp only [Act.put, List.setIfInBounds_toArray, List.set_cons_zero, List.set_cons_succ]
  have hHeld : ((fun W => Below V.heap.size V W)) w8 := S8.out
  refine wpAnyH_ready (rs := [9]) (by kernel_rfl) (by simp) ?_
  refine AllReadyH.cons (o := { dst := some 23, op := Op.call { callee := Callee.value (Operand.func 10), args := #[Operand.tmp 20, Operand.tmp 22], argTypes := #[31, 31] }, type := 4, pos := _, after := _, guard := some (4, true) }) rfl (fun K hK => ?_) AllReadyH.nil
  go_simp
  have hsame := same'_any lt6 lt8 w8 w8.heap.size (HO6.out.under b8.out).at_ HO8.out.at_ (Nat.le_refl _) true ⟨fun _ => by rw [HT6.out, HT8.out], fun _ => rfl⟩
  rw [Of6.val HS6.out, Of6.val HS8.out] at hsame
  refine (hsame).mono ?_
  rintro e w9 ⟨rfl, hb⟩
  have S9 : Hid ((fun W => Below V.heap.size V W) w9) := Lib.hid (S8.out.trans (hb.mono S8.out.size))
  clear hb
  clear hsame
  go_simp
  refine hK.out _ _ (S9.out) (fun _ => ?_)
  clear hK K hHeld
  try simp only [Act.put, List.setIfInBounds_toArray, List.set_cons_zero, List.set_cons_succ]
  have hHeld : ((fun W => Below V.heap.size V W)) w9 := S9.out
  refine wpAnyH_take (i := 10) (oi := { dst := some 24, op := Op.pick (Operand.tmp 18) (Operand.tmp 23) (Operand.const (Value.bool false)), type := 4, pos := _, after := _, guard := none }) (v := ?_) rfl (by kernel_rfl) (by kernel_rfl) (by kernel_rfl) (fun _ _ _ h => h) (Or.inl ⟨by rfl, ?_⟩) hHeld ?_
  rotate_left 1
  · (intro W hW; (try dsimp only at hW); go_simp; try with_reducible rfl)
  try simp only [Act.put, List.setIfInBounds_toArray, List.set_cons_zero, List.set_cons_succ]
  refine wpAnyH_take (i := 11) (oi := { dst := some 25, op := Op.move (Operand.tmp 24), type := 4, pos := _, after := _, guard := none }) (v := ?_) rfl (by kernel_rfl) (by kernel_rfl) (by kernel_rfl) (fun _ _ _ h => h) (Or.inl ⟨by rfl, ?_⟩) hHeld ?_
  rotate_left 1
  · (intro W hW; (try dsimp only at hW); go_simp; try with_reducible rfl)
  try simp only [Act.put, List.setIfInBounds_toArray, List.set_cons_zero, List.set_cons_succ]
  refine wpAnyH_take (i := 12) (oi := { dst := some 26, op := Op.load 25 (Operand.tmp 2), type := 25, pos := _, after := _, guard := some (11, true) }) (v := ?_) rfl (by kernel_rfl) (by kernel_rfl) (by kernel_rfl) (fun _ _ _ h => h) (Or.inl ⟨by rfl, ?_⟩) hHeld ?_
  rotate_left 1
  · (intro W hW; have k := HA.out.under hW HA.out.lt; have k0 := k.cell 0; have k1 := k.cell 1; have k2 := k.cell 2; (try dsimp only at hW); go_simp; try with_reducible rfl)
  try simp only [Act.put, List.setIfInBounds_toArray, List.set_cons_zero, List.set_cons_succ]
  refine wpAnyH_take (i := 13) (oi := { dst := some 27, op := Op.load 25 (Operand.tmp 3), type := 25, pos := _, after := _, guard := some (11, true) }) (v := ?_) rfl (by kernel_rfl) (by kernel_rfl) (by kernel_rfl) (fun _ _ _ h => h) (Or.inl ⟨by rfl, ?_⟩) hHeld ?_
  rotate_left 1
  · (intro W hW; have k := HB.out.under hW HB.out.lt; have k0 := k.cell 0; have k1 := k.cell 1; have k2 := k.cell 2; (try dsimp only at hW); go_simp; try with_reducible rfl)
  try simp only [Act.put, List.setIfInBounds_toArray, List.set_cons_zero, List.set_cons_succ]
  refine wpAnyH_take (i := 15) (oi := { dst := some 29, op := Op.load 25 (Operand.tmp 2), type := 25, pos := _, after := _, guard := some (11, true) }) (v := ?_) rfl (by kernel_rfl) (by kernel_rfl) (by kernel_rfl) (fun _ _ _ h => h) (Or.inl ⟨by rfl, ?_⟩) hHeld ?_
  rotate_left 1
  · (intro W hW; have k := HA.out.under hW HA.out.lt; have k0 := k.cell 0; have k1 := k.cell 1; have k2 := k.cell 2; (try dsimp only at hW); go_simp; try with_reducible rfl)
  try simp only [Act.put, List.setIfInBounds_toArray, List.set_cons_zero, List.set_cons_succ]
  refine wpAnyH_take (i := 16) (oi := { dst := some 30, op := Op.load 25 (Operand.tmp 3), type := 25, pos := _, after := _, guard := some (11, true) }) (v := ?_) rfl (by kernel_rfl) (by kernel_rfl) (by kernel_rfl) (fun _ _ _ h => h) (Or.inl ⟨by rfl, ?_⟩) hHeld ?_
  rotate_left 1
  · (intro W hW; have k := HB.out.under hW HB.out.lt; have k0 := k.cell 0; have k1 := k.cell 1; have k2 := k.cell 2; (try dsimp only at hW); go_simp; try with_reducible rfl)
  try simp only [Act.put, List.setIfInBounds_toArray, List.set_cons_zero, List.set_cons_succ]
  refine wpAnyH_ready (rs := [14]) (by kernel_rfl) (by simp) ?_
  refine AllReadyH.cons (o := { dst := some 28, op := Op.call { callee := Callee.value (Operand.func 13), args := #[Operand.tmp 26, Operand.tmp 27], argTypes := #[25, 25] }, type := 4, pos := _, after := _, guard := some (11, true) }) rfl (fun K hK => ?_) AllReadyH.nil
  go_simp
  refine (HSA.out _ S9.out).mono ?_
  rintro e w14 ⟨rfl, hb⟩
  have S14 : Hid ((fun W => Below V.heap.size V W) w14) := Lib.hid (S9.out.trans (hb.mono S9.out.size))
  clear hb
  go_simp
  refine hK.out _ _ (S14.out) (fun _ => ?_)
  clear hK K hHeld
  try simp only [Act.put, List.setIfInBounds_toArray, List.set_cons_zero, List.set_cons_succ]
  have hHeld : ((fun W => Below V.heap.size V W)) w14 := S14.out
  refine wpAnyH_ready (rs := [17]) (by kernel_rfl) (by simp) ?_
  refine AllReadyH.cons (o := { dst := some 31, op := Op.call { callee := Callee.value (Operand.func 14), args := #[Operand.tmp 29, Operand.tmp 30], argTypes := #[25, 25] }, type := 4, pos := _, after := _, guard := some (11, true) }) rfl (fun K hK => ?_) AllReadyH.nil
  go_simp
  refine (HSR.out _ S14.out).mono ?_
  rintro e w17 ⟨rfl, hb⟩
  have S17 : Hid ((fun W => Below V.heap.size V W) w17) := Lib.hid (S14.out.trans (hb.mono S14.out.size))
  clear hb
  go_simp
  refine hK.out _ _ (S17.out) (fun _ => ?_)
  clear hK K hHeld
  try simp only [Act.put, List.setIfInBounds_toArray, List.set_cons_zero, List.set_cons_succ]
  have hHeld : ((fun W => Below V.heap.size V W)) w17 := S17.out
  refine wpAnyH_take (i := 18) (oi := { dst := some 32, op := Op.binOp BinOp.eql 4 (Operand.tmp 28) (Operand.tmp 31) 4, type := 4, pos := _, after := _, guard := some (11, true) }) (v := ?_) rfl (by kernel_rfl) (by kernel_rfl) (by kernel_rfl) (fun _ _ _ h => h) (Or.inl ⟨by rfl, ?_⟩) hHeld ?_
  rotate_left 1
  · (intro W hW; (try dsimp only at hW); go_simp; try with_reducible rfl)
  try simp only [Act.put, List.setIfInBounds_toArray, List.set_cons_zero, List.set_cons_succ]
  refine wpAnyH_take (i := 19) (oi := { dst := some 33, op := Op.pick (Operand.tmp 25) (Operand.tmp 32) (Operand.const (Value.bool false)), type := 4, pos := _, after := _, guard := none }) (v := ?_) rfl (by kernel_rfl) (by kernel_rfl) (by kernel_rfl) (fun _ _ _ h => h) (Or.inl ⟨by rfl, ?_⟩) hHeld ?_
  rotate_left 1
  · (intro W hW; (try dsimp only at hW); go_simp; try with_reducible rfl)
  try simp only [Act.put, List.setIfInBounds_toArray, List.set_cons_zero, List.set_cons_succ]
  refine wpAnyH_take (i := 20) (oi := { dst := some 34, op := Op.move (Operand.tmp 33), type := 4, pos := _, after := _, guard := none }) (v := ?_) rfl (by kernel_rfl) (by kernel_rfl) (by kernel_rfl) (fun _ _ _ h => h) (Or.inl ⟨by rfl, ?_⟩) hHeld ?_
  rotate_left 1
  · (intro W hW; (try dsimp only at hW); go_simp; try with_reducible rfl)
  try simp only [Act.put, List.setIfInBounds_toArray, List.set_cons_zero, List.set_cons_succ]
  refine wpAnyH_ready (rs := [21]) (by kernel_rfl) (by simp) ?_
  refine AllReadyH.cons (o := { dst := some 35, op := Op.call { callee := Callee.value (Operand.func 15), args := #[], argTypes := #[] }, type := 4, pos := _, after := _, guard := some (20, true) }) rfl (fun K hK => ?_) AllReadyH.nil
  go_simp
  refine (HKN.out _ S17.out).mono ?_
  rintro e w21 ⟨rfl, hb⟩
  have S21 : Hid ((fun W => Below V.heap.size V W) w21) := Lib.hid (S17.out.trans (hb.mono S17.out.size))
  clear hb
  go_simp
  refine hK.out _ _ (S21.out) (fun _ => ?_)
  clear hK K hHeld
  try simp only [Act.put, List.setIfInBounds_toArray, List.set_cons_zero, List.set_cons_succ]
  have hHeld : ((fun W => Below V.heap.size V W)) w21 := S21.out
  refine wpAnyH_take (i := 22) (oi := { dst := some 36, op := Op.pick (Operand.tmp 34) (Operand.tmp 35) (Operand.const (Value.bool false)), type := 4, pos := _, after := _, guard := none }) (v := ?_) rfl (by kernel_rfl) (by kernel_rfl) (by kernel_rfl) (fun _ _ _ h => h) (Or.inl ⟨by rfl, ?_⟩) hHeld ?_
  rotate_left 1
  · (intro W hW; (try dsimp only at hW); go_simp; try with_reducible rfl)
  try simp only [Act.put, List.setIfInBounds_toArray, List.set_cons_zero, List.set_cons_succ]
  refine wpAnyH_take (i := 23) (oi := { dst := some 4, op := Op.assign (Operand.tmp 36), type := 4, pos := _, after := _, guard := none }) (v := ?_) rfl (by kernel_rfl) (by kernel_rfl) (by kernel_rfl) (fun _ _ _ h => h) (Or.inl ⟨by rfl, ?_⟩) hHeld ?_
  rotate_left 1
  · (intro W hW; (try dsimp only at hW); go_simp; try with_reducible rfl)
  try simp only [Act.put, List.setIfInBounds_toArray, List.set_cons_zero, List.set_cons_succ]
  refine wpAnyH_done (by kernel_rfl) ?_ _
  refine NoPanic.normal ?_
  go_wp2_with fail
  go_ret
  exact ⟨rfl, HQ.out.trans (S21.out.mono HQ.out.size)⟩
end Go.Proofs.YtdjklhglkmacbaaDoor
