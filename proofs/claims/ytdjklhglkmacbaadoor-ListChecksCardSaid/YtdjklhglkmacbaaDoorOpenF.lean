/-
  A manifest and rows of bytes as arguments, opened; the words K.
-/
import Derived.Test.YtdjklhglkmacbaaDoorOpenB
import Derived.Test.YtdjklhglkmacbaaDoorLiA
import Derived.Lib.SmallJoins
import Derived.OpenShut
import Derived.SizedLaws
import Derived.Deep.Matrix
import Derived.Test.YtdjklhglkmacbaaDoorRows
import Derived.Test.YtdjklhglkmacbaaDoorShaM
import Derived.Lib.LaidTab
import Derived.Lay
import Derived.LaidMore
import Derived.LaidOnce
import Derived.MakeChecks
namespace Go.Proofs.YtdjklhglkmacbaaDoor
open Go.RowKit Go.ChangeShapes Go.WideShapes
set_option linter.unusedVariables false

theorem list_of {α : Type} [Inhabited α] {P : Nat → α → Prop} : ∀ n, (∀ i, i < n → ∃ a, P i a) → ∃ l : List α, l.length = n ∧ ∀ i, i < n → P i (l.getD i default)
  | 0, _ => ⟨[], rfl, fun i h => absurd h (by omega)⟩
  | n + 1, h => by
    obtain ⟨l, hl, hp⟩ := list_of n (fun i hi => h i (by omega))
    obtain ⟨a, ha⟩ := h n (by omega)
    refine ⟨l ++ [a], by simp [hl], fun i hi => ?_⟩
    by_cases e : i = n
    · subst e
      have e2 : (l ++ [a]).getD i default = a := by simp [List.getD, ← hl]
      rw [e2]; exact ha
    · have e2 : (l ++ [a]).getD i default = l.getD i default := by simp [List.getD, List.getElem?_append_left (show i < l.length by omega)]
      rw [e2]; exact hp i (by omega)
theorem weightsAll_mem {H : Type} {P : Program} {e : TypeId} : ∀ {ds : List (DataW H)} {d : DataW H}, d ∈ ds → ∀ k ∈ d.weights P e, k ∈ DataW.weightsAll P e ds
  | x :: r, d, hd, k, hk => by
    simp only [DataW.weightsAll, List.mem_append]
    rcases List.mem_cons.1 hd with rfl | hd
    · exact .inl hk
    · exact .inr (weightsAll_mem hd k hk)
theorem slice_formC {H : Type} {enc : TypeId × Value → H} {P : Program} {w : World} {base : Nat} {sp : Nat → Bool} {held : Bool} {fuel : Nat} {t e : TypeId} {v : Value} {x : DataW H × List MemPlace} (ht : P.underlying t = some (.slice e)) (h : DataW.trod enc P w base sp held fuel t [v] = some x) : ∃ a n c, v = .slice a n c := by
  rcases Deep.open_slice ht h with ⟨hcs, _⟩ | ⟨a, len, cap, m, n, D, Pl, hcs, _⟩
  · exact ⟨none, 0, 0, by simpa using hcs⟩
  · exact ⟨some a, len, cap, by simpa using hcs⟩
theorem str_all (t : ByteArray) : ∃ l : List Nat, t = str l ∧ ∀ x ∈ l, x < 256 := by
  refine ⟨t.data.toList.map UInt8.toNat, ?_, fun x hx => ?_⟩
  · cases t with
    | mk d =>
      unfold str
      congr 1
      rw [List.map_map]
      have : (UInt8.ofNat ∘ UInt8.toNat) = id := by funext x; simp
      rw [this, List.map_id]
  · obtain ⟨y, _, rfl⟩ := List.mem_map.1 hx
    exact y.toNat_lt
theorem cells_strM : Tryd.prog.cellsOf 9 = 1 := by kernel_rfl
theorem cells_intM : Tryd.prog.cellsOf 3 = 1 := by kernel_rfl
theorem cells_u64M : Tryd.prog.cellsOf 22 = 1 := by kernel_rfl
theorem cells_u8sM : Tryd.prog.cellsOf 28 = 1 := by kernel_rfl
theorem cells_ens : Tryd.prog.cellsOf 23 = 1 := by kernel_rfl
theorem cells_en : Tryd.prog.cellsOf 42 = 3 := by kernel_rfl
theorem cells_mf : Tryd.prog.cellsOf 25 = 3 := by kernel_rfl
theorem list3 {α : Type} {l : List α} (h : l.length = 3) : ∃ c0 c1 c2, l = [c0, c1, c2] := by
  rcases l with _ | ⟨c0, _ | ⟨c1, _ | ⟨c2, _ | ⟨c3, r⟩⟩⟩⟩
  · simp at h
  · simp at h
  · simp at h
  · exact ⟨c0, c1, c2, rfl⟩
  · simp at h
theorem array3 {α : Type} {cs : Array α} (h : cs.size = 3) : ∃ c0 c1 c2, cs = #[c0, c1, c2] := by
  obtain ⟨l⟩ := cs
  obtain ⟨c0, c1, c2, rfl⟩ := list3 (l := l) h
  exact ⟨c0, c1, c2, rfl⟩
theorem en_open {H : Type} {enc : TypeId × Value → H} {w : World} {base : Nat} {held : Bool} {n : Nat} {v0 v1 v2 : Value} {x : DataW H × List MemPlace} (h : DataW.trod enc Tryd.prog w base (fun _ => true) held n 42 [v0, v1, v2] = some x) :
    ∃ d : En, v0 = .string (str d.path) ∧ v1 = .int .i64 d.sz ∧ v2 = .slice d.da d.dig.length d.dc ∧ EnP d w ∧ ∃ k ∈ x.1.weights Tryd.prog 42, d.path.length ≤ k := by
  obtain ⟨xs, k, _, hx, _, hlen, hf⟩ := DataW.trod_struct Tryd.underlying42 h
  obtain ⟨y0, y1, y2, rfl⟩ := list3 hlen
  have g0 := hf 0 _ rfl
  have g1 := hf 1 _ rfl
  have g2 := hf 2 _ rfl
  simp [cells_strM, cells_intM, cells_u8sM] at g0 g1 g2
  obtain ⟨s, e0, e02, _⟩ := DataW.trod_string Tryd.underlying9 g0
  obtain ⟨i1, e1, _, _⟩ := DataW.trod_int Tryd.underlying3 g1
  obtain ⟨a2, n2, c2, rfl⟩ := slice_formC Tryd.underlying28 g2
  obtain ⟨A, m2, d2, l, e2, hl, hr, ho⟩ := rd1_open (v := .slice a2 n2 c2) g2 ⟨_, _, _, rfl⟩
  injection e2 with e2a e2b e2c
  subst e2a e2b e2c
  obtain ⟨L, rfl, hoL⟩ := str_all s
  refine ⟨⟨L, i1, a2, c2, l⟩, by simpa using e0, by simpa using e1, by rw [← hl], ⟨hr, ho, hoL⟩, (str L).data.toList.length, ?_, by simp [str]⟩
  rw [hx]
  simp only [DataW.weights, Tryd.underlying42, List.map_cons, List.map_nil]
  refine DataW.weights_mem_each (j := 0) rfl rfl _ ?_
  rw [e02]
  simp [DataW.weights]
theorem ns_open {H : Type} {enc : TypeId × Value → H} {w : World} {base : Nat} {held : Bool} {fuel : Nat} {v : Value} {x : DataW H × List MemPlace} (h : DataW.trod enc Tryd.prog w base (fun _ => true) held fuel 23 v.cells.toList = some x) (hv : ∃ a n c, v = .slice a n c) :
    ∃ (A : Option Addr) (n c : Nat) (l : List En), v = .slice A n c ∧ l.length = n ∧ NsP A c l w ∧ ∀ y ∈ l, ∃ k ∈ x.1.weights Tryd.prog 23, y.path.length ≤ k := by
  obtain ⟨a, n, c, rfl⟩ := hv
  rcases Deep.open_slice Tryd.underlying23 h with ⟨hcs, _⟩ | ⟨a', len, cap, m, n', D, Pl, hcs, _, hl, hm, hmm, hx, hc⟩
  · simp [Value.cells] at hcs
    obtain ⟨rfl, rfl, rfl⟩ := hcs
    exact ⟨none, 0, 0, [], rfl, rfl, NsP.none _, fun y hy => by cases hy⟩
  · simp [Value.cells] at hcs
    obtain ⟨rfl, rfl, rfl⟩ := hcs
    have hlm : n ≤ m := by rw [hmm]; split <;> omega
    obtain ⟨l, hln, hlp⟩ := list_of (P := fun i (t : En) => (w.cell? (a'.add (i * 3)) = some (.string (str t.path)) ∧ w.cell? (a'.add (i * 3 + 1)) = some (.int .i64 t.sz) ∧ w.cell? (a'.add (i * 3 + 2)) = some (.slice t.da t.dig.length t.dc)) ∧ EnP t w ∧ ∃ k ∈ (D i).weights Tryd.prog 42, t.path.length ≤ k) n (fun i hi => by
      obtain ⟨cs', h1, h2⟩ := hc i (by omega)
      rw [cells_en] at h1
      obtain ⟨_, hlen, hcell⟩ := World.cells?_some h1
      match cs', hlen with
      | [v0, v1, v2], _ =>
        obtain ⟨t, e0, e1, e2, r1, r2⟩ := en_open h2
        have k0 := hcell 0 (by omega)
        have k1 := hcell 1 (by omega)
        have k2 := hcell 2 (by omega)
        rw [Deep.add_add] at k0 k1 k2
        exact ⟨t, ⟨by rw [← e0]; simpa using k0, by rw [← e1]; simpa using k1, by rw [← e2]; simpa using k2⟩, r1, r2⟩)
    have hwt : ∀ i, i < n → ∀ k ∈ (D i).weights Tryd.prog 42, k ∈ x.1.weights Tryd.prog 23 := fun i hi k hk => by
      rw [hx]
      simp only [DataW.weights, Tryd.underlying23, List.mem_cons, List.mem_append]
      exact .inr (.inl (weightsAll_mem (d := D i) (List.mem_map.2 ⟨i, by simpa using hi, rfl⟩) k hk))
    refine ⟨some a', n, c, l, rfl, hln, ⟨⟨by omega, by unfold maxLen at hm; exact hm, fun hn => ?_⟩, fun y hy => ?_⟩, fun y hy => ?_⟩
    · obtain ⟨b, off, sp'⟩ := a'
      have hc0 := (hlp 0 (by omega)).1.1
      have hsp : sp' = none := by simpa [Addr.add] using World.cell?_spot hc0
      subst hsp
      have hadd : ∀ j, (⟨b, off, none⟩ : Addr).add j = ⟨b, off + j, none⟩ := fun j => by unfold Addr.add; split <;> simp_all
      refine ⟨b, off, rfl, ?_, fun j hj => ?_⟩
      · have := World.block_lt_of_cell? w _ hc0
        rw [hadd] at this
        exact this
      · obtain ⟨⟨k0, k1, k2⟩, _⟩ := hlp j (by omega)
        rw [hadd] at k0 k1 k2
        exact ⟨k0, by simpa [Nat.add_assoc] using k1, by simpa [Nat.add_assoc] using k2⟩
    · obtain ⟨j, hj, rfl⟩ := List.getElem_of_mem hy
      have h2 := (hlp j (by omega)).2.1
      rwa [show l.getD j default = l[j] by simp [List.getD, hj]] at h2
    · obtain ⟨j, hj, rfl⟩ := List.getElem_of_mem hy
      obtain ⟨k, hk, hle⟩ := (hlp j (by omega)).2.2
      rw [show l.getD j default = l[j] by simp [List.getD, hj]] at hle
      exact ⟨k, hwt j (by omega) k hk, hle⟩
set_option maxRecDepth 100000 in
theorem mf_open {H : Type} {enc : TypeId × Value → H} {w : World} {base b0 : Nat} {held : Bool} {r : Reach} {v : Value} {d : DataW H} {p : List MemPlace} (hv : Value.okWide Tryd.prog w r b0 25 v) (h : DataW.Trod enc Tryd.prog w base (fun _ => true) held 25 v d p) :
    ∃ m : Mf, v = .agg (mcell m).toArray ∧ MfP m w ∧ (∃ k ∈ d.weights Tryd.prog 25, m.name.length ≤ k) ∧ ∀ y ∈ m.files, ∃ k ∈ d.weights Tryd.prog 25, y.path.length ≤ k := by
  obtain ⟨cs, rfl, hsz⟩ := okWide_struct Tryd.underlying25 hv
  obtain ⟨v0, v1, v2, rfl⟩ := array3 (hsz.trans cells_mf)
  obtain ⟨fuel, hf⟩ := h
  obtain ⟨xs, k, _, hx, _, hlen, hfs⟩ := DataW.trod_struct Tryd.underlying25 hf
  obtain ⟨y0, y1, y2, rfl⟩ := list3 hlen
  have g0 := hfs 0 _ rfl
  have g1 := hfs 1 _ rfl
  have g2 := hfs 2 _ rfl
  simp [Value.cells, cells_strM, cells_u64M, cells_ens] at g0 g1 g2
  obtain ⟨s, e0, e02, _⟩ := DataW.trod_string Tryd.underlying9 g0
  obtain ⟨i1, e1, _, w1⟩ := DataW.trod_int Tryd.underlying22 g1
  obtain ⟨a2, n2, c2, rfl⟩ := slice_formC Tryd.underlying23 g2
  obtain ⟨A2, m2, d2, l, f2, hl2, hr2, hw2⟩ := ns_open (v := .slice a2 n2 c2) g2 ⟨_, _, _, rfl⟩
  injection f2 with f2a f2b f2c
  subst f2a f2b f2c
  have e0 : v0 = .string s := by simpa using e0
  have e1 : v1 = .int .u64 i1 := by simpa using e1
  subst e0 e1
  have hi : 0 ≤ i1 ∧ i1 < 18446744073709551616 := by have := bounds_u64 w1; omega
  obtain ⟨c, rfl⟩ : ∃ c : Nat, i1 = (c : Int) := ⟨i1.toNat, by omega⟩
  obtain ⟨L, rfl, hoL⟩ := str_all s
  simp only [Prod.mk.injEq] at hx
  refine ⟨⟨L, c, a2, c2, l⟩, by simp only [mcell]; rw [hl2], ⟨hr2, hoL, by show c < _; omega⟩, ⟨(str L).data.toList.length, ?_, by simp [str]⟩, fun y hy => ?_⟩
  · rw [hx.1]
    simp only [DataW.weights, Tryd.underlying25, List.map_cons, List.map_nil]
    refine DataW.weights_mem_each (j := 0) rfl rfl _ ?_
    rw [e02]
    simp [DataW.weights]
  · obtain ⟨kk, hk, hle⟩ := hw2 y hy
    refine ⟨kk, ?_, hle⟩
    rw [hx.1]
    simp only [DataW.weights, Tryd.underlying25, List.map_cons, List.map_nil]
    exact DataW.weights_mem_each (j := 2) rfl rfl _ hk
theorem oct_of6 {l : List Nat} (h : ∀ x ∈ l, x < 256) : Oct6 l := fun i => by
  rcases Nat.lt_or_ge i l.length with hi | hi
  · rw [List.getD, List.getElem?_eq_getElem hi]; exact h _ (List.getElem_mem hi)
  · rw [List.getD, List.getElem?_eq_none hi]; exact (by decide : (0 : Nat) < 256)
theorem rdR_open {H : Type} {enc : TypeId × Value → H} {w : World} {base : Nat} {held : Bool} {fuel : Nat} {v : Value} {x : DataW H × List MemPlace} (h : DataW.trod enc Tryd.prog w base (fun _ => true) held fuel 35 v.cells.toList = some x) (hv : ∃ a n c, v = .slice a n c) :
    ∃ (A : Option Addr) (n c : Nat) (rs : List Rw), v = .slice A n c ∧ rs.length = n ∧ RdR w w.heap.size A c rs ∧ ∀ j, Oct6 (rs.getD j default).l := by
  obtain ⟨a, n, c, rfl⟩ := hv
  rcases Deep.open_int_rows Tryd.underlying35 Tryd.underlying28 Tryd.underlying5 (by kernel_rfl) (by kernel_rfl) h with ⟨hcs, _⟩ | ⟨a', len, cap, A, L, C, Z, hcs, _, hl, hm, _, hc⟩
  · simp [Value.cells] at hcs
    obtain ⟨rfl, rfl, rfl⟩ := hcs
    exact ⟨none, 0, 0, [], rfl, rfl, ⟨by simp, by omega, fun j hj => by simp at hj, fun hn => by simp at hn⟩, fun j i => by simp [default]⟩
  · simp [Value.cells] at hcs
    obtain ⟨rfl, rfl, rfl⟩ := hcs
    obtain ⟨l, hln, hlp⟩ := list_of (P := fun i (t : Rw) => w.cell? (a'.add i) = some (.slice t.a t.l.length t.c) ∧ Rd .u8 w w.heap.size t.a t.c t.l ∧ Oct6 t.l) n (fun i hi => by
      obtain ⟨h0, h1, h2, h3, h4, h5, h6⟩ := hc i (by omega)
      obtain ⟨b, k1, k2, k3⟩ := rd_of_row wf_u8 (w := w) (a := A i) (len := L i) (cap := C i) (zs := Z i) (by
        cases hA : A i with
        | none =>
          have hC := h5 hA
          exact .inl ⟨rfl, by omega, hC, List.eq_nil_of_length_eq_zero (by omega)⟩
        | some x => exact .inr ⟨x, rfl, h1, h2, h3, fun j hj => (h6 x hA).2 j (by omega), h4⟩)
      exact ⟨⟨A i, C i, b⟩, by rw [h0, ← k1], k2, oct_of6 k3⟩)
    refine ⟨some a', n, c, l, rfl, hln, ⟨by omega, by unfold maxLen at hm; exact hm, fun j hj => (hlp j (by omega)).2.1, fun hn => ?_⟩, fun j => ?_⟩
    · obtain ⟨b, off, sp'⟩ := a'
      have hc0 := (hlp 0 (by omega)).1
      have hsp : sp' = none := by simpa [Addr.add] using World.cell?_spot hc0
      subst hsp
      have hadd : ∀ j, (⟨b, off, none⟩ : Addr).add j = ⟨b, off + j, none⟩ := fun j => by unfold Addr.add; split <;> simp_all
      refine ⟨b, off, rfl, ?_, fun j hj => ?_⟩
      · have := World.block_lt_of_cell? w _ hc0
        rw [hadd] at this
        exact this
      · have := (hlp j (by omega)).1
        rw [hadd] at this
        exact this
    · rcases Nat.lt_or_ge j n with hj | hj
      · exact (hlp j hj).2.2
      · intro i
        rw [show l.getD j default = default by rw [List.getD, List.getElem?_eq_none (by omega)]; rfl]
        exact (by decide : 0 < 256)
theorem k_data : (Rows.laid_apostille_sha_k : DataW Unit) = Lib.tabData .u32 (KL.map fun x : Nat => (x : Int)) := rfl
theorem kmet_of {W : World} (h : laidMetH Tryd.prog [("apostille/sha.k", Rows.laid_apostille_sha_k), ("unicode/utf8.acceptRanges", Rows.laid_unicode_utf8_acceptRanges), ("unicode/utf8.first", Rows.laid_unicode_utf8_first)] W) : KMet W := by
  rw [MakeChecks.laidMetH_plain _ _ _ (by kernel_rfl), k_data] at h
  have hT := Lib.tabIs_of_head (P := Tryd.prog) (g := 2) (t := 82) (e := 62) (n := 64) (by kernel_rfl) (by kernel_rfl) Tryd.underlying82 Tryd.underlying62 (by kernel_rfl) (by kernel_rfl) h
  have hc : ∀ t, t < 64 → W.cell? ⟨2, t, none⟩ = some (.int .u32 ((KL.getD t 0 : Nat) : Int)) := fun t ht => by
    have hg0 : Tryd.prog.globalNamed "apostille/sha.k" = some 2 := by kernel_rfl
    have := hT.cell hg0 t (by exact ht)
    rw [this]
    congr 2
    simp [List.getD, show t < KL.length from ht]
  exact ⟨World.block_lt_of_cell? W _ (hc 0 (by omega)), hc⟩
end Go.Proofs.YtdjklhglkmacbaaDoor
