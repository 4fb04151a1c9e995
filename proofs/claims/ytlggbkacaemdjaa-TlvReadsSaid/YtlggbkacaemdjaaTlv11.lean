/-
  All things in a thing, one after the other: the program's iterator.
-/
import Derived.RangeFuncNested
import Derived.RangeFuncBound
import Derived.RangeFuncCalls
import Derived.RangeFuncLeaves
import Derived.RangeFuncKeeps
import Derived.RangeFuncFrom
import Derived.Shelf.Abstract
import Derived.Shelf.RegionOpen
import Derived.OwnWalkIn
import Derived.TacticsInMore
import Derived.LoopNIn
import Derived.LoopIn
import Derived.Test.YtlggbkacaemdjaaTlv10
namespace Go.Proofs.Ytlggbkacaemdjaa
open Go.RowKit Go.Shelf
set_option linter.unusedVariables false
set_option linter.unusedSimpArgs false
attribute [local go_sem] Oper.semAt_some

mutual
/-- All things in a thing, itself first, with how deep each is. -/
def Lt.items : Lt → Nat → List (Nat × Lt)
  | .mk tag ba bc body ka kc kids, d => (d, .mk tag ba bc body ka kc kids) :: Lt.itemss kids (d + 1)
def Lt.itemss : List Lt → Nat → List (Nat × Lt)
  | [], _ => []
  | x :: r, d => x.items d ++ Lt.itemss r d
end
theorem Lt.itemss_append : ∀ (a b : List Lt) (d : Nat), Lt.itemss (a ++ b) d = Lt.itemss a d ++ Lt.itemss b d
  | [], b, d => by simp [Lt.itemss]
  | x :: r, b, d => by rw [List.cons_append, Lt.itemss, Lt.itemss, Lt.itemss_append r b, List.append_assoc]
theorem Lt.itemss_more {l : List Lt} {k : Nat} (h : k < l.length) (d : Nat) : Lt.itemss (l.take (k + 1)) d = Lt.itemss (l.take k) d ++ (l.getD k default).items d := by
  rw [take_more l h, Lt.itemss_append]
  simp [Lt.itemss]
theorem Lt.itemss_take (l : List Lt) (k d : Nat) : Lt.itemss (l.take k) d <+: Lt.itemss l d := by
  have := Lt.itemss_append (l.take k) (l.drop k) d
  rw [List.take_append_drop] at this
  rw [this]
  exact List.prefix_append _ _
mutual
theorem Lt.items_len : ∀ (t : Lt) (d : Nat), (t.items d).length = t.t.count
  | .mk _ _ _ _ _ _ kids, d => by rw [Lt.items, Lt.t, Tr.count, List.length_cons, Lt.itemss_len' kids (d + 1)]; omega
theorem Lt.itemss_len' : ∀ (l : List Lt) (d : Nat), (Lt.itemss l d).length = Tr.counts (Lt.ts l)
  | [], d => by simp [Lt.itemss, Lt.ts, Tr.counts]
  | x :: r, d => by rw [Lt.itemss, Lt.ts, Tr.counts, List.length_append, Lt.items_len x d, Lt.itemss_len' r d]
end
theorem Lt.itemss_len (l : List Lt) (d : Nat) : (Lt.itemss l d).length = Tr.counts (l.map Lt.t) := by rw [Lt.itemss_len', Lt.ts_map]
/-- One of them, as it is handed on. -/
abbrev It := { p : Nat × Lt // p.2.tag < 256 }
def itv (x : It) : Array Value := #[.int .i64 (x.1.1 : Int), x.1.2.val]
/-- No cell turns but those of two blocks. -/
def PassX (c1 c2 : Nat) (A B : World) : Prop := A.heap.size ≤ B.heap.size ∧ ∀ b o v, b ≠ c1 → b ≠ c2 → A.cell? ⟨b, o, none⟩ = some v → B.cell? ⟨b, o, none⟩ = some v
theorem PassX.refl (c1 c2 : Nat) (A : World) : PassX c1 c2 A A := ⟨Nat.le_refl _, fun _ _ _ _ _ h => h⟩
theorem PassX.trans {c1 c2 : Nat} {A B C : World} (h : PassX c1 c2 A B) (k : PassX c1 c2 B C) : PassX c1 c2 A C := ⟨Nat.le_trans h.1 k.1, fun b o v h1 h2 hv => k.2 b o v h1 h2 (h.2 b o v h1 h2 hv)⟩
theorem PassX.alloc (c1 c2 : Nat) (A : World) (o : Obj) : PassX c1 c2 A (A.alloc o) := ⟨by simp, fun b o' v _ _ hv => by
  have hlt := World.block_lt_of_cell? A _ hv
  rw [World.cell?_alloc_past _ _ _ hlt]; exact hv⟩
theorem TrAt.pass {w w' : World} {B : Nat} (hp : ∀ b o v, b < B → w.cell? ⟨b, o, none⟩ = some v → w'.cell? ⟨b, o, none⟩ = some v) : ∀ (N : Nat) {t : Lt}, t.sz < N → TrAt w B t → TrAt w' B t
  | 0, _, h, _ => by omega
  | N + 1, .mk tag ba bc body ka kc kids, h, hr => by
    rw [trAt_mk] at hr ⊢
    obtain ⟨h1, h2, h3, h4, h5⟩ := hr
    refine ⟨h1, ⟨h2.1, h2.2.1, fun hn => ?_⟩, h3, ⟨h4.1, h4.2.1, fun hn => ?_⟩, fun j hj => TrAt.pass hp N (by have := lt_kid (tag := tag) (ba := ba) (bc := bc) (body := body) (ka := ka) (kc := kc) hj; omega) (h5 j hj)⟩
    · obtain ⟨b, off, e, hlt, hc⟩ := h2.2.2 hn
      exact ⟨b, off, e, hlt, fun j hj => hp _ _ _ hlt (hc j hj)⟩
    · obtain ⟨b, off, e, hlt, hc⟩ := h4.2.2 hn
      exact ⟨b, off, e, hlt, fun j hj => ⟨hp _ _ _ hlt (hc j hj).1, hp _ _ _ hlt (hc j hj).2.1, hp _ _ _ hlt (hc j hj).2.2⟩⟩
theorem TrAt.passX {c1 c2 : Nat} {w w' : World} {B : Nat} {t : Lt} (h : TrAt w B t) (hp : PassX c1 c2 w w') (h1 : B ≤ c1) (h2 : B ≤ c2) : TrAt w' B t :=
  TrAt.pass (fun b o v hb hv => hp.2 b o v (by omega) (by omega) hv) (t.sz + 1) (Nat.lt_succ_self _) h
theorem room_of_none {F : Fence} (hd : F.depth = none) (k : Nat) : F.room k := fun d h => by rw [hd] at h; cases h

def RelW (l c1 c2 n : Nat) (J : List It → World → Prop) (pre : List It) (d : Nat) (me : Nat × Lt) (kids : List Lt) (W : World) (i : Value) (wr : World) : Prop :=
  ∃ (k : Nat) (ys : List It), k ≤ n ∧ i = .int .i64 k ∧ Hid (ys.map (·.1) = me :: Lt.itemss (kids.take k) (d + 1)) ∧ J (pre ++ ys) wr ∧ Hid (PassX c1 c2 W wr)
set_option maxRecDepth 100000 in
set_option maxHeartbeats 4000000 in
theorem walk_in (F : Fence) (hd : F.depth = none) (h37 : F.fn 37) (hro : F.round = none) (l c1 c2 N : Nat) (J Jx : List It → World → Prop) (hJ : ∀ s W o, J s W → J s (W.alloc o))
    (hY : ∀ m pre x W, J pre W → pre.length < N → YieldAt F m Try.prog l (itv x) W fun e W' =>
      (e = .returned (.bool true) ∧ J (pre ++ [x]) W' ∧ PassX c1 c2 W W') ∨ (e = .returned (.bool false) ∧ Jx (pre ++ [x]) W')) :
    ∀ (K : Nat) (t : Lt), t.sz < K → ∀ (m d B : Nat) (pre : List It) (W : World), TrAt W B t → B ≤ c1 → B ≤ c2 → c1 < W.heap.size → c2 < W.heap.size → J pre W → pre.length + t.t.count ≤ N → d + t.t.count ≤ 4000000 →
      CallsIn F m Try.prog 37 #[t.val, .int .i64 (d : Int), .func (.yield l) #[] #[]] W fun e W' =>
        (e = .returned (.bool true) ∧ ∃ ys : List It, ys.map (·.1) = t.items d ∧ J (pre ++ ys) W' ∧ PassX c1 c2 W W') ∨ (e = .returned (.bool false) ∧ ∃ ys : List It, ys.map (·.1) <+: t.items d ∧ Jx (pre ++ ys) W') := by
  intro K
  induction K with
  | zero => intro t h; omega
  | succ K ih =>
    intro t hK m d B pre W hr hB1 hB2 hc1 hc2 hj hN hdc
    obtain ⟨tag, ba, bc, body, ka, kc, kids⟩ := t
    have hr0 := hr
    rw [trAt_mk] at hr
    obtain ⟨htag, hbody, _, hrow, hkids⟩ := hr
    rw [Lt.t_mk, Tr.count] at hN hdc
    rw [Lt.items]
    have hdd : ∀ k : Nat, (F.depth.isSome = true → 1 ≤ k) := fun k h => by rw [hd] at h; cases h
    obtain ⟨n, hn⟩ : ∃ n, kids.length = n := ⟨_, rfl⟩
    obtain ⟨bl, hbl⟩ : ∃ n, body.length = n := ⟨_, rfl⟩
    have hlc : n ≤ kc := by have := hrow.1; omega
    have hc63 := hrow.2.1
    have hval : (Lt.mk tag ba bc body ka kc kids).val = .agg #[.int .u8 (tag : Int), .slice ba bl bc, .slice ka n kc] := by rw [← hn, ← hbl]; rfl
    -- the box
    have hb0 : Holds (W.alloc (.cells #[.int .u8 (tag : Int), .slice ba bl bc, .slice ka n kc] 25)) W.heap.size 25 #[.int .u8 (tag : Int), .slice ba bl bc, .slice ka n kc] := Holds.fresh _ _ _
    have hp0 : PassX c1 c2 W (W.alloc (.cells #[.int .u8 (tag : Int), .slice ba bl bc, .slice ka n kc] 25)) := PassX.alloc _ _ _ _
    have hj0 := hJ _ _ (.cells #[.int .u8 (tag : Int), .slice ba bl bc, .slice ka n kc] 25) hj
    have z0 : (W.alloc (.cells #[.int .u8 (tag : Int), .slice ba bl bc, .slice ka n kc] 25)).cell? ⟨W.heap.size, 0, none⟩ = some (.int .u8 (tag : Int)) := hb0.cell 0
    have z1 : (W.alloc (.cells #[.int .u8 (tag : Int), .slice ba bl bc, .slice ka n kc] 25)).cell? ⟨W.heap.size, 1, none⟩ = some (.slice ba bl bc) := hb0.cell 1
    have z2 : (W.alloc (.cells #[.int .u8 (tag : Int), .slice ba bl bc, .slice ka n kc] 25)).cell? ⟨W.heap.size, 2, none⟩ = some (.slice ka n kc) := hb0.cell 2
    have HIH : Hid (∀ k, k < n → ∀ (W' : World) (ys : List It), PassX c1 c2 W W' → J (pre ++ ys) W' → ys.length = 1 + Tr.counts ((kids.map Lt.t).take k) → CallsIn F (m - 1) Try.prog 37 #[(kids.getD k default).val, .int .i64 ((d + 1 : Nat) : Int), .func (.yield l) #[] #[]] W' fun e W'' =>
        (e = .returned (.bool true) ∧ ∃ zs : List It, zs.map (·.1) = (kids.getD k default).items (d + 1) ∧ J (pre ++ ys ++ zs) W'' ∧ PassX c1 c2 W' W'') ∨ (e = .returned (.bool false) ∧ ∃ zs : List It, zs.map (·.1) <+: (kids.getD k default).items (d + 1) ∧ Jx (pre ++ ys ++ zs) W'')) := Lib.hid fun k hk W' ys hp hjy hyl => by
      have h1 := Tr.counts_more (l := kids.map Lt.t) (k := k) (by rw [List.length_map]; omega)
      have h2 := Tr.counts_le (kids.map Lt.t) (k + 1)
      rw [Lt.ts_at (by omega)] at h1
      have hkz := lt_kid (tag := tag) (ba := ba) (bc := bc) (body := body) (ka := ka) (kc := kc) (kids := kids) (j := k) (by omega)
      refine ih _ (by omega) (m - 1) (d + 1) B (pre ++ ys) W' ((hkids k (by omega)).passX hp hB1 hB2) hB1 hB2 (by have := hp.1; omega) (by have := hp.1; omega) hjy ?_ (by omega)
      rw [List.length_append, hyl]
      omega
    have HROW : Hid (∀ W', PassX c1 c2 W W' → RowT W' B ka kc kids) := Lib.hid fun W' hp => by
      have h := hr0.passX hp hB1 hB2
      rw [trAt_mk] at h
      exact h.2.2.2.1
    have hdle : d ≤ 4000000 := by omega
    have hy := hY (m - 1) pre ⟨(d, .mk tag ba bc body ka kc kids), htag⟩ (W.alloc (.cells #[.int .u8 (tag : Int), .slice ba bl bc, .slice ka n kc] 25)) hj0 (by omega)
    rw [show itv ⟨(d, .mk tag ba bc body ka kc kids), htag⟩ = #[.int .i64 (d : Int), .agg #[.int .u8 (tag : Int), .slice ba bl bc, .slice ka n kc]] by unfold itv; rw [hval]] at hy
    have HN2 := Lib.hid hn
    rw [hval]
    obtain ⟨x0, hx0⟩ : ∃ x0 : It, x0.1 = (d, Lt.mk tag ba bc body ka kc kids) ∧ (⟨(d, .mk tag ba bc body ka kc kids), htag⟩ : It) = x0 := ⟨⟨(d, .mk tag ba bc body ka kc kids), htag⟩, rfl, rfl⟩
    rw [hx0.2] at hy
    have HX0 := Lib.hid hx0.1
    have hwd : IntKind.i64.wrap ((d : Int) + 1) = (d : Int) + 1 := IntWalk.i64_in _ (by omega)
    have HBOX : Hid (∀ W', PassX c1 c2 (W.alloc (.cells #[.int .u8 (tag : Int), .slice ba bl bc, .slice ka n kc] 25)) W' → W'.cell? ⟨W.heap.size, 2, none⟩ = some (.slice ka n kc)) := Lib.hid fun W' hp => hp.2 _ _ _ (by omega) (by omega) z2
    have hy2 := YieldAt.mono (R' := fun e W' => (e = .returned (.bool true) ∧ J (pre ++ [x0]) W' ∧ PassX c1 c2 W W' ∧ W'.cell? ⟨W.heap.size, 2, none⟩ = some (.slice ka n kc)) ∨ (e = .returned (.bool false) ∧ Jx (pre ++ [x0]) W')) hy (fun e W' h => h.elim (fun ⟨a1, a2, a3⟩ => .inl ⟨a1, a2, hp0.trans a3, HBOX.out _ a3⟩) .inr)
    obtain ⟨fn, tmps, assign, bdy, hyr, hR⟩ := hy2
    have HIT : Hid (∀ k, k < n → Lt.itemss (kids.take (k + 1)) (d + 1) = Lt.itemss (kids.take k) (d + 1) ++ (kids.getD k default).items (d + 1)) := Lib.hid fun k hk => Lt.itemss_more (by omega) _
    have HIP : Hid (∀ k, k < n → Lt.itemss (kids.take k) (d + 1) ++ (kids.getD k default).items (d + 1) <+: Lt.itemss kids (d + 1)) := Lib.hid fun k hk => by rw [← HIT.out k hk]; exact Lt.itemss_take kids (k + 1) (d + 1)
    have HLEN : Hid (∀ k (ys : List It), k ≤ n → ys.map (·.1) = (d, Lt.mk tag ba bc body ka kc kids) :: Lt.itemss (kids.take k) (d + 1) → ys.length = 1 + Tr.counts ((kids.map Lt.t).take k)) := Lib.hid fun k ys hk e => by
      have h := congrArg List.length e
      rw [List.length_map, List.length_cons, Lt.itemss_len, List.map_take] at h
      omega
    clear hx0 hval hrow hkids hr0 hb0 hn hbl hbody ih hK hY hN hdc
    refine callsIn_of_wp Try.func37 rfl h37 ?_ hro
    simp only [Try.ntmps37, List.size_toArray, List.length_cons, List.length_nil, Nat.reduceAdd, Nat.reduceSub, Array.replicate_succ, Array.replicate_zero, List.push_toArray, List.append_toArray, List.nil_append, List.cons_append]
    gi_wp2_with ((try refine ⟨hdd _, ?_⟩); refine hR.mono ?_; clear hR; rintro e W2 (⟨rfl, hJ2, hp2, z3⟩ | ⟨rfl, hx2⟩))
    · have HP2 := Lib.hid hp2
      clear hp2 z0 z1 z2 hyr hy hj0 hp0
      gi_loopw [17] (fun i wr => RelW l c1 c2 n J pre d (d, Lt.mk tag ba bc body ka kc kids) kids W i wr) (fun i _ => n - (intOf i).toNat)
      case atStart => exact ⟨0, [x0], Nat.zero_le _, rfl, Lib.hid (by simp [Lt.itemss, HX0.out]), hJ2, HP2⟩
      case round =>
        clear hJ2 HP2 z3
        obtain ⟨k, ys, hk, rfl, HYS, hJk, HPK⟩ := hrel
        obtain ⟨V, hV⟩ : ∃ V, V = wr := ⟨_, rfl⟩
        subst hV
        by_cases hkn : k < n
        case pos =>
          have hkI : (k : Int) < (n : Int) := by omega
          have hk0 : (0 : Int) ≤ (k : Int) := by omega
          obtain ⟨b, off, rfl, hb, hcs⟩ := (HROW.out V HPK.out).2.2 (by have := HN2.out; omega)
          obtain ⟨q0, q1, q2⟩ := hcs k (by have := HN2.out; omega)
          have hjA := hJ _ _ (.cells #[.int .u8 ((kids.getD k default).tag : Int), .slice (kids.getD k default).ba (kids.getD k default).body.length (kids.getD k default).bc, .slice (kids.getD k default).ka (kids.getD k default).kids.length (kids.getD k default).kc] 25) hJk
          have HC0 := HIH.out k hkn (V.alloc (.cells #[.int .u8 ((kids.getD k default).tag : Int), .slice (kids.getD k default).ba (kids.getD k default).body.length (kids.getD k default).bc, .slice (kids.getD k default).ka (kids.getD k default).kids.length (kids.getD k default).kc] 25)) ys (HPK.out.trans (PassX.alloc _ _ _ _)) hjA (HLEN.out k ys hk HYS.out)
          have HPA : Hid (∀ W', PassX c1 c2 (V.alloc (.cells #[.int .u8 ((kids.getD k default).tag : Int), .slice (kids.getD k default).ba (kids.getD k default).body.length (kids.getD k default).bc, .slice (kids.getD k default).ka (kids.getD k default).kids.length (kids.getD k default).kc] 25)) W' → PassX c1 c2 W W') := Lib.hid fun W' hp => (HPK.out.trans (PassX.alloc _ _ _ _)).trans hp
          have HC : Hid (CallsIn F (m - 1) Try.prog 37 #[.agg #[.int .u8 ((kids.getD k default).tag : Int), .slice (kids.getD k default).ba (kids.getD k default).body.length (kids.getD k default).bc, .slice (kids.getD k default).ka (kids.getD k default).kids.length (kids.getD k default).kc], .int .i64 ((d : Int) + 1), .func (.yield l) #[] #[]] (V.alloc (.cells #[.int .u8 ((kids.getD k default).tag : Int), .slice (kids.getD k default).ba (kids.getD k default).body.length (kids.getD k default).bc, .slice (kids.getD k default).ka (kids.getD k default).kids.length (kids.getD k default).kc] 25)) fun e W'' =>
            (e = .returned (.bool true) ∧ ∃ ys' : List It, ys'.map (·.1) = (d, Lt.mk tag ba bc body (some ⟨b, off, none⟩) kc kids) :: Lt.itemss (kids.take (k + 1)) (d + 1) ∧ J (pre ++ ys') W'' ∧ PassX c1 c2 W W'') ∨ (e = .returned (.bool false) ∧ ∃ ys' : List It, ys'.map (·.1) <+: (d, Lt.mk tag ba bc body (some ⟨b, off, none⟩) kc kids) :: Lt.itemss kids (d + 1) ∧ Jx (pre ++ ys') W'')) := Lib.hid (CallsIn.mono HC0 fun e W'' h => by
              rcases h with ⟨h1, zs, h2, h3, h4⟩ | ⟨h1, zs, h2, h3⟩
              · exact .inl ⟨h1, ys ++ zs, by rw [List.map_append, HYS.out, h2, HIT.out k hkn]; rfl, by rw [← List.append_assoc]; exact h3, HPA.out _ h4⟩
              · refine .inr ⟨h1, ys ++ zs, ?_, by rw [← List.append_assoc]; exact h3⟩
                rw [List.map_append, HYS.out, List.cons_append]
                exact (List.cons_prefix_cons.2 ⟨rfl, ((List.prefix_append_right_inj _).2 h2).trans (HIP.out k hkn)⟩))
          clear hcs HC0 hjA HPA HIH HIT HIP HLEN HYS
          generalize (kids.getD k default).tag = dt at *
          generalize (kids.getD k default).ba = dba at *
          generalize (kids.getD k default).bc = dbc at *
          generalize (kids.getD k default).body.length = dbl at *
          generalize (kids.getD k default).ka = dka at *
          generalize (kids.getD k default).kids.length = dkl at *
          generalize (kids.getD k default).kc = dkc at *
          have hb9 : Holds (V.alloc (.cells #[.int .u8 (dt : Int), .slice dba dbl dbc, .slice dka dkl dkc] 25)) V.heap.size 25 #[.int .u8 (dt : Int), .slice dba dbl dbc, .slice dka dkl dkc] := Holds.fresh _ _ _
          have y0 : (V.alloc (.cells #[.int .u8 (dt : Int), .slice dba dbl dbc, .slice dka dkl dkc] 25)).cell? ⟨V.heap.size, 0, none⟩ = some (.int .u8 (dt : Int)) := hb9.cell 0
          have y1 : (V.alloc (.cells #[.int .u8 (dt : Int), .slice dba dbl dbc, .slice dka dkl dkc] 25)).cell? ⟨V.heap.size, 1, none⟩ = some (.slice dba dbl dbc) := hb9.cell 1
          have y2 : (V.alloc (.cells #[.int .u8 (dt : Int), .slice dba dbl dbc, .slice dka dkl dkc] 25)).cell? ⟨V.heap.size, 2, none⟩ = some (.slice dka dkl dkc) := hb9.cell 2
          clear hb9
          gi_wp2_with ((try refine ⟨hdd _, ?_⟩); gi_at_call 37; refine HC.out.mono ?_; clear HC; rintro e W3 (⟨rfl, ys', hys', hJ3, hp3⟩ | ⟨rfl, ys', hys', hx3⟩))
          · go_roundw
            case rel => exact ⟨k + 1, ys', by omega, by go_num, Lib.hid hys', hJ3, Lib.hid hp3⟩
            case measure => simp [intOf]; omega
          · go_ret
            exact .inr ⟨rfl, ys', hys', hx3⟩
        case neg =>
          obtain rfl : k = n := by omega
          have hkI : ¬ ((k : Int) < (k : Int)) := by omega
          have HYE : Hid (ys.map (·.1) = (d, Lt.mk tag ba bc body ka kc kids) :: Lt.itemss kids (d + 1)) := Lib.hid (by
            have h := HYS.out
            rw [List.take_of_length_le (by have := HN2.out; omega)] at h
            exact h)
          gi_wp2
          go_ret
          exact .inl ⟨rfl, ys, HYE.out, hJk, HPK.out⟩
    · go_ret
      exact .inr ⟨rfl, [x0], by rw [List.map_cons, HX0.out]; exact List.cons_prefix_cons.2 ⟨rfl, List.nil_prefix⟩, hx2⟩
end Go.Proofs.Ytlggbkacaemdjaa
