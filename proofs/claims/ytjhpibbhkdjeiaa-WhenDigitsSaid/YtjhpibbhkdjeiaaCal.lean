namespace Go.Proofs.Ytjhpibbhkdjeiaa
theorem civ_y (q a b c : Nat) (ha : a ≤ 3) (hb : b ≤ 24) (hc : c ≤ 3) (hq : q ≤ 365) (hl : q = 365 → c = 3 ∧ (b = 24 → a = 3)) (o : Nat) (ho : o = 36524*a + 1461*b + 365*c + q) :
   (o - o/1460 + o/36524 - o/146096)/365 = 100*a+4*b+c := by
  have h1 : o/1460 = 25*a+b + (24*a+b+365*c+q)/1460 := by omega
  have h2 : o/36524 = a + (1461*b + 365*c + q)/36524 := by omega
  have h3 : o < 146096 ∨ (o = 146096 ∧ a = 3 ∧ b = 24 ∧ c = 3 ∧ q = 365) := by omega
  rcases h3 with h3 | ⟨h3, rfl, rfl, rfl, rfl⟩
  · have h4 : o/146096 = 0 := by omega
    have h5 : 1461*b + 365*c + q < 36524 := by
      by_cases hb' : b = 24
      · by_cases hq' : q = 365 <;> omega
      · omega
    have h6 : (1461*b + 365*c + q)/36524 = 0 := by omega
    rw [h1, h2, h4, h6]
    by_cases h7 : 24*a+b+365*c+q < 1460
    · have h8 : (24*a+b+365*c+q)/1460 = 0 := by omega
      rw [h8]
      have : q < 365 := by omega
      have : o - (25*a+b+0) + (a + 0) - 0 = 365*(100*a+4*b+c) + q := by omega
      rw [this]; omega
    · have h8 : (24*a+b+365*c+q)/1460 = 1 := by omega
      rw [h8]
      have : o - (25*a+b+1) + (a + 0) - 0 = 365*(100*a+4*b+c) + (q-1) := by omega
      rw [this]; omega
  · subst h3; rfl
theorem civ_m (q m d : Nat) (hm : m ≤ 11) (hd : 1 ≤ d) (hq : q + 1 = (153*m+2)/5 + d) (h31 : d ≤ 31) (h30 : m = 1 ∨ m = 3 ∨ m = 6 ∨ m = 8 → d ≤ 30) (h29 : m = 11 → d ≤ 29) : (5*q+2)/153 = m := by
  have h : m = 0 ∨ m = 1 ∨ m = 2 ∨ m = 3 ∨ m = 4 ∨ m = 5 ∨ m = 6 ∨ m = 7 ∨ m = 8 ∨ m = 9 ∨ m = 10 ∨ m = 11 := by omega
  rcases h with rfl | rfl | rfl | rfl | rfl | rfl | rfl | rfl | rfl | rfl | rfl | rfl <;> omega

/-- Has a year 366 days? -/
def leap (y : Nat) : Bool := (y % 4 == 0 && y % 100 != 0) || y % 400 == 0
theorem leap_iff (y : Nat) : leap y = true ↔ (y % 4 = 0 ∧ y % 100 ≠ 0) ∨ y % 400 = 0 := by simp [leap]
/-- How many days a month has. -/
def dim (y m : Nat) : Nat := if m = 2 then (if leap y then 29 else 28) else if m = 4 ∨ m = 6 ∨ m = 9 ∨ m = 11 then 30 else 31
/-- Days from the 1st of March of the year 0 to a date. -/
def num (y m d : Nat) : Nat :=
  let Y := if m < 3 then y - 1 else y
  let M := if m < 3 then m + 9 else m - 3
  365*Y + Y/4 - Y/100 + Y/400 + (153*M+2)/5 + d - 1
structure Valid (y m d : Nat) : Prop where
  y1 : 1 ≤ y
  m1 : 1 ≤ m
  m12 : m ≤ 12
  d1 : 1 ≤ d
  dd : d ≤ dim y m
theorem Valid.d31 {y m d : Nat} (h : Valid y m d) : d ≤ 31 := by
  have := h.dd; unfold dim at this; split at this <;> (try split at this) <;> omega
/-- The date of a day, as the program reckons it. -/
def civ (n : Nat) : Nat × Nat × Nat :=
  let era := n / 146097
  let o := n % 146097
  let y := (o - o/1460 + o/36524 - o/146096)/365
  let q := o - (365*y + y/4 - y/100)
  let m := (5*q+2)/153
  let d := q - (153*m+2)/5 + 1
  if m < 10 then (400*era+y, m+3, d) else (400*era+y+1, m-9, d)

theorem split_y (Y : Nat) : ∃ e a b c, a ≤ 3 ∧ b ≤ 24 ∧ c ≤ 3 ∧ Y = 400*e + 100*a + 4*b + c := by
  refine ⟨Y/400, Y%400/100, Y%100/4, Y%4, by omega, by omega, by omega, by omega⟩
theorem tot_y {Y e a b c : Nat} (ha : a ≤ 3) (hb : b ≤ 24) (hc : c ≤ 3) (hY : Y = 400*e + 100*a + 4*b + c) : 365*Y + Y/4 - Y/100 + Y/400 = 146097*e + (36524*a + 1461*b + 365*c) ∧ Y/100 ≤ 365*Y := by
  have h1 : Y/4 = 100*e + 25*a + b := by omega
  have h2 : Y/100 = 4*e + a := by omega
  have h3 : Y/400 = e := by omega
  rw [h1, h2, h3]
  omega
theorem civ_key (Y M q d : Nat) (hd1 : 1 ≤ d) (hM : M ≤ 11) (hq : q + 1 = (153*M+2)/5 + d) (h31 : d ≤ 31) (h30 : M = 1 ∨ M = 3 ∨ M = 6 ∨ M = 8 → d ≤ 30) (h29 : M = 11 → d ≤ 29) (hleap : M = 11 → d = 29 → leap (Y+1) = true) :
      civ (365*Y + Y/4 - Y/100 + Y/400 + (153*M+2)/5 + d - 1) = if M < 10 then (Y, M+3, d) else (Y+1, M-9, d) := by
  have hq365 : q ≤ 365 ∧ (q = 365 → M = 11 ∧ d = 29) := by
    have h : M = 0 ∨ M = 1 ∨ M = 2 ∨ M = 3 ∨ M = 4 ∨ M = 5 ∨ M = 6 ∨ M = 7 ∨ M = 8 ∨ M = 9 ∨ M = 10 ∨ M = 11 := by omega
    clear hleap
    rcases h with rfl | rfl | rfl | rfl | rfl | rfl | rfl | rfl | rfl | rfl | rfl | rfl <;> omega
  obtain ⟨hq365, hqM⟩ := hq365
  have hcm := civ_m q M d hM hd1 hq h31 h30 h29
  obtain ⟨e, a, b, c, ha, hb, hc, hY⟩ := split_y Y
  have hT := (tot_y ha hb hc hY).1
  have hl : q = 365 → c = 3 ∧ (b = 24 → a = 3) := by
    intro e'
    have := (leap_iff _).1 (hleap (hqM e').1 (hqM e').2)
    clear hleap hqM hT hcm h30 h29 h31 hq
    rw [hY] at this
    constructor
    · omega
    · intro hb'; omega
  have htot : 365*Y + Y/4 - Y/100 + Y/400 + (153*M+2)/5 + d - 1 = 146097*e + (36524*a + 1461*b + 365*c + q) := by rw [hT]; omega
  clear hleap hqM h30 h29 h31 hT
  obtain ⟨o, ho⟩ : ∃ o, o = 36524*a + 1461*b + 365*c + q := ⟨_, rfl⟩
  have ho' : o < 146097 := by
    by_cases h : q = 365
    · have := hl h; omega
    · omega
  have hcy := civ_y q a b c ha hb hc hq365 hl o ho
  rw [htot, ← ho]
  unfold civ
  have e1 : (146097*e + o) / 146097 = e := by omega
  have e2 : (146097*e + o) % 146097 = o := by omega
  simp only [e1, e2, hcy]
  have e3 : o - (365 * (100 * a + 4 * b + c) + (100 * a + 4 * b + c) / 4 - (100 * a + 4 * b + c) / 100) = q := by
    have h1 : (100 * a + 4 * b + c) / 4 = 25*a+b := by omega
    have h2 : (100 * a + 4 * b + c) / 100 = a := by omega
    rw [h1, h2, ho]; omega
  rw [e3, hcm]
  have e4 : q - (153*M+2)/5 + 1 = d := by omega
  have e5 : 400*e + (100*a+4*b+c) = Y := by omega
  rw [e4, e5]
theorem civ_num {y m d : Nat} (h : Valid y m d) : civ (num y m d) = (y, m, d) := by
  have hd31 := h.d31
  obtain ⟨hy1, hm1, hm12, hd1, hdd⟩ := h
  unfold dim at hdd
  unfold num
  by_cases hm : m < 3
  · simp only [hm, if_true]
    have h29 : m + 9 = 11 → d ≤ 29 := by
      intro h
      rw [if_pos (by omega)] at hdd
      split at hdd <;> omega
    have hlp : m + 9 = 11 → d = 29 → leap (y - 1 + 1) = true := by
      intro h h'
      rw [if_pos (by omega)] at hdd
      rw [Nat.sub_add_cancel hy1]
      by_cases hh : leap y = true
      · exact hh
      · rw [if_neg hh] at hdd; omega
    rw [civ_key (y-1) (m+9) ((153*(m+9)+2)/5 + d - 1) d hd1 (by omega) (by omega) hd31 (by omega) h29 hlp]
    rw [if_neg (by omega), Nat.sub_add_cancel hy1, Nat.add_sub_cancel]
  · simp only [hm, if_false]
    have h30 : m - 3 = 1 ∨ m - 3 = 3 ∨ m - 3 = 6 ∨ m - 3 = 8 → d ≤ 30 := by
      intro h
      rw [if_neg (by omega), if_pos (by omega)] at hdd; exact hdd
    rw [civ_key y (m-3) ((153*(m-3)+2)/5 + d - 1) d hd1 (by omega) (by omega) hd31 h30 (by omega) (by omega)]
    rw [if_pos (by omega), Nat.sub_add_cancel (by omega)]
/-- Days of whole years, those that begin in March. -/
def tot (Y : Nat) : Nat := 365*Y + Y/4 - Y/100 + Y/400
theorem tot_next (y : Nat) (hy : 1 ≤ y) : tot y = tot (y-1) + if leap y then 366 else 365 := by
  have h4 : y/4 = (y-1)/4 + if y % 4 = 0 then 1 else 0 := by split <;> omega
  have h100 : y/100 = (y-1)/100 + if y % 100 = 0 then 1 else 0 := by split <;> omega
  have h400 : y/400 = (y-1)/400 + if y % 400 = 0 then 1 else 0 := by split <;> omega
  have hle : (y-1)/100 ≤ (y-1)/4 := by omega
  have hl := leap_iff y
  have hm : (y % 400 = 0 → y % 100 = 0) ∧ (y % 100 = 0 → y % 4 = 0) := ⟨by omega, by omega⟩
  unfold tot
  generalize (y-1)/4 = p at *
  generalize (y-1)/100 = q at *
  generalize (y-1)/400 = r at *
  rw [h4, h100, h400]
  clear h4 h100 h400
  by_cases hh : leap y = true
  · have := hl.1 hh
    rw [if_pos hh]
    clear hl hh
    by_cases a1 : y % 4 = 0 <;> by_cases a2 : y % 100 = 0 <;> by_cases a3 : y % 400 = 0 <;> simp only [a1, a2, a3, if_true, if_false] <;> omega
  · rw [if_neg hh]
    have : ¬ ((y % 4 = 0 ∧ y % 100 ≠ 0) ∨ y % 400 = 0) := fun x => hh (hl.2 x)
    clear hl hh
    by_cases a1 : y % 4 = 0 <;> by_cases a2 : y % 100 = 0 <;> by_cases a3 : y % 400 = 0 <;> simp only [a1, a2, a3, if_true, if_false] <;> omega
theorem num_eq (y m d : Nat) : num y m d = tot (if m < 3 then y - 1 else y) + (153*(if m < 3 then m + 9 else m - 3)+2)/5 + d - 1 := rfl
/-- The first day of a month, and the next one's. -/
theorem num_next (y m : Nat) (hy : 1 ≤ y) (hm : 1 ≤ m) (h12 : m ≤ 11) : num y (m+1) 1 = num y m 1 + dim y m := by
  have h : m = 1 ∨ m = 2 ∨ m = 3 ∨ m = 4 ∨ m = 5 ∨ m = 6 ∨ m = 7 ∨ m = 8 ∨ m = 9 ∨ m = 10 ∨ m = 11 := by omega
  rw [num_eq, num_eq]
  rcases h with rfl | rfl | rfl | rfl | rfl | rfl | rfl | rfl | rfl | rfl | rfl
  case inr.inl =>
    have := tot_next y hy
    simp [dim]
    split at this <;> simp_all <;> omega
  all_goals simp [dim]
/-- The first day of a year, and the next one's. -/
theorem num_year (y : Nat) (hy : 1 ≤ y) : num (y+1) 1 1 = num y 1 1 + if leap y then 366 else 365 := by
  have := tot_next y hy
  rw [num_eq, num_eq]
  simp
  split at this <;> simp_all <;> omega
theorem num_dec (y : Nat) (_ : 1 ≤ y) : num (y+1) 1 1 = num y 12 1 + 31 := by
  rw [num_eq, num_eq]
  simp
theorem num_day (y m d : Nat) (hd : 1 ≤ d) : num y m d = num y m 1 + (d - 1) := by
  rw [num_eq, num_eq]; omega
theorem num_in {y m d : Nat} (h : Valid y m d) : num y 1 1 ≤ num y m d ∧ num y m d < num (y+1) 1 1 := by
  obtain ⟨hy1, hm1, hm12, hd1, hdd⟩ := h
  have dp : ∀ k, 28 ≤ dim y k := fun k => by unfold dim; split <;> (try split) <;> omega
  rw [num_day y m d hd1]
  have up : ∀ k, 1 ≤ k → k ≤ 12 → num y 1 1 ≤ num y k 1 := by
    intro k
    induction k with
    | zero => omega
    | succ k ih =>
      intro h1 h2
      by_cases hk : k = 0
      · subst hk; exact Nat.le_refl _
      · have := ih (by omega) (by omega)
        have := num_next y k hy1 (by omega) (by omega)
        omega
  have down : ∀ j k, k + j = 12 → 1 ≤ k → num y k 1 + dim y k ≤ num (y+1) 1 1 := by
    intro j
    induction j with
    | zero =>
      intro k hk _
      obtain rfl : k = 12 := by omega
      have := num_dec y hy1
      have : dim y 12 = 31 := rfl
      omega
    | succ j ih =>
      intro k hk h1
      have := ih (k+1) (by omega) (by omega)
      have := num_next y k hy1 h1 (by omega)
      have := dp (k+1)
      omega
  have := up m hm1 hm12
  have := down (12 - m) m (by omega) hm1
  omega
theorem num_mono_year {y y' : Nat} (hy : 1 ≤ y) (h : y ≤ y') : num y 1 1 ≤ num y' 1 1 := by
  induction y' with
  | zero => omega
  | succ k ih =>
    by_cases hk : y = k + 1
    · subst hk; exact Nat.le_refl _
    · have := ih (by omega)
      have := num_year k (by omega)
      split at this <;> omega
theorem num_mono_month {y m m' : Nat} (hy : 1 ≤ y) (hm : 1 ≤ m) (h : m < m') (h12 : m' ≤ 12) : num y m 1 + dim y m ≤ num y m' 1 := by
  induction m' with
  | zero => omega
  | succ k ih =>
    by_cases hk : m = k
    · subst hk; rw [num_next y m hy hm (by omega)]; exact Nat.le_refl _
    · have := ih (by omega) (by omega)
      have := num_next y k hy (by omega) (by omega)
      omega
/-- A later day is a later date. -/
theorem later {y m d y' m' d' : Nat} (h : Valid y m d) (h' : Valid y' m' d') (hn : num y m d ≤ num y' m' d') : y ≤ y' ∧ (y = y' → m ≤ m' ∧ (m = m' → d ≤ d')) := by
  have a := num_in h
  have b := num_in h'
  refine ⟨?_, ?_⟩
  · rcases Nat.lt_or_ge y' y with hlt | hge
    · have := num_mono_year (y := y'+1) (y' := y) (by omega) (by omega)
      omega
    · exact hge
  · rintro rfl
    rw [num_day y m d h.d1, num_day y m' d' h'.d1] at hn
    have h1 := h.d1
    have h2 := h'.d1
    have h3 := h'.dd
    refine ⟨?_, ?_⟩
    · rcases Nat.lt_or_ge m' m with hlt | hge
      · have := num_mono_month h.y1 h'.m1 hlt h.m12
        omega
      · exact hge
    · rintro rfl
      omega
end Go.Proofs.Ytjhpibbhkdjeiaa
