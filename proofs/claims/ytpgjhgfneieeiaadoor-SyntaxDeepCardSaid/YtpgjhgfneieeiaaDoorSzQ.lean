/-
  Plain mathematics for SyntaxDeep: what is read of so many nests.
-/
import Derived.Test.YtpgjhgfneieeiaaDoorSzP
import Derived.Test.YtpgjhgfneieeiaaDoorP23a
set_option linter.unusedVariables false
set_option linter.unusedSimpArgs false
namespace Go.Proofs.YtpgjhgfneieeiaaDoor
/-- a sign at a place -/
def Sx.isS (L : List Lx.Tok) (i : Nat) (c : UInt8) : Prop := ∃ p, L[i]? = .some ⟨4, p, 0, [c]⟩
def Sx.isN (L : List Lx.Tok) (i : Nat) (c : UInt8) : Prop := ∃ p, L[i]? = .some ⟨1, p, 0, [c]⟩
def Sx.isD (L : List Lx.Tok) (i : Nat) : Prop := ∃ p, L[i]? = .some ⟨2, p, 1, []⟩
section
variable {L : List Lx.Tok}
theorem Sx.tk_of {σ : Sx.R} {t : Lx.Tok} (h : L[σ.at']? = .some t) : Sx.tk L σ = t := by unfold Sx.tk; rw [List.getD_eq_getElem?_getD, h]; rfl
theorem Sx.isS.text {σ : Sx.R} {c : UInt8} (h : Sx.isS L σ.at' c) : Sx.text L σ = [c] := by
  obtain ⟨p, hp⟩ := h
  unfold Sx.text
  rw [Sx.tk_of hp, if_pos (Or.inr rfl)]
theorem Sx.isS.sees {σ : Sx.R} {c : UInt8} (h : Sx.isS L σ.at' c) (he : σ.err = 0) (s : List UInt8) : Sx.sees L s σ = decide ([c] = s) := by
  unfold Sx.sees
  rw [h.text, decide_eq_true he, Bool.true_and]
theorem Sx.isS.lt {i : Nat} {c : UInt8} (h : Sx.isS L i c) : i < L.length := by obtain ⟨p, hp⟩ := h; exact (List.getElem?_eq_some_iff.1 hp).1
theorem Sx.isS.eat {σ : Sx.R} {c : UInt8} (h : Sx.isS L σ.at' c) (he : σ.err = 0) : Sx.eat L [c] σ = { σ with at' := σ.at' + 1 } := by
  unfold Sx.eat
  rw [if_neg (by simpa using he), if_neg (by rw [h.text]; simp)]
theorem Sx.isS.nest {σ : Sx.R} {c : UInt8} (h : Sx.isS L σ.at' c) (he : σ.err = 0) (ho : σ.opn < 64) : Sx.nest L [c] σ = { σ with at' := σ.at' + 1, opn := σ.opn + 1 } := by
  unfold Sx.nest
  rw [h.sees he, decide_eq_true rfl, Bool.true_and, decide_eq_false (by omega), if_neg (by decide)]
  simp only []
  rw [h.eat he]
/-- a nest too deep -/
theorem Sx.isS.deep {σ : Sx.R} {c : UInt8} (h : Sx.isS L σ.at' c) (he : σ.err = 0) (ho : 64 ≤ σ.opn) : Sx.nest L [c] σ = { σ with err := 11, pos := (Sx.tk L σ).pos, opn := σ.opn + 1 } := by
  unfold Sx.nest
  rw [h.sees he, decide_eq_true rfl, Bool.true_and, decide_eq_true ho, if_pos rfl]
  have h1 : Sx.wrong L 11 σ = { σ with err := 11, pos := (Sx.tk L σ).pos } := by unfold Sx.wrong; rw [if_pos he]
  rw [h1]
  simp only []
  rw [Sx.eat_no (by show (11 : Int) ≠ 0; decide)]
theorem Sx.isS.unnest {σ : Sx.R} {c : UInt8} (h : Sx.isS L σ.at' c) (he : σ.err = 0) : Sx.unnest L [c] σ = { σ with at' := σ.at' + 1, opn := σ.opn - 1 } := by
  unfold Sx.unnest
  simp only []
  rw [h.eat he]
theorem Sx.unnest_no {σ : Sx.R} {s : List UInt8} (he : σ.err ≠ 0) : Sx.unnest L s σ = { σ with opn := σ.opn - 1 } := by
  unfold Sx.unnest
  simp only []
  rw [Sx.eat_no he]
/-- a sign that binds nothing -/
def Sx.off (L : List Lx.Tok) (i : Nat) : Prop := ∃ c : UInt8, Sx.isS L i c ∧ (c = 41 ∨ c = 93 ∨ c = 59)
theorem Sx.off.tight {σ : Sx.R} (h : Sx.off L σ.at') : (Sx.tight (Sx.text L σ)).1 = 0 := by
  obtain ⟨c, h1, h2⟩ := h
  rw [h1.text]
  rcases h2 with rfl | rfl | rfl <;> decide
variable (hL : Sx.Ends L)
include hL
theorem Sx.X_off {σ : Sx.R} (hi : σ.at' < L.length) (h : (Sx.U L σ).2.err ≠ 0 ∨ Sx.off L (Sx.U L σ).2.at') : Sx.X L 0 σ = Sx.U L σ := by
  rw [Sx.X_eq hL 0 hi]
  have hi2 := Sx.U_in hL hi
  rcases h with h | h
  · exact Sx.Sg_err hL _ _ _ _ hi2 h
  · exact Sx.Sg_stop hL _ hi2 (Or.inl (by rw [h.tight]; exact Nat.le_refl _))
/-- a number, as what no sign stands ahead of -/
theorem Sx.U_one {σ : Sx.R} (he : σ.err = 0) (h : Sx.isD L σ.at') : (Sx.U L σ).2 = { σ with at' := σ.at' + 1 } := by
  obtain ⟨p, hp⟩ := h
  have hi := (List.getElem?_eq_some_iff.1 hp).1
  have hk : (Sx.tk L σ).kind = 2 := by rw [Sx.tk_of hp]
  have htx : Sx.text L σ = [] := by unfold Sx.text; rw [hk, if_neg (by decide)]
  rw [Sx.U_word hL hi he (by rw [htx]; decide) (by rw [htx]; decide), Sx.W_num hL hi he (by rw [htx]; decide) hk]
/-! #### parentheses -/
theorem Sx.deep0 (m : Nat) : ∀ σ : Sx.R, σ.err = 0 → σ.opn + m ≤ 64 → (∀ j, j < m → Sx.isS L (σ.at' + j) 40) → Sx.isD L (σ.at' + m) → (∀ j, j < m → Sx.isS L (σ.at' + m + 1 + j) 41) → Sx.off L (σ.at' + 2 * m + 1) →
    (Sx.U L σ).2 = { σ with at' := σ.at' + 2 * m + 1 } := by
  induction m with
  | zero =>
    intro σ he _ _ hd _ _
    rw [Sx.U_one hL he hd]
  | succ m ih =>
    intro σ he ho h1 hd h2 hoff
    have hs := h1 0 (by omega)
    rw [Nat.add_zero] at hs
    have hi := hs.lt
    rw [Sx.U_par hL hi (by rw [hs.sees he]; rfl), hs.nest he (by omega)]
    simp only []
    have hih := ih { σ with at' := σ.at' + 1, opn := σ.opn + 1 } he (by show σ.opn + 1 + (m : Int) ≤ 64; omega)
      (fun j hj => by have := h1 (j + 1) (by omega); rwa [show σ.at' + (j + 1) = σ.at' + 1 + j by omega] at this)
      (by rwa [show σ.at' + (m + 1) = σ.at' + 1 + m by omega] at hd)
      (fun j hj => by have := h2 j (by omega); rwa [show σ.at' + (m + 1) + 1 + j = σ.at' + 1 + m + 1 + j by omega] at this)
      ⟨41, by have := h2 m (by omega); rwa [show σ.at' + (m + 1) + 1 + m = σ.at' + 1 + 2 * m + 1 by omega] at this, Or.inl rfl⟩
    have hc : Sx.isS L (σ.at' + 1 + 2 * m + 1) 41 := by have := h2 m (by omega); rwa [show σ.at' + (m + 1) + 1 + m = σ.at' + 1 + 2 * m + 1 by omega] at this
    have hi1 : σ.at' + 1 < L.length := by have := hc.lt; omega
    rw [Sx.X_off hL hi1 (Or.inr (by rw [hih]; exact ⟨41, hc, Or.inl rfl⟩)), hih]
    have hun := Sx.isS.unnest (σ := { σ with at' := σ.at' + 1 + 2 * m + 1, opn := σ.opn + 1 }) hc he
    refine hun.trans ?_
    simp only [Sx.R.mk.injEq, and_true]
    exact ⟨by omega, by omega⟩
/-- too deep: the nest that is told -/
theorem Sx.deep0_bad (m : Nat) : ∀ σ : Sx.R, σ.err = 0 → σ.opn + m = 64 → (∀ j, j ≤ m → Sx.isS L (σ.at' + j) 40) →
    (Sx.U L σ).2.err = 11 ∧ (Sx.U L σ).2.pos = (Sx.tk L { σ with at' := σ.at' + m }).pos := by
  induction m with
  | zero =>
    intro σ he ho h1
    have hs := h1 0 (Nat.le_refl _)
    rw [Nat.add_zero] at hs
    have hi := hs.lt
    rw [Sx.U_par hL hi (by rw [hs.sees he]; rfl), hs.deep he (by omega)]
    simp only []
    rw [Sx.X_err hL (σ := { σ with err := 11, pos := (Sx.tk L σ).pos, opn := σ.opn + 1 }) hi (by show (11 : Int) ≠ 0; decide), Sx.unnest_no (by show (11 : Int) ≠ 0; decide)]
    exact ⟨rfl, rfl⟩
  | succ m ih =>
    intro σ he ho h1
    have hs := h1 0 (by omega)
    rw [Nat.add_zero] at hs
    have hi := hs.lt
    rw [Sx.U_par hL hi (by rw [hs.sees he]; rfl), hs.nest he (by omega)]
    simp only []
    obtain ⟨h2, h3⟩ := ih { σ with at' := σ.at' + 1, opn := σ.opn + 1 } he (by show σ.opn + 1 + (m : Int) = 64; omega)
      (fun j hj => by have := h1 (j + 1) (by omega); rwa [show σ.at' + (j + 1) = σ.at' + 1 + j by omega] at this)
    have hi1 : σ.at' + 1 < L.length := (h1 1 (by omega)).lt
    have hne : (Sx.U L { σ with at' := σ.at' + 1, opn := σ.opn + 1 }).2.err ≠ 0 := by rw [h2]; decide
    rw [Sx.X_off hL hi1 (Or.inl hne), Sx.unnest_no hne]
    refine ⟨h2, h3.trans ?_⟩
    exact congrArg (fun t : Lx.Tok => (t.pos : Int)) (Sx.tk_at (by show σ.at' + 1 + m = σ.at' + (m + 1); omega))
/-! #### signs ahead -/
theorem Sx.deep1 (m : Nat) : ∀ σ : Sx.R, σ.err = 0 → σ.opn + m ≤ 64 → (∀ j, j < m → Sx.isS L (σ.at' + j) 45) → Sx.isD L (σ.at' + m) →
    (Sx.U L σ).2 = { σ with at' := σ.at' + m + 1 } := by
  induction m with
  | zero =>
    intro σ he _ _ hd
    rw [Sx.U_one hL he hd]
  | succ m ih =>
    intro σ he ho h1 hd
    have hs := h1 0 (by omega)
    rw [Nat.add_zero] at hs
    have hi := hs.lt
    have htx := hs.text
    rw [Sx.U_sign hL hi he (by rw [htx]; exact Or.inr (Or.inl rfl)), htx, hs.nest he (by omega)]
    simp only []
    rw [ih { σ with at' := σ.at' + 1, opn := σ.opn + 1 } he (by show σ.opn + 1 + (m : Int) ≤ 64; omega)
      (fun j hj => by have := h1 (j + 1) (by omega); rwa [show σ.at' + (j + 1) = σ.at' + 1 + j by omega] at this)
      (by rwa [show σ.at' + (m + 1) = σ.at' + 1 + m by omega] at hd)]
    simp only [Sx.R.mk.injEq, and_true]
    exact ⟨by omega, by omega⟩
theorem Sx.deep1_bad (m : Nat) : ∀ σ : Sx.R, σ.err = 0 → σ.opn + m = 64 → (∀ j, j ≤ m → Sx.isS L (σ.at' + j) 45) →
    (Sx.U L σ).2.err = 11 ∧ (Sx.U L σ).2.pos = (Sx.tk L { σ with at' := σ.at' + m }).pos := by
  induction m with
  | zero =>
    intro σ he ho h1
    have hs := h1 0 (Nat.le_refl _)
    rw [Nat.add_zero] at hs
    have hi := hs.lt
    have htx := hs.text
    rw [Sx.U_sign hL hi he (by rw [htx]; exact Or.inr (Or.inl rfl)), htx, hs.deep he (by omega)]
    simp only []
    rw [Sx.U_err hL (σ := { σ with err := 11, pos := (Sx.tk L σ).pos, opn := σ.opn + 1 }) hi (by show (11 : Int) ≠ 0; decide)]
    exact ⟨rfl, rfl⟩
  | succ m ih =>
    intro σ he ho h1
    have hs := h1 0 (by omega)
    rw [Nat.add_zero] at hs
    have hi := hs.lt
    have htx := hs.text
    rw [Sx.U_sign hL hi he (by rw [htx]; exact Or.inr (Or.inl rfl)), htx, hs.nest he (by omega)]
    simp only []
    obtain ⟨h2, h3⟩ := ih { σ with at' := σ.at' + 1, opn := σ.opn + 1 } he (by show σ.opn + 1 + (m : Int) = 64; omega)
      (fun j hj => by have := h1 (j + 1) (by omega); rwa [show σ.at' + (j + 1) = σ.at' + 1 + j by omega] at this)
    refine ⟨h2, h3.trans ?_⟩
    exact congrArg (fun t : Lx.Tok => (t.pos : Int)) (Sx.tk_at (by show σ.at' + 1 + m = σ.at' + (m + 1); omega))
/-! #### names with indexes, with what is handed over; signs and parentheses -/
theorem Sx.U_nm {σ : Sx.R} {c : UInt8} (he : σ.err = 0) (h : Sx.isN L σ.at' c) : Sx.U L σ = Sx.Bh L (Sx.tk L σ) { σ with at' := σ.at' + 1 } := by
  obtain ⟨p, hp⟩ := h
  have hi := (List.getElem?_eq_some_iff.1 hp).1
  have hk : (Sx.tk L σ).kind = 1 := by rw [Sx.tk_of hp]
  have htx : Sx.text L σ = [] := by unfold Sx.text; rw [hk, if_neg (by decide)]
  rw [Sx.U_word hL hi he (by rw [htx]; decide) (by rw [htx]; decide), Sx.W_name hL hi he (by rw [htx]; decide) (by rw [hk]; decide)]
  have hs : Sx.some L 1 σ = (Sx.tk L σ, { σ with at' := σ.at' + 1 }) := by
    unfold Sx.some
    rw [if_neg (by simpa using he), if_neg (by rw [hk]; decide)]
  rw [hs]
omit hL in
theorem Sx.isN.lt {i : Nat} {c : UInt8} (h : Sx.isN L i c) : i < L.length := by obtain ⟨p, hp⟩ := h; exact (List.getElem?_eq_some_iff.1 hp).1
omit hL in
theorem Sx.isD.lt {i : Nat} (h : Sx.isD L i) : i < L.length := by obtain ⟨p, hp⟩ := h; exact (List.getElem?_eq_some_iff.1 hp).1
omit hL in
theorem Sx.isN.sees {σ : Sx.R} {c : UInt8} (h : Sx.isN L σ.at' c) (s : List UInt8) (hs : s ≠ []) : Sx.sees L s σ = false := by
  obtain ⟨p, hp⟩ := h
  have hk : (Sx.tk L σ).kind = 1 := by rw [Sx.tk_of hp]
  have htx : Sx.text L σ = [] := by unfold Sx.text; rw [hk, if_neg (by decide)]
  unfold Sx.sees
  rw [htx, decide_eq_false (p := [] = s) (fun h => hs h.symm), Bool.and_false]
omit hL in
theorem Sx.isD.sees {σ : Sx.R} (h : Sx.isD L σ.at') (s : List UInt8) (hs : s ≠ []) : Sx.sees L s σ = false := by
  obtain ⟨p, hp⟩ := h
  have hk : (Sx.tk L σ).kind = 2 := by rw [Sx.tk_of hp]
  have htx : Sx.text L σ = [] := by unfold Sx.text; rw [hk, if_neg (by decide)]
  unfold Sx.sees
  rw [htx, decide_eq_false (p := [] = s) (fun h => hs h.symm), Bool.and_false]
theorem Sx.Ar_X {τ : Sx.R} (hi : τ.at' < L.length) (hs : Sx.sees L [41] τ = false) (h : (Sx.X L 0 τ).2.err ≠ 0 ∨ ((Sx.X L 0 τ).2.err = 0 ∧ Sx.isS L (Sx.X L 0 τ).2.at' 41)) : (Sx.Ar L 0 τ).2 = (Sx.X L 0 τ).2 := by
  unfold Sx.Ar
  rw [if_pos rfl, if_neg (by rw [hs]; decide)]
  simp only []
  rw [Sx.Cm_stop hL (Sx.X_in hL hi)]
  rcases h with h | ⟨h0, h⟩
  · exact Sx.sees_err h
  · rw [h.sees h0]; decide
theorem Sx.deep2 (m : Nat) : ∀ σ : Sx.R, σ.err = 0 → σ.opn + m ≤ 64 → (∀ j, j < m → Sx.isN L (σ.at' + 2 * j) 98 ∧ Sx.isS L (σ.at' + 2 * j + 1) 91) → Sx.isD L (σ.at' + 2 * m) → (∀ j, j < m → Sx.isS L (σ.at' + 2 * m + 1 + j) 93) → Sx.off L (σ.at' + 3 * m + 1) →
    (Sx.U L σ).2 = { σ with at' := σ.at' + 3 * m + 1 } := by
  induction m with
  | zero =>
    intro σ he _ _ hd _ _
    rw [Sx.U_one hL he hd]
  | succ m ih =>
    intro σ he ho h1 hd h2 hoff
    obtain ⟨hn, hs⟩ := h1 0 (by omega)
    rw [Nat.mul_zero, Nat.add_zero] at hn hs
    have hs' : Sx.isS L ({ σ with at' := σ.at' + 1 } : Sx.R).at' 91 := hs
    rw [Sx.U_nm hL he hn, Sx.Bh_index hL _ hs'.lt (by rw [hs'.sees he]; rfl), hs'.nest he (by show σ.opn < 64; omega)]
    simp only []
    have hc : Sx.isS L (σ.at' + 1 + 1 + 3 * m + 1) 93 := by have := h2 m (by omega); rwa [show σ.at' + 2 * (m + 1) + 1 + m = σ.at' + 1 + 1 + 3 * m + 1 by omega] at this
    have hih := ih { σ with at' := σ.at' + 1 + 1, opn := σ.opn + 1 } he (by show σ.opn + 1 + (m : Int) ≤ 64; omega)
      (fun j hj => by have := h1 (j + 1) (by omega); rwa [show σ.at' + 2 * (j + 1) = σ.at' + 1 + 1 + 2 * j by omega] at this)
      (by rwa [show σ.at' + 2 * (m + 1) = σ.at' + 1 + 1 + 2 * m by omega] at hd)
      (fun j hj => by have := h2 j (by omega); rwa [show σ.at' + 2 * (m + 1) + 1 + j = σ.at' + 1 + 1 + 2 * m + 1 + j by omega] at this)
      ⟨93, hc, Or.inr (Or.inl rfl)⟩
    have hi1 : σ.at' + 1 + 1 < L.length := by have := hc.lt; omega
    rw [Sx.X_off hL hi1 (Or.inr (by rw [hih]; exact ⟨93, hc, Or.inr (Or.inl rfl)⟩)), hih]
    have hun := Sx.isS.unnest (σ := { σ with at' := σ.at' + 1 + 1 + 3 * m + 1, opn := σ.opn + 1 }) hc he
    refine hun.trans ?_
    simp only [Sx.R.mk.injEq, and_true]
    exact ⟨by omega, by omega⟩
theorem Sx.deep2_bad (m : Nat) : ∀ σ : Sx.R, σ.err = 0 → σ.opn + m = 64 → (∀ j, j ≤ m → Sx.isN L (σ.at' + 2 * j) 98 ∧ Sx.isS L (σ.at' + 2 * j + 1) 91) →
    (Sx.U L σ).2.err = 11 ∧ (Sx.U L σ).2.pos = (Sx.tk L { σ with at' := σ.at' + 2 * m + 1 }).pos := by
  induction m with
  | zero =>
    intro σ he ho h1
    obtain ⟨hn, hs⟩ := h1 0 (Nat.le_refl _)
    rw [Nat.mul_zero, Nat.add_zero] at hn hs
    have hs' : Sx.isS L ({ σ with at' := σ.at' + 1 } : Sx.R).at' 91 := hs
    rw [Sx.U_nm hL he hn, Sx.Bh_index hL _ hs'.lt (by rw [hs'.sees he]; rfl), hs'.deep he (by show 64 ≤ σ.opn; omega)]
    simp only []
    rw [Sx.X_err hL (σ := { σ with at' := σ.at' + 1, err := 11, pos := (Sx.tk L { σ with at' := σ.at' + 1 }).pos, opn := σ.opn + 1 }) hs'.lt (by show (11 : Int) ≠ 0; decide), Sx.unnest_no (by show (11 : Int) ≠ 0; decide)]
    exact ⟨rfl, rfl⟩
  | succ m ih =>
    intro σ he ho h1
    obtain ⟨hn, hs⟩ := h1 0 (by omega)
    rw [Nat.mul_zero, Nat.add_zero] at hn hs
    have hs' : Sx.isS L ({ σ with at' := σ.at' + 1 } : Sx.R).at' 91 := hs
    rw [Sx.U_nm hL he hn, Sx.Bh_index hL _ hs'.lt (by rw [hs'.sees he]; rfl), hs'.nest he (by show σ.opn < 64; omega)]
    simp only []
    obtain ⟨h2, h3⟩ := ih { σ with at' := σ.at' + 1 + 1, opn := σ.opn + 1 } he (by show σ.opn + 1 + (m : Int) = 64; omega)
      (fun j hj => by have := h1 (j + 1) (by omega); rwa [show σ.at' + 2 * (j + 1) = σ.at' + 1 + 1 + 2 * j by omega] at this)
    have hi1 : σ.at' + 1 + 1 < L.length := by have := (h1 1 (by omega)).1.lt; omega
    have hne : (Sx.U L { σ with at' := σ.at' + 1 + 1, opn := σ.opn + 1 }).2.err ≠ 0 := by rw [h2]; decide
    rw [Sx.X_off hL hi1 (Or.inl hne), Sx.unnest_no hne]
    refine ⟨h2, h3.trans ?_⟩
    exact congrArg (fun t : Lx.Tok => (t.pos : Int)) (Sx.tk_at (by show σ.at' + 1 + 1 + 2 * m + 1 = σ.at' + 2 * (m + 1) + 1; omega))
theorem Sx.deep4 (m : Nat) : ∀ σ : Sx.R, σ.err = 0 → σ.opn + m ≤ 64 → (∀ j, j < m → Sx.isN L (σ.at' + 2 * j) 102 ∧ Sx.isS L (σ.at' + 2 * j + 1) 40) → Sx.isD L (σ.at' + 2 * m) → (∀ j, j < m → Sx.isS L (σ.at' + 2 * m + 1 + j) 41) → Sx.off L (σ.at' + 3 * m + 1) →
    (Sx.U L σ).2 = { σ with at' := σ.at' + 3 * m + 1 } := by
  induction m with
  | zero =>
    intro σ he _ _ hd _ _
    rw [Sx.U_one hL he hd]
  | succ m ih =>
    intro σ he ho h1 hd h2 hoff
    obtain ⟨hn, hs⟩ := h1 0 (by omega)
    rw [Nat.mul_zero, Nat.add_zero] at hn hs
    have hs' : Sx.isS L ({ σ with at' := σ.at' + 1 } : Sx.R).at' 40 := hs
    rw [Sx.U_nm hL he hn, Sx.Bh_call hL _ hs'.lt (by rw [hs'.sees he]; rfl), hs'.nest he (by show σ.opn < 64; omega)]
    simp only []
    have hc : Sx.isS L (σ.at' + 1 + 1 + 3 * m + 1) 41 := by have := h2 m (by omega); rwa [show σ.at' + 2 * (m + 1) + 1 + m = σ.at' + 1 + 1 + 3 * m + 1 by omega] at this
    have hih := ih { σ with at' := σ.at' + 1 + 1, opn := σ.opn + 1 } he (by show σ.opn + 1 + (m : Int) ≤ 64; omega)
      (fun j hj => by have := h1 (j + 1) (by omega); rwa [show σ.at' + 2 * (j + 1) = σ.at' + 1 + 1 + 2 * j by omega] at this)
      (by rwa [show σ.at' + 2 * (m + 1) = σ.at' + 1 + 1 + 2 * m by omega] at hd)
      (fun j hj => by have := h2 j (by omega); rwa [show σ.at' + 2 * (m + 1) + 1 + j = σ.at' + 1 + 1 + 2 * m + 1 + j by omega] at this)
      ⟨41, hc, Or.inl rfl⟩
    have hi1 : σ.at' + 1 + 1 < L.length := by have := hc.lt; omega
    have hX : Sx.X L 0 { σ with at' := σ.at' + 1 + 1, opn := σ.opn + 1 } = Sx.U L { σ with at' := σ.at' + 1 + 1, opn := σ.opn + 1 } := Sx.X_off hL hi1 (Or.inr (by rw [hih]; exact ⟨41, hc, Or.inl rfl⟩))
    have hno : Sx.sees L [41] { σ with at' := σ.at' + 1 + 1, opn := σ.opn + 1 } = false := by
      cases m with
      | zero => exact Sx.isD.sees (σ := { σ with at' := σ.at' + 1 + 1, opn := σ.opn + 1 }) hd _ (by decide)
      | succ m => exact Sx.isN.sees (σ := { σ with at' := σ.at' + 1 + 1, opn := σ.opn + 1 }) (h1 1 (by omega)).1 _ (by decide)
    rw [Sx.Ar_X hL hi1 hno (Or.inr (by rw [hX, hih]; exact ⟨he, hc⟩)), hX, hih]
    have hun := Sx.isS.unnest (σ := { σ with at' := σ.at' + 1 + 1 + 3 * m + 1, opn := σ.opn + 1 }) hc he
    refine hun.trans ?_
    simp only [Sx.R.mk.injEq, and_true]
    exact ⟨by omega, by omega⟩
theorem Sx.deep4_bad (m : Nat) : ∀ σ : Sx.R, σ.err = 0 → σ.opn + m = 64 → (∀ j, j ≤ m → Sx.isN L (σ.at' + 2 * j) 102 ∧ Sx.isS L (σ.at' + 2 * j + 1) 40) →
    (Sx.U L σ).2.err = 11 ∧ (Sx.U L σ).2.pos = (Sx.tk L { σ with at' := σ.at' + 2 * m + 1 }).pos := by
  induction m with
  | zero =>
    intro σ he ho h1
    obtain ⟨hn, hs⟩ := h1 0 (Nat.le_refl _)
    rw [Nat.mul_zero, Nat.add_zero] at hn hs
    have hs' : Sx.isS L ({ σ with at' := σ.at' + 1 } : Sx.R).at' 40 := hs
    rw [Sx.U_nm hL he hn, Sx.Bh_call hL _ hs'.lt (by rw [hs'.sees he]; rfl), hs'.deep he (by show 64 ≤ σ.opn; omega)]
    simp only []
    rw [Sx.Ar_err hL 0 (σ := { σ with at' := σ.at' + 1, err := 11, pos := (Sx.tk L { σ with at' := σ.at' + 1 }).pos, opn := σ.opn + 1 }) hs'.lt (by show (11 : Int) ≠ 0; decide), Sx.unnest_no (by show (11 : Int) ≠ 0; decide)]
    exact ⟨rfl, rfl⟩
  | succ m ih =>
    intro σ he ho h1
    obtain ⟨hn, hs⟩ := h1 0 (by omega)
    rw [Nat.mul_zero, Nat.add_zero] at hn hs
    have hs' : Sx.isS L ({ σ with at' := σ.at' + 1 } : Sx.R).at' 40 := hs
    rw [Sx.U_nm hL he hn, Sx.Bh_call hL _ hs'.lt (by rw [hs'.sees he]; rfl), hs'.nest he (by show σ.opn < 64; omega)]
    simp only []
    obtain ⟨h2, h3⟩ := ih { σ with at' := σ.at' + 1 + 1, opn := σ.opn + 1 } he (by show σ.opn + 1 + (m : Int) = 64; omega)
      (fun j hj => by have := h1 (j + 1) (by omega); rwa [show σ.at' + 2 * (j + 1) = σ.at' + 1 + 1 + 2 * j by omega] at this)
    have hi1 : σ.at' + 1 + 1 < L.length := by have := (h1 1 (by omega)).1.lt; omega
    have hne : (Sx.U L { σ with at' := σ.at' + 1 + 1, opn := σ.opn + 1 }).2.err ≠ 0 := by rw [h2]; decide
    have hX : Sx.X L 0 { σ with at' := σ.at' + 1 + 1, opn := σ.opn + 1 } = Sx.U L { σ with at' := σ.at' + 1 + 1, opn := σ.opn + 1 } := Sx.X_off hL hi1 (Or.inl hne)
    have hno : Sx.sees L [41] { σ with at' := σ.at' + 1 + 1, opn := σ.opn + 1 } = false := Sx.isN.sees (σ := { σ with at' := σ.at' + 1 + 1, opn := σ.opn + 1 }) (h1 1 (by omega)).1 _ (by decide)
    rw [Sx.Ar_X hL hi1 hno (Or.inl (by rw [hX]; exact hne)), hX, Sx.unnest_no hne]
    refine ⟨h2, h3.trans ?_⟩
    exact congrArg (fun t : Lx.Tok => (t.pos : Int)) (Sx.tk_at (by show σ.at' + 1 + 1 + 2 * m + 1 = σ.at' + 2 * (m + 1) + 1; omega))
theorem Sx.deep3 (m : Nat) : ∀ σ : Sx.R, σ.err = 0 → σ.opn + 2 * m ≤ 64 → (∀ j, j < m → Sx.isS L (σ.at' + 2 * j) 126 ∧ Sx.isS L (σ.at' + 2 * j + 1) 40) → Sx.isD L (σ.at' + 2 * m) → (∀ j, j < m → Sx.isS L (σ.at' + 2 * m + 1 + j) 41) → Sx.off L (σ.at' + 3 * m + 1) →
    (Sx.U L σ).2 = { σ with at' := σ.at' + 3 * m + 1 } := by
  induction m with
  | zero =>
    intro σ he _ _ hd _ _
    rw [Sx.U_one hL he hd]
  | succ m ih =>
    intro σ he ho h1 hd h2 hoff
    obtain ⟨hn, hs⟩ := h1 0 (by omega)
    rw [Nat.mul_zero, Nat.add_zero] at hn hs
    have htx := hn.text
    rw [Sx.U_sign hL hn.lt he (by rw [htx]; exact Or.inl rfl), htx, hn.nest he (by omega)]
    simp only []
    have hs' : Sx.isS L ({ σ with at' := σ.at' + 1, opn := σ.opn + 1 } : Sx.R).at' 40 := hs
    rw [Sx.U_par hL hs'.lt (by rw [hs'.sees he]; rfl), hs'.nest he (by show σ.opn + 1 < 64; omega)]
    simp only []
    have hc : Sx.isS L (σ.at' + 1 + 1 + 3 * m + 1) 41 := by have := h2 m (by omega); rwa [show σ.at' + 2 * (m + 1) + 1 + m = σ.at' + 1 + 1 + 3 * m + 1 by omega] at this
    have hih := ih { σ with at' := σ.at' + 1 + 1, opn := σ.opn + 1 + 1 } he (by show σ.opn + 1 + 1 + 2 * (m : Int) ≤ 64; omega)
      (fun j hj => by have := h1 (j + 1) (by omega); rwa [show σ.at' + 2 * (j + 1) = σ.at' + 1 + 1 + 2 * j by omega] at this)
      (by rwa [show σ.at' + 2 * (m + 1) = σ.at' + 1 + 1 + 2 * m by omega] at hd)
      (fun j hj => by have := h2 j (by omega); rwa [show σ.at' + 2 * (m + 1) + 1 + j = σ.at' + 1 + 1 + 2 * m + 1 + j by omega] at this)
      ⟨41, hc, Or.inl rfl⟩
    have hi1 : σ.at' + 1 + 1 < L.length := by have := hc.lt; omega
    rw [Sx.X_off hL hi1 (Or.inr (by rw [hih]; exact ⟨41, hc, Or.inl rfl⟩)), hih]
    have hun := Sx.isS.unnest (σ := { σ with at' := σ.at' + 1 + 1 + 3 * m + 1, opn := σ.opn + 1 + 1 }) hc he
    rw [hun]
    simp only [Sx.R.mk.injEq, and_true]
    exact ⟨by omega, by omega⟩
theorem Sx.deep3_bad (m : Nat) : ∀ σ : Sx.R, σ.err = 0 → σ.opn + 2 * m = 63 → (∀ j, j ≤ m → Sx.isS L (σ.at' + 2 * j) 126 ∧ Sx.isS L (σ.at' + 2 * j + 1) 40) →
    (Sx.U L σ).2.err = 11 ∧ (Sx.U L σ).2.pos = (Sx.tk L { σ with at' := σ.at' + 2 * m + 1 }).pos := by
  induction m with
  | zero =>
    intro σ he ho h1
    obtain ⟨hn, hs⟩ := h1 0 (Nat.le_refl _)
    rw [Nat.mul_zero, Nat.add_zero] at hn hs
    have htx := hn.text
    rw [Sx.U_sign hL hn.lt he (by rw [htx]; exact Or.inl rfl), htx, hn.nest he (by omega)]
    simp only []
    have hs' : Sx.isS L ({ σ with at' := σ.at' + 1, opn := σ.opn + 1 } : Sx.R).at' 40 := hs
    rw [Sx.U_par hL hs'.lt (by rw [hs'.sees he]; rfl), hs'.deep he (by show 64 ≤ σ.opn + 1; omega)]
    simp only []
    rw [Sx.X_err hL (σ := { σ with at' := σ.at' + 1, err := 11, pos := (Sx.tk L { σ with at' := σ.at' + 1, opn := σ.opn + 1 }).pos, opn := σ.opn + 1 + 1 }) hs'.lt (by show (11 : Int) ≠ 0; decide), Sx.unnest_no (by show (11 : Int) ≠ 0; decide)]
    exact ⟨rfl, rfl⟩
  | succ m ih =>
    intro σ he ho h1
    obtain ⟨hn, hs⟩ := h1 0 (by omega)
    rw [Nat.mul_zero, Nat.add_zero] at hn hs
    have htx := hn.text
    rw [Sx.U_sign hL hn.lt he (by rw [htx]; exact Or.inl rfl), htx, hn.nest he (by omega)]
    simp only []
    have hs' : Sx.isS L ({ σ with at' := σ.at' + 1, opn := σ.opn + 1 } : Sx.R).at' 40 := hs
    rw [Sx.U_par hL hs'.lt (by rw [hs'.sees he]; rfl), hs'.nest he (by show σ.opn + 1 < 64; omega)]
    simp only []
    obtain ⟨h2, h3⟩ := ih { σ with at' := σ.at' + 1 + 1, opn := σ.opn + 1 + 1 } he (by show σ.opn + 1 + 1 + 2 * (m : Int) = 63; omega)
      (fun j hj => by have := h1 (j + 1) (by omega); rwa [show σ.at' + 2 * (j + 1) = σ.at' + 1 + 1 + 2 * j by omega] at this)
    have hi1 : σ.at' + 1 + 1 < L.length := by have := (h1 1 (by omega)).1.lt; omega
    have hne : (Sx.U L { σ with at' := σ.at' + 1 + 1, opn := σ.opn + 1 + 1 }).2.err ≠ 0 := by rw [h2]; decide
    rw [Sx.X_off hL hi1 (Or.inl hne), Sx.unnest_no hne]
    refine ⟨h2, h3.trans ?_⟩
    exact congrArg (fun t : Lx.Tok => (t.pos : Int)) (Sx.tk_at (by show σ.at' + 1 + 1 + 2 * m + 1 = σ.at' + 2 * (m + 1) + 1; omega))
end
end Go.Proofs.YtpgjhgfneieeiaaDoor
