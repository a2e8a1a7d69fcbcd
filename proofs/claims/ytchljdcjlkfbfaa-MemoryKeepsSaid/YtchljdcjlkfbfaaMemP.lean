/-
  Plain mathematics of layer 5: no two regions meet, a bit turned leads from none that may be written to another, and words are bytes.
-/
import Derived.Test.YtchljdcjlkfbfaaMemM
namespace Go.Proofs.Ytchljdcjlkfbfaa
open Go.RowKit
set_option linter.unusedVariables false

theorem Mm.has_iff {g : Mm.Rg} {a n : Int} : Mm.has g a n = true ↔ (g.base ≤ a ∧ n ≤ g.len ∧ a - g.base ≤ g.len - n) := by
  unfold Mm.has; exact decide_eq_true_iff
/-- a place that is told is the first one that has the bytes -/
theorem Mm.look_ok {a n : Int} {sw : Bool} : ∀ {L : List Mm.Rg} {k X E : Int}, Mm.look a n sw L k = (X, E) → E = 0 → ∃ j, ∃ hj : j < L.length, X = k + j ∧ Mm.has L[j] a n = true ∧ (sw = true → L[j].write = true) := by
  intro L
  induction L with
  | nil => intro k X E h hE; unfold Mm.look at h; injection h with h1 h2; omega
  | cons g L ih =>
    intro k X E h hE
    unfold Mm.look at h
    cases hh : Mm.has g a n with
    | true =>
      rw [hh, if_pos rfl] at h
      cases hs : (sw && !g.write) with
      | true => rw [hs, if_pos rfl] at h; injection h with h1 h2; omega
      | false =>
        rw [hs, if_neg (by decide)] at h
        injection h with h1 h2
        refine ⟨0, by simp, by simp; exact h1.symm, by simpa using hh, ?_⟩
        intro hsw
        rw [hsw] at hs
        simpa using hs
    | false =>
      rw [hh, if_neg (by decide)] at h
      obtain ⟨j, hj, hX, h1, h2⟩ := ih h hE
      exact ⟨j + 1, by simpa using hj, by omega, by simpa using h1, by simpa using h2⟩
/-- where one has the bytes, and no other one, its place is told -/
theorem Mm.look_at {a n : Int} {sw : Bool} : ∀ {L : List Mm.Rg} {k : Int} {j : Nat} (hj : j < L.length), Mm.has L[j] a n = true → (∀ i (hi : i < L.length), Mm.has L[i] a n = true → i = j) → Mm.look a n sw L k = if sw && !(L[j].write) then (0, 8) else (k + j, 0) := by
  intro L
  induction L with
  | nil => intro k j hj; exact absurd hj (Nat.not_lt_zero _)
  | cons g L ih =>
    intro k j hj h hu
    unfold Mm.look
    cases hh : Mm.has g a n with
    | true =>
      have := hu 0 (by simp) (by simpa using hh)
      subst this
      rw [if_pos rfl]
      simp
    | false =>
      rw [if_neg (by decide)]
      cases j with
      | zero => simp only [List.getElem_cons_zero] at h; rw [h] at hh; cases hh
      | succ j =>
        rw [ih (k := k + 1) (by simpa using hj) (by simpa using h) (fun i hi hx => by have := hu (i + 1) (by simpa using hi) (by simpa using hx); omega)]
        simp only [List.getElem_cons_succ]
        congr 2
        omega
theorem Mm.look_two (a n : Int) (sw : Bool) : ∀ (L : List Mm.Rg) (k : Int), (Mm.look a n sw L k).2 = 0 ∨ Mm.look a n sw L k = (0, 8) := by
  intro L
  induction L with
  | nil => intro k; right; rfl
  | cons g L ih =>
    intro k
    unfold Mm.look
    split
    · split
      · right; rfl
      · left; rfl
    · exact ih _
/-- sizes that may be -/
def Mm.okay (i o r f : Int) : Prop := 0 ≤ i ∧ i ≤ 65536 ∧ 0 ≤ o ∧ o ≤ 65536 ∧ 4 ≤ r ∧ r ≤ 65536 ∧ 0 ≤ f ∧ f ≤ 262144 ∧ i % 4 = 0 ∧ o % 4 = 0 ∧ r % 4 = 0
theorem Mm.okay_of {i o r f : Int} (h : Mm.err i o r f = 0) : Mm.okay i o r f := by
  unfold Mm.err at h
  split at h
  · rename_i h1
    split at h
    · rename_i h2
      simp only [Mm.whole, Bool.and_eq_true, decide_eq_true_eq, beq_iff_eq] at h1
      unfold Mm.okay
      omega
    · omega
  · omega
/-- where each of the seven begins, and how long it is -/
theorem Mm.seven_cases {i o r f : Int} (h : Mm.okay i o r f) (j : Nat) (hj : j < (Mm.seven i o r f).length) :
    (j = 0 ∧ (Mm.seven i o r f)[j].base = 0 ∧ (Mm.seven i o r f)[j].len = f ∧ (Mm.seven i o r f)[j].write = false) ∨
    (1 ≤ j ∧ (Mm.seven i o r f)[j].base = 536870912 + 65536 * 2 ^ (j - 1) ∧ 0 ≤ (Mm.seven i o r f)[j].len ∧ (Mm.seven i o r f)[j].len ≤ 65536 ∧ (Mm.seven i o r f)[j].len % 4 = 0 ∧ (Mm.seven i o r f)[j].write = true) := by
  unfold Mm.okay at h
  have h7 : j < 7 := hj
  rcases (by omega : j = 0 ∨ j = 1 ∨ j = 2 ∨ j = 3 ∨ j = 4 ∨ j = 5 ∨ j = 6) with rfl | rfl | rfl | rfl | rfl | rfl | rfl <;> simp [Mm.seven] <;> omega
/-- the place of an address that is of one of the six, by its upper bits -/
theorem Mm.upper {i o r f a : Int} (h : Mm.okay i o r f) {j : Nat} (hj : j < (Mm.seven i o r f).length) (h1 : 1 ≤ j) (ha : (Mm.seven i o r f)[j].base ≤ a) (hb : a < (Mm.seven i o r f)[j].base + (Mm.seven i o r f)[j].len) : a / 65536 = 8192 + 2 ^ (j - 1) := by
  rcases Mm.seven_cases h j hj with ⟨h0, _⟩ | ⟨_, hbase, hl0, hl1, _, _⟩
  · omega
  · rw [hbase] at ha hb
    generalize (2 : Int) ^ (j - 1) = P at *
    omega
theorem Mm.pow_inj {j k : Nat} (hj : j < 7) (hk : k < 7) (h1 : 1 ≤ j) (h2 : 1 ≤ k) (h : (2 : Int) ^ (j - 1) = 2 ^ (k - 1)) : j = k := by
  rcases (by omega : j = 1 ∨ j = 2 ∨ j = 3 ∨ j = 4 ∨ j = 5 ∨ j = 6) with rfl | rfl | rfl | rfl | rfl | rfl <;> rcases (by omega : k = 1 ∨ k = 2 ∨ k = 3 ∨ k = 4 ∨ k = 5 ∨ k = 6) with rfl | rfl | rfl | rfl | rfl | rfl <;> first | rfl | (exfalso; revert h; decide)
theorem Mm.pow_pos (m : Nat) : (1 : Int) ≤ 2 ^ m := by
  induction m with
  | zero => decide
  | succ m ih => rw [Int.pow_succ]; omega
theorem Mm.to_nat {B m : Nat} (h : (B : Int) / 65536 = 8192 + 2 ^ m) : B / 65536 = 8192 + 2 ^ m := by
  have hP : ((2 ^ m : Nat) : Int) = (2 : Int) ^ m := Int.natCast_pow 2 m
  rw [← hP] at h
  generalize 2 ^ m = P at *
  omega
/-- no two regions meet -/
theorem Mm.apart {i o r f a : Int} (h : Mm.okay i o r f) {j k : Nat} (hj : j < (Mm.seven i o r f).length) (hk : k < (Mm.seven i o r f).length)
    (ja : (Mm.seven i o r f)[j].base ≤ a) (jb : a < (Mm.seven i o r f)[j].base + (Mm.seven i o r f)[j].len) (ka : (Mm.seven i o r f)[k].base ≤ a) (kb : a < (Mm.seven i o r f)[k].base + (Mm.seven i o r f)[k].len) : j = k := by
  have hf : f ≤ 262144 := by unfold Mm.okay at h; omega
  rcases Mm.seven_cases h j hj with ⟨h0, h1, h2, _⟩ | ⟨h0, h1, h2, h3, _⟩
  · rcases Mm.seven_cases h k hk with ⟨g0, g1, g2, _⟩ | ⟨g0, g1, g2, g3, _⟩
    · omega
    · have := Mm.pow_pos (k - 1)
      rw [h1, h2] at jb
      rw [g1] at ka
      omega
  · rcases Mm.seven_cases h k hk with ⟨g0, g1, g2, _⟩ | ⟨g0, g1, g2, g3, _⟩
    · have := Mm.pow_pos (j - 1)
      rw [g1, g2] at kb
      rw [h1] at ja
      omega
    · have e1 := Mm.upper h hj h0 ja jb
      have e2 := Mm.upper h hk g0 ka kb
      exact Mm.pow_inj hj hk h0 g0 (by omega)
theorem Mm.has_one {g : Mm.Rg} {a : Int} (h : Mm.has g a 1 = true) : g.base ≤ a ∧ a < g.base + g.len := by
  have := Mm.has_iff.1 h; omega
theorem Mm.one_has {g : Mm.Rg} {a : Int} (h0 : g.base ≤ a) (h1 : a < g.base + g.len) : Mm.has g a 1 = true := Mm.has_iff.2 (by omega)
/-- a bit of 32 turned, and the upper bits -/
theorem Mm.turn_upper (A b : Nat) : (A ^^^ 2 ^ b) / 65536 = (A / 65536) ^^^ (2 ^ b / 65536) := by
  have e : (65536 : Nat) = 2 ^ 16 := by decide
  rw [e, ← Nat.shiftRight_eq_div_pow, ← Nat.shiftRight_eq_div_pow, ← Nat.shiftRight_eq_div_pow, Nat.shiftRight_xor_distrib]
theorem Mm.turn_far : ∀ b : Fin 32, ∀ j : Fin 6, ∀ k : Fin 6, ((8192 + 2 ^ j.val) ^^^ (2 ^ b.val / 65536)) = 8192 + 2 ^ k.val → j = k := by decide
/-- an address of a region that may be written, with one bit turned, is of no other one -/
theorem Mm.far {i o r f : Int} {A b : Nat} (h : Mm.okay i o r f) (hb : b < 32) {j k : Nat} (hj : j < (Mm.seven i o r f).length) (hk : k < (Mm.seven i o r f).length)
    (jw : (Mm.seven i o r f)[j].write = true) (kw : (Mm.seven i o r f)[k].write = true) (jh : Mm.has (Mm.seven i o r f)[j] (A : Int) 1 = true) (kh : Mm.has (Mm.seven i o r f)[k] ((A ^^^ 2 ^ b : Nat) : Int) 1 = true) : j = k := by
  rcases Mm.seven_cases h j hj with ⟨_, _, _, h3⟩ | ⟨h0, h1, h2, h3, _⟩
  · rw [h3] at jw; cases jw
  · rcases Mm.seven_cases h k hk with ⟨_, _, _, g3⟩ | ⟨g0, g1, g2, g3, _⟩
    · rw [g3] at kw; cases kw
    · have e1 := Mm.upper h hj h0 (Mm.has_one jh).1 (Mm.has_one jh).2
      have e2 := Mm.upper h hk g0 (Mm.has_one kh).1 (Mm.has_one kh).2
      have n1 : A / 65536 = 8192 + 2 ^ (j - 1) := Mm.to_nat e1
      have n2 : (A ^^^ 2 ^ b) / 65536 = 8192 + 2 ^ (k - 1) := Mm.to_nat e2
      rw [Mm.turn_upper, n1] at n2
      have hj7 : j < 7 := hj
      have hk7 : k < 7 := hk
      have := Mm.turn_far ⟨b, hb⟩ ⟨j - 1, by omega⟩ ⟨k - 1, by omega⟩ n2
      have := Fin.val_eq_of_eq this
      simp at this
      omega
/-- bytes that are of regions are of one: their word is its -/
theorem Mm.word {i o r f a : Int} (h : Mm.okay i o r f) (h0 : a % 4 = 0) {j k : Nat} (hj : j < (Mm.seven i o r f).length) (hk : k < (Mm.seven i o r f).length)
    (jh : Mm.has (Mm.seven i o r f)[j] a 1 = true) (kh : Mm.has (Mm.seven i o r f)[k] (a + 3) 1 = true) : j = k ∧ Mm.has (Mm.seven i o r f)[j] a 4 = true := by
  have hjk : j = k := by
    have hf : f ≤ 262144 := by unfold Mm.okay at h; omega
    have ja := Mm.has_one jh
    have ka := Mm.has_one kh
    rcases Mm.seven_cases h j hj with ⟨h0, h1, h2, _⟩ | ⟨h0, h1, h2, h3, _⟩
    · rcases Mm.seven_cases h k hk with ⟨g0, g1, g2, _⟩ | ⟨g0, g1, g2, g3, _⟩
      · omega
      · have := Mm.pow_pos (k - 1)
        rw [h1, h2] at ja
        rw [g1] at ka
        omega
    · rcases Mm.seven_cases h k hk with ⟨g0, g1, g2, _⟩ | ⟨g0, g1, g2, g3, _⟩
      · have := Mm.pow_pos (j - 1)
        rw [g1, g2] at ka
        rw [h1] at ja
        omega
      · have e1 := Mm.upper h hj h0 ja.1 ja.2
        have e2 := Mm.upper h hk g0 ka.1 ka.2
        have : (a + 3) / 65536 = a / 65536 := by omega
        exact Mm.pow_inj hj hk h0 g0 (by omega)
  subst hjk
  have ja := Mm.has_one jh
  have ka := Mm.has_one kh
  exact ⟨rfl, Mm.has_iff.2 (by omega)⟩
end Go.Proofs.Ytchljdcjlkfbfaa
