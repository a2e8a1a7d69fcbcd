/-
  Plain mathematics of layer 11, second part: what is left of a text behind blanks and remarks, and the signs as a list.
-/
import Derived.Lib.Bytealg
import Derived.Test.YtknbnfnibdbokaaDoorLxM
set_option linter.unusedVariables false
set_option linter.unusedSimpArgs false
namespace Go.Proofs.YtknbnfnibdbokaaDoor

/-- what is left behind the first line's end -/
def Lx.aft : List UInt8 → List UInt8
  | [] => []
  | c :: r => if c = 10 then r else Lx.aft r
theorem Lx.aft_le (l : List UInt8) : (Lx.aft l).length ≤ l.length := by
  induction l with
  | nil => exact Nat.le_refl _
  | cons c r ih => rw [Lx.aft]; split <;> simp <;> omega
theorem Lx.ixb (l : List UInt8) : (Lib.indexByte l 10 = -1 ∧ Lx.aft l = []) ∨ ∃ i : Nat, Lib.indexByte l 10 = (i : Int) ∧ i < l.length ∧ Lx.aft l = l.drop (i + 1) := by
  induction l with
  | nil => exact Or.inl ⟨rfl, rfl⟩
  | cons c r ih =>
    by_cases hc : c = 10
    · exact Or.inr ⟨0, by rw [Lib.indexByte, if_pos (by simpa using hc)]; rfl, by simp, by rw [Lx.aft, if_pos hc]; rfl⟩
    · rcases ih with ⟨h1, h2⟩ | ⟨i, h1, h2, h3⟩
      · exact Or.inl ⟨by rw [Lib.indexByte, if_neg (by simpa using hc), h1]; rfl, by rw [Lx.aft, if_neg hc, h2]⟩
      · refine Or.inr ⟨i + 1, ?_, by simpa using h2, by rw [Lx.aft, if_neg hc, h3]; rfl⟩
        rw [Lib.indexByte, if_neg (by simpa using hc), h1, if_neg (by simp; try omega)]; simp
/-- what is left behind blanks and remarks -/
def Lx.left (l : List UInt8) : List UInt8 := l.drop (Lx.skip false l)
theorem Lx.left_rem (l : List UInt8) : l.drop (Lx.skip true l) = Lx.left (Lx.aft l) := by
  induction l with
  | nil => rfl
  | cons c r ih =>
    rw [Lx.skip_rem, List.drop_succ_cons, Lx.aft]
    by_cases hc : c = 10
    · rw [if_pos hc, show decide (c ≠ 10) = false from by simp [hc]]; rfl
    · rw [if_neg hc, show decide (c ≠ 10) = true from by simp [hc], ih]
theorem Lx.left_two (r : List UInt8) : Lx.left (47 :: 47 :: r) = Lx.left (Lx.aft (47 :: 47 :: r)) := by
  rw [Lx.left, Lx.skip_two ⟨rfl, rfl⟩, List.drop_succ_cons, Lx.left_rem]; rfl
theorem Lx.left_trim (l : List UInt8) : Lx.left (l.dropWhile Lx.blank) = Lx.left l := by
  induction l with
  | nil => rfl
  | cons c r ih =>
    rw [List.dropWhile_cons]
    split
    · rename_i hb
      have hn : ¬ (c = 47 ∧ r.head? = some 47) := fun h => by rw [h.1] at hb; exact absurd hb (by decide)
      rw [ih]
      conv => rhs; rw [Lx.left, Lx.skip_blank hn hb, List.drop_succ_cons]
      rfl
    · rfl
theorem Lx.left_stop (l : List UInt8) (hb : ∀ c r, l = c :: r → Lx.blank c = false) (hp : ([47, 47] : List UInt8).isPrefixOf l = false) : Lx.left l = l := by
  cases l with
  | nil => rfl
  | cons c r =>
    rw [Lx.left, Lx.skip_tok (fun h => ?_) (hb c r rfl)]; rfl
    obtain ⟨rfl, h2⟩ := h
    cases r with
    | nil => simp at h2
    | cons d r => simp at h2; subst h2; simp [List.isPrefixOf] at hp
theorem Lx.trim_head (l : List UInt8) : ∀ c r, l.dropWhile Lx.blank = c :: r → Lx.blank c = false := by
  induction l with
  | nil => intro c r h; cases h
  | cons d l ih =>
    intro c r h
    rw [List.dropWhile_cons] at h
    split at h
    · exact ih c r h
    · rename_i hb; cases h; simpa using hb
theorem Lx.pre_two {l : List UInt8} (h : ([47, 47] : List UInt8).isPrefixOf l = true) : ∃ r, l = 47 :: 47 :: r := by
  rcases l with _ | ⟨a, _ | ⟨b, r⟩⟩ <;> simp [List.isPrefixOf] at h
  exact ⟨r, by rw [← h.1, ← h.2]⟩
theorem Lx.trim_le (l : List UInt8) : (l.dropWhile Lx.blank).length ≤ l.length := (List.dropWhile_sublist _).length_le
theorem Lx.left_le (l : List UInt8) : (Lx.left l).length ≤ l.length := by unfold Lx.left; simp
/-- the signs, longer ones ahead -/
def Lx.signs : List (List UInt8) := Lx.twos.map (fun p => [p.1, p.2]) ++ Lx.ones.map (fun c => [c])
def Lx.signIn (L : List (List UInt8)) (l : List UInt8) : List UInt8 := (L.find? fun x => x.isPrefixOf l).getD []
theorem Lx.signs_is (l : List UInt8) : Lx.signIn Lx.signs l = l.take (Lx.sign l) := by
  rcases l with _ | ⟨a, r⟩
  · decide
  · have h1 : ∀ (M : List UInt8) (l : List UInt8), l = a :: r → Lx.signIn (M.map fun c => [c]) l = if M.contains a then [a] else [] := by
      intro M l hl
      subst hl
      unfold Lx.signIn
      induction M with
      | nil => rfl
      | cons c M ih =>
        rw [List.map_cons, List.find?_cons]
        by_cases hc : c = a
        · subst hc; simp [List.isPrefixOf]
        · rw [show ([c] : List UInt8).isPrefixOf (a :: r) = false from by simp [List.isPrefixOf, hc]]
          simp only [ih, List.contains_cons, show (a == c) = false from by simpa using fun h => hc h.symm, Bool.false_or]
    have ha : ∀ (L M : List (List UInt8)) (l : List UInt8), Lx.signIn (L ++ M) l = if (L.find? fun x => x.isPrefixOf l).isSome then Lx.signIn L l else Lx.signIn M l := by
      intro L M l
      unfold Lx.signIn
      rw [List.find?_append]
      cases L.find? fun x => x.isPrefixOf l <;> rfl
    have h2 : ∀ (M : List (UInt8 × UInt8)) (b : UInt8) (r' : List UInt8), ((M.map fun p => [p.1, p.2]).find? fun x => x.isPrefixOf (a :: b :: r')) = if M.contains (a, b) then some [a, b] else none := by
      intro M b r'
      induction M with
      | nil => rfl
      | cons c M ih =>
        rw [List.map_cons, List.find?_cons]
        by_cases hc : c = (a, b)
        · subst hc; simp [List.isPrefixOf]
        · have hp : ([c.1, c.2] : List UInt8).isPrefixOf (a :: b :: r') = false := by
            obtain ⟨x, y⟩ := c
            simp only [List.isPrefixOf, Bool.and_true]
            by_cases hx : x = a
            · subst hx
              have : ¬ y = b := fun h => hc (by rw [h])
              simp [this]
            · simp [hx]
          rw [hp]
          simp only [ih, List.contains_cons, show ((a, b) == c) = false from by simpa using fun h => hc h.symm, Bool.false_or]
    unfold Lx.signs
    rw [ha]
    cases r with
    | nil =>
      have h0 : ((Lx.twos.map fun p => [p.1, p.2]).find? fun x => x.isPrefixOf [a]) = none := by
        rw [List.find?_eq_none]
        intro x hx
        obtain ⟨p, _, rfl⟩ := List.mem_map.1 hx
        simp [List.isPrefixOf]
      rw [h0, h1 _ _ rfl]
      rw [Lx.sign]
      simp only [Option.isSome_none, Bool.false_eq_true, if_false]
      split <;> rfl
    | cons b r =>
      unfold Lx.signIn
      rw [h2]
      rw [Lx.sign]
      by_cases ht : Lx.twos.contains (a, b) = true
      · rw [if_pos ht, if_pos ht]; rfl
      · rw [if_neg ht, if_neg ht]
        have := h1 Lx.ones _ rfl
        unfold Lx.signIn at this
        simp only [Option.isSome_none, Bool.false_eq_true, if_false, this]
        split <;> rfl
end Go.Proofs.YtknbnfnibdbokaaDoor
