/-
  Plain mathematics of layer 5: a word is found just where its bytes are.
-/
import Derived.Test.YtchljdcjlkfbfaaMemP
namespace Go.Proofs.Ytchljdcjlkfbfaa
open Go.RowKit
set_option linter.unusedVariables false

theorem Mm.find4 {L : List Mm.Rg} {a : Int} {sw : Bool} (h0 : 0 ≤ a) : Mm.find L a 4 sw = if a % 4 = 0 then Mm.look a 4 sw L 0 else (0, 8) := by
  unfold Mm.find
  rw [if_neg (fun h => h.2 rfl), Int.tmod_eq_emod_of_nonneg h0]
  by_cases h : a % 4 = 0
  · rw [if_neg (fun g => g h), if_pos h]
  · rw [if_pos h, if_neg h]
theorem Mm.uniq {i o r f a : Int} (ok : Mm.okay i o r f) {j : Nat} (hj : j < (Mm.seven i o r f).length) (h : Mm.has (Mm.seven i o r f)[j] a 1 = true) : ∀ k (hk : k < (Mm.seven i o r f).length), Mm.has (Mm.seven i o r f)[k] a 1 = true → k = j := fun k hk hx =>
  Mm.apart ok hk hj (Mm.has_one hx).1 (Mm.has_one hx).2 (Mm.has_one h).1 (Mm.has_one h).2
theorem Mm.four_one {g : Mm.Rg} {a : Int} (h : Mm.has g a 4 = true) {k : Nat} (hk : k < 4) : Mm.has g (a + k) 1 = true := by
  have := Mm.has_iff.1 h
  exact Mm.has_iff.2 (by omega)
theorem Mm.four_one' {g : Mm.Rg} {a : Int} (h : Mm.has g a 4 = true) : Mm.has g a 1 = true := by
  have := Mm.has_iff.1 h
  exact Mm.has_iff.2 (by omega)
theorem Mm.free {sw w : Bool} (h : sw = true → w = true) : (sw && !w) = false := by cases sw <;> cases w <;> simp_all
theorem Mm.word_down {i o r f a : Int} {sw : Bool} (ok : Mm.okay i o r f) (h0 : 0 ≤ a) (h : (Mm.find (Mm.seven i o r f) a 4 sw).2 = 0) : a % 4 = 0 ∧ ∀ k : Nat, k < 4 → (Mm.look (a + k) 1 sw (Mm.seven i o r f) 0).2 = 0 ∧ (Mm.look (a + k) 1 sw (Mm.seven i o r f) 0).1 = (Mm.find (Mm.seven i o r f) a 4 sw).1 := by
  rw [Mm.find4 h0] at h ⊢
  by_cases h4 : a % 4 = 0
  · rw [if_pos h4] at h ⊢
    refine ⟨h4, fun k hk => ?_⟩
    rcases hX : Mm.look a 4 sw (Mm.seven i o r f) 0 with ⟨X, E⟩
    rw [hX] at h
    obtain ⟨j, hj, hXj, hh, hw⟩ := Mm.look_ok hX h
    have h1 := Mm.four_one hh hk
    rw [Mm.look_at hj h1 (Mm.uniq ok hj h1), Mm.free hw]
    exact ⟨rfl, hXj.symm⟩
  · rw [if_neg h4] at h
    exact absurd h (by decide)
theorem Mm.word_up {i o r f a : Int} {sw : Bool} (ok : Mm.okay i o r f) (h0 : 0 ≤ a) (h4 : a % 4 = 0) (hG : ∀ k : Nat, k < 4 → (Mm.look (a + k) 1 sw (Mm.seven i o r f) 0).2 = 0) : (Mm.find (Mm.seven i o r f) a 4 sw).2 = 0 := by
  rw [Mm.find4 h0, if_pos h4]
  have g0 := hG 0 (by decide)
  have g3 := hG 3 (by decide)
  rw [show a + ((0 : Nat) : Int) = a by omega] at g0
  rw [show a + ((3 : Nat) : Int) = a + 3 by omega] at g3
  rcases hX : Mm.look a 1 sw (Mm.seven i o r f) 0 with ⟨X, E⟩
  rcases hY : Mm.look (a + 3) 1 sw (Mm.seven i o r f) 0 with ⟨Y, G⟩
  rw [hX] at g0
  rw [hY] at g3
  obtain ⟨j, hj, hXj, hh, hw⟩ := Mm.look_ok hX g0
  obtain ⟨k, hk, hYk, hh2, hw2⟩ := Mm.look_ok hY g3
  obtain ⟨rfl, hb⟩ := Mm.word ok h4 hj hk hh hh2
  rw [Mm.look_at hj hb (fun m hm hx => Mm.uniq ok hj hh m hm (Mm.four_one' hx)), Mm.free hw]
  rfl
end Go.Proofs.Ytchljdcjlkfbfaa
