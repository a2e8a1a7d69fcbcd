/-
  Plain mathematics of layer 11, third part: the tokens of what is left; and what lex's token returns, whatever stands ahead.
-/
import Derived.Test.YtknbnfnibdbokaaDoorLxG
namespace Go.Proofs.YtknbnfnibdbokaaDoor
open Go.ChangeShapes Go.WideShapes Go.ChangeAt Go.RowKit Go.WideMaps Go.Maps
set_option linter.unusedVariables false
set_option linter.unusedSimpArgs false

theorem Lx.one_at (p : Nat) (l : List UInt8) : Lx.one p l = ((Lx.one 0 l).1.on p, (Lx.one 0 l).2) := by
  have h := Lx.one_on 0 p l
  rwa [Nat.zero_add] at h
/-- how many bytes the token ahead has -/
def Lx.cnt (u : List UInt8) : Nat := (Lx.one 0 u).2
theorem Lx.run_nil {c : UInt8} {r : List UInt8} (h : Lx.wordy c = false) : Lx.run (c :: r) = [] := by unfold Lx.run; rw [List.takeWhile_cons, h]; rfl
theorem Lx.run_take (l : List UInt8) : l.take (Lx.run l).length = Lx.run l := by
  have h : Lx.run l ++ l.dropWhile Lx.wordy = l := List.takeWhile_append_dropWhile
  have := List.take_left (l₁ := Lx.run l) (l₂ := l.dropWhile Lx.wordy)
  rwa [h] at this
theorem Lx.fst_take (u : List UInt8) : u.take (Lx.fst u).length = Lx.fst u := by
  unfold Lx.fst
  split
  · rw [List.length_take, Nat.min_eq_left (Lx.sign_le u)]
  · exact Lx.run_take u
theorem Lx.fst_le (u : List UInt8) : (Lx.fst u).length ≤ u.length := by
  rw [← Lx.fst_take u, List.length_take]; exact Nat.min_le_right _ _
theorem Lx.cnt_fst (c : UInt8) (r : List UInt8) (h : Lx.cnt (c :: r) ≠ 0) : Lx.cnt (c :: r) = (Lx.fst (c :: r)).length := by
  unfold Lx.cnt Lx.one at h ⊢
  simp only [] at h ⊢
  by_cases h1 : Lx.letter c = true
  · have hr := Lx.run_cons (c := c) (r := r) (by unfold Lx.wordy; rw [h1]; rfl)
    rw [if_pos h1] at h ⊢
    simp only [] at h ⊢
    unfold Lx.fst
    rw [if_neg (c := Lx.run (c :: r) = []) (by rw [hr]; simp)]
    split at h
    · rename_i h2; rw [if_pos h2]
    · exact absurd rfl h
  · rw [if_neg h1] at h ⊢
    by_cases h2 : Lx.digit c = true
    · have hr := Lx.run_cons (c := c) (r := r) (by unfold Lx.wordy; rw [h2, Bool.or_true])
      rw [if_pos h2] at h ⊢
      simp only [] at h ⊢
      unfold Lx.fst
      rw [if_neg (c := Lx.run (c :: r) = []) (by rw [hr]; simp)]
      split at h
      · rename_i h2; rw [if_pos h2]
      · exact absurd rfl h
    · have hr := Lx.run_nil (c := c) (r := r) (by unfold Lx.wordy; simp only [Bool.not_eq_true] at h1 h2; rw [h1, h2]; rfl)
      rw [if_neg h2] at h ⊢
      simp only [] at h ⊢
      unfold Lx.fst
      rw [if_pos hr, List.length_take, Nat.min_eq_left (Lx.sign_le _)]
/-- the tokens of what is left of a text of N bytes -/
def Lx.Tk (N : Nat) (m : List UInt8) : Except Nat (List Lx.Tok) := Lx.toks (m.length + 1) (N - m.length) m
theorem Lx.left_len (m : List UInt8) : (Lx.left m).length + Lx.skip false m = m.length := by
  unfold Lx.left; rw [List.length_drop]; have := Lx.skip_le false m; omega
theorem Lx.Tk_end (N : Nat) (m : List UInt8) (h : Lx.left m = []) : Lx.Tk N m = .ok [] := Lx.toks_end h
theorem Lx.Tk_bad (N : Nat) (m : List UInt8) (hm : m.length ≤ N) (h : Lx.left m ≠ []) (h0 : Lx.cnt (Lx.left m) = 0) : Lx.Tk N m = .error (N - (Lx.left m).length) := by
  have hl := Lx.left_len m
  unfold Lx.Tk
  rw [Lx.toks_bad rfl rfl h (by rw [Lx.one_at]; exact h0)]
  congr 1; omega
theorem Lx.Tk_good (N : Nat) (m : List UInt8) (hm : m.length ≤ N) (h : Lx.left m ≠ []) (h0 : Lx.cnt (Lx.left m) ≠ 0) :
    Lx.Tk N m = Lx.push ((Lx.one 0 (Lx.left m)).1.on (N - (Lx.left m).length)) (Lx.Tk N ((Lx.left m).drop (Lx.cnt (Lx.left m)))) := by
  have hl := Lx.left_len m
  have h1 := Lx.one_le 0 (Lx.left m)
  unfold Lx.Tk
  rw [Lx.toks_good rfl rfl h (by rw [Lx.one_at]; exact h0)]
  have he : N - m.length + Lx.skip false m = N - (Lx.left m).length := by omega
  rw [Lx.one_at, show m.drop (Lx.skip false m) = Lx.left m from rfl]
  simp only []
  rw [he]
  have hd : ((Lx.left m).drop (Lx.one 0 (Lx.left m)).2).length = (Lx.left m).length - (Lx.one 0 (Lx.left m)).2 := List.length_drop
  rw [Lx.toks_fuel m.length (((Lx.left m).drop (Lx.one 0 (Lx.left m)).2).length + 1) _ _ (by
    have : (Lx.one 0 (Lx.left m)).2 ≠ 0 := h0
    omega) (by omega)]
  congr 2
  show N - (Lx.left m).length + (Lx.one 0 (Lx.left m)).2 = N - ((Lx.left m).drop (Lx.one 0 (Lx.left m)).2).length
  omega
theorem Lx.join_step (done : List Lx.Tok) (x : Lx.Tok) (r : Except Nat (List Lx.Tok)) : Lx.join (.ok done) (Lx.push x r) = Lx.join (.ok (done ++ [x])) r := by
  cases r with
  | error q => rfl
  | ok us => simp [Lx.join, Lx.push]
set_option maxHeartbeats 1000000 in
theorem token_any (c : UInt8) (r : List UInt8) (hs : (c :: r).length ≤ 281474976710656) (b : Nat) (w : World) (hk : KnownAt w b) :
    Calls Tryd.prog 14 #[.string (Lx.S (Lx.fst (c :: r))), .map (some b)] w fun e w' => (∃ (k n : Int) (t : List UInt8), e = .returned (.tuple #[.agg (tkA k 0 n (Lx.S t)), .bool (decide (Lx.cnt (c :: r) ≠ 0))]) ∧ (Lx.cnt (c :: r) ≠ 0 → (Lx.one 0 (c :: r)).1 = ⟨k, 0, n, t⟩)) ∧ Below w.heap.size w w' := by
  have hfl := Lx.fst_le (c :: r)
  have hg : ∀ (t : List UInt8) (h : 0 < (Lx.S (c :: t)).size), (Lx.S (c :: t))[0]'h = c := fun t h => rfl
  by_cases h1 : Lx.letter c = true
  · have hr := Lx.run_cons (c := c) (r := r) (by unfold Lx.wordy; rw [h1]; rfl)
    have hd : Lx.digit c = false := by
      cases hd : Lx.digit c
      · rfl
      · unfold Lx.letter Lx.digit at *; simp at h1 hd; omega
    have hf : Lx.fst (c :: r) = c :: Lx.run r := by unfold Lx.fst; rw [if_neg (by rw [hr]; simp), hr]
    have h0 : 0 < (Lx.S (c :: Lx.run r)).size := by rw [Lx.S_size]; simp
    rw [hf] at hfl ⊢
    refine (token_name (Lx.S (c :: Lx.run r)) (by rw [Lx.S_size]; omega) h0 (by rw [hg]; exact hd) (by rw [hg]; exact h1) b w hk).mono ?_
    rintro e w' ⟨rfl, hb⟩
    rw [Lx.S_list, Lx.S_size]
    have hc : Lx.cnt (c :: r) = if (c :: Lx.run r).length ≤ 40 then (c :: Lx.run r).length else 0 := by unfold Lx.cnt Lx.one; simp only [if_pos h1, hr]
    have ho : (Lx.one 0 (c :: r)).1 = ⟨if Lx.words.contains (c :: Lx.run r) then 3 else 1, 0, 0, c :: Lx.run r⟩ := by unfold Lx.one; simp only [if_pos h1, hr]
    have hq : decide (Lx.cnt (c :: r) ≠ 0) = decide ((c :: Lx.run r).length ≤ 40) := by
      rw [hc]
      by_cases h5 : (c :: Lx.run r).length ≤ 40
      · rw [if_pos h5, decide_eq_true h5]; rfl
      · rw [if_neg h5, decide_eq_false h5]; rfl
    exact ⟨⟨_, _, c :: Lx.run r, by rw [hq], fun _ => ho⟩, hb⟩
  · by_cases h2 : Lx.digit c = true
    · have hr := Lx.run_cons (c := c) (r := r) (by unfold Lx.wordy; rw [h2, Bool.or_true])
      have hf : Lx.fst (c :: r) = c :: Lx.run r := by unfold Lx.fst; rw [if_neg (by rw [hr]; simp), hr]
      have h0 : 0 < (Lx.S (c :: Lx.run r)).size := by rw [Lx.S_size]; simp
      rw [hf] at hfl ⊢
      refine (token_num (Lx.S (c :: Lx.run r)) (by rw [Lx.S_size]; omega) h0 (by rw [hg]; exact h2) b w).mono ?_
      rintro e w' ⟨⟨n, rfl, hn⟩, hb⟩
      rw [Lx.S_list] at hn ⊢
      have hc : Lx.cnt (c :: r) = if 0 ≤ Lx.num (c :: Lx.run r) then (c :: Lx.run r).length else 0 := by unfold Lx.cnt Lx.one; simp only [if_neg h1, if_pos h2, hr]
      have ho : (Lx.one 0 (c :: r)).1 = ⟨2, 0, Lx.num (c :: Lx.run r), []⟩ := by unfold Lx.one; simp only [if_neg h1, if_pos h2, hr]
      by_cases h5 : 0 ≤ Lx.num (c :: Lx.run r)
      · rw [if_pos h5] at hc
        exact ⟨⟨2, n, [], by rw [hc, decide_eq_true h5]; rfl, fun _ => by rw [ho, hn h5]⟩, hb⟩
      · rw [if_neg h5] at hc
        exact ⟨⟨2, n, [], by rw [hc, decide_eq_false h5]; rfl, fun h => absurd hc h⟩, hb⟩
    · simp only [Bool.not_eq_true] at h1 h2
      have hr := Lx.run_nil (c := c) (r := r) (by unfold Lx.wordy; rw [h1, h2]; rfl)
      have hf : Lx.fst (c :: r) = (c :: r).take (Lx.sign (c :: r)) := by unfold Lx.fst; rw [if_pos hr]
      have hc : Lx.cnt (c :: r) = Lx.sign (c :: r) := by unfold Lx.cnt Lx.one; simp [h1, h2]
      have ho : (Lx.one 0 (c :: r)).1 = ⟨4, 0, 0, (c :: r).take (Lx.sign (c :: r))⟩ := by unfold Lx.one; simp [h1, h2]
      rw [hf] at hfl ⊢
      rcases hsg : Lx.sign (c :: r) with _ | k
      · rw [hsg] at hc
        refine (token_none b w).mono ?_
        rintro e w' ⟨rfl, hb⟩
        exact ⟨⟨0, 0, [], by rw [hc]; rfl, fun h => absurd hc h⟩, hb⟩
      · rw [hsg] at hc hfl ho
        rw [List.take_succ_cons] at hfl ho ⊢
        have h0 : 0 < (Lx.S (c :: r.take k)).size := by rw [Lx.S_size]; simp
        refine (token_sign (Lx.S (c :: r.take k)) (by rw [Lx.S_size]; omega) h0 (by rw [hg]; exact h2) (by rw [hg]; exact h1) b w).mono ?_
        rintro e w' ⟨rfl, hb⟩
        exact ⟨⟨4, 0, c :: r.take k, by rw [hc]; rfl, fun _ => ho⟩, hb⟩
end Go.Proofs.YtknbnfnibdbokaaDoor
