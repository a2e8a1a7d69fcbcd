/-
Plain mathematics of layer 11, third part: the tokens of what is left; and what lex's token returns, whatever stands ahead.
Plain mathematics of layer 12, ninth part: the same tokens, so many further on, are read as the same trees, further on.
-/
import Derived.Test.YtbnhegipdfkdgaaDoorP09a
section
namespace Go.Proofs.YtbnhegipdfkdgaaDoor
open Go.ChangeShapes Go.WideShapes Go.ChangeAt Go.RowKit Go.WideMaps Go.Maps
set_option linter.unusedVariables false
set_option linter.unusedSimpArgs false

theorem Lx.one_at (p : Nat) (l : List UInt8) : Lx.one p l = ((Lx.one 0 l).1.on p, (Lx.one 0 l).2) := by
  have h := Lx.one_on 0 p l
  rwa [Nat.zero_add] at h
/-- how many bytes the token ahead has -/
def Lx.cnt (u : List UInt8) : Nat := (Lx.one 0 u).2
theorem Lx.run_nil {c : UInt8} {r : List UInt8} (h : Lx.wordy c = false) : Lx.run (c :: r) = [] := by unfold Lx.run; rw [List.takeWhile_cons, h]; rfl
theorem Lx.run_take (l : List UInt8) : l.take (Lx.run l).length = Lx.run l := by
  have h : Lx.run l ++ l.dropWhile Lx.wordy = l := List.takeWhile_append_dropWhile
  have := List.take_left (l₁ := Lx.run l) (l₂ := l.dropWhile Lx.wordy)
  rwa [h] at this
theorem Lx.fst_take (u : List UInt8) : u.take (Lx.fst u).length = Lx.fst u := by
  unfold Lx.fst
  split
  · rw [List.length_take, Nat.min_eq_left (Lx.sign_le u)]
  · exact Lx.run_take u
theorem Lx.fst_le (u : List UInt8) : (Lx.fst u).length ≤ u.length := by
  rw [← Lx.fst_take u, List.length_take]; exact Nat.min_le_right _ _
theorem Lx.cnt_fst (c : UInt8) (r : List UInt8) (h : Lx.cnt (c :: r) ≠ 0) : Lx.cnt (c :: r) = (Lx.fst (c :: r)).length := by
  unfold Lx.cnt Lx.one at h ⊢
  simp only [] at h ⊢
  by_cases h1 : Lx.letter c = true
  · have hr := Lx.run_cons (c := c) (r := r) (by unfold Lx.wordy; rw [h1]; rfl)
    rw [if_pos h1] at h ⊢
    simp only [] at h ⊢
    unfold Lx.fst
    rw [if_neg (c := Lx.run (c :: r) = []) (by rw [hr]; simp)]
    split at h
    · rename_i h2; rw [if_pos h2]
    · exact absurd rfl h
  · rw [if_neg h1] at h ⊢
    by_cases h2 : Lx.digit c = true
    · have hr := Lx.run_cons (c := c) (r := r) (by unfold Lx.wordy; rw [h2, Bool.or_true])
      rw [if_pos h2] at h ⊢
      simp only [] at h ⊢
      unfold Lx.fst
      rw [if_neg (c := Lx.run (c :: r) = []) (by rw [hr]; simp)]
      split at h
      · rename_i h2; rw [if_pos h2]
      · exact absurd rfl h
    · have hr := Lx.run_nil (c := c) (r := r) (by unfold Lx.wordy; simp only [Bool.not_eq_true] at h1 h2; rw [h1, h2]; rfl)
      rw [if_neg h2] at h ⊢
      simp only [] at h ⊢
      unfold Lx.fst
      rw [if_pos hr, List.length_take, Nat.min_eq_left (Lx.sign_le _)]
/-- the tokens of what is left of a text of N bytes -/
def Lx.Tk (N : Nat) (m : List UInt8) : Except Nat (List Lx.Tok) := Lx.toks (m.length + 1) (N - m.length) m
theorem Lx.left_len (m : List UInt8) : (Lx.left m).length + Lx.skip false m = m.length := by
  unfold Lx.left; rw [List.length_drop]; have := Lx.skip_le false m; omega
theorem Lx.Tk_end (N : Nat) (m : List UInt8) (h : Lx.left m = []) : Lx.Tk N m = .ok [] := Lx.toks_end h
theorem Lx.Tk_bad (N : Nat) (m : List UInt8) (hm : m.length ≤ N) (h : Lx.left m ≠ []) (h0 : Lx.cnt (Lx.left m) = 0) : Lx.Tk N m = .error (N - (Lx.left m).length) := by
  have hl := Lx.left_len m
  unfold Lx.Tk
  rw [Lx.toks_bad rfl rfl h (by rw [Lx.one_at]; exact h0)]
  congr 1; omega
theorem Lx.Tk_good (N : Nat) (m : List UInt8) (hm : m.length ≤ N) (h : Lx.left m ≠ []) (h0 : Lx.cnt (Lx.left m) ≠ 0) :
    Lx.Tk N m = Lx.push ((Lx.one 0 (Lx.left m)).1.on (N - (Lx.left m).length)) (Lx.Tk N ((Lx.left m).drop (Lx.cnt (Lx.left m)))) := by
  have hl := Lx.left_len m
  have h1 := Lx.one_le 0 (Lx.left m)
  unfold Lx.Tk
  rw [Lx.toks_good rfl rfl h (by rw [Lx.one_at]; exact h0)]
  have he : N - m.length + Lx.skip false m = N - (Lx.left m).length := by omega
  rw [Lx.one_at, show m.drop (Lx.skip false m) = Lx.left m from rfl]
  simp only []
  rw [he]
  have hd : ((Lx.left m).drop (Lx.one 0 (Lx.left m)).2).length = (Lx.left m).length - (Lx.one 0 (Lx.left m)).2 := List.length_drop
  rw [Lx.toks_fuel m.length (((Lx.left m).drop (Lx.one 0 (Lx.left m)).2).length + 1) _ _ (by
    have : (Lx.one 0 (Lx.left m)).2 ≠ 0 := h0
    omega) (by omega)]
  congr 2
  show N - (Lx.left m).length + (Lx.one 0 (Lx.left m)).2 = N - ((Lx.left m).drop (Lx.one 0 (Lx.left m)).2).length
  omega
theorem Lx.join_step (done : List Lx.Tok) (x : Lx.Tok) (r : Except Nat (List Lx.Tok)) : Lx.join (.ok done) (Lx.push x r) = Lx.join (.ok (done ++ [x])) r := by
  cases r with
  | error q => rfl
  | ok us => simp [Lx.join, Lx.push]
set_option maxHeartbeats 1000000 in
theorem token_any (c : UInt8) (r : List UInt8) (hs : (c :: r).length ≤ 281474976710656) (b : Nat) (w : World) (hk : KnownAt w b) :
    Calls Tryd.prog 16 #[.string (Lx.S (Lx.fst (c :: r))), .map (some b)] w fun e w' => (∃ (k n : Int) (t : List UInt8), e = .returned (.tuple #[.agg (tkA k 0 n (Lx.S t)), .bool (decide (Lx.cnt (c :: r) ≠ 0))]) ∧ (Lx.cnt (c :: r) ≠ 0 → (Lx.one 0 (c :: r)).1 = ⟨k, 0, n, t⟩)) ∧ Below w.heap.size w w' := by
  have hfl := Lx.fst_le (c :: r)
  have hg : ∀ (t : List UInt8) (h : 0 < (Lx.S (c :: t)).size), (Lx.S (c :: t))[0]'h = c := fun t h => rfl
  by_cases h1 : Lx.letter c = true
  · have hr := Lx.run_cons (c := c) (r := r) (by unfold Lx.wordy; rw [h1]; rfl)
    have hd : Lx.digit c = false := by
      cases hd : Lx.digit c
      · rfl
      · unfold Lx.letter Lx.digit at *; simp at h1 hd; omega
    have hf : Lx.fst (c :: r) = c :: Lx.run r := by unfold Lx.fst; rw [if_neg (by rw [hr]; simp), hr]
    have h0 : 0 < (Lx.S (c :: Lx.run r)).size := by rw [Lx.S_size]; simp
    rw [hf] at hfl ⊢
    refine (token_name (Lx.S (c :: Lx.run r)) (by rw [Lx.S_size]; omega) h0 (by rw [hg]; exact hd) (by rw [hg]; exact h1) b w hk).mono ?_
    rintro e w' ⟨rfl, hb⟩
    rw [Lx.S_list, Lx.S_size]
    have hc : Lx.cnt (c :: r) = if (c :: Lx.run r).length ≤ 40 then (c :: Lx.run r).length else 0 := by unfold Lx.cnt Lx.one; simp only [if_pos h1, hr]
    have ho : (Lx.one 0 (c :: r)).1 = ⟨if Lx.words.contains (c :: Lx.run r) then 3 else 1, 0, 0, c :: Lx.run r⟩ := by unfold Lx.one; simp only [if_pos h1, hr]
    have hq : decide (Lx.cnt (c :: r) ≠ 0) = decide ((c :: Lx.run r).length ≤ 40) := by
      rw [hc]
      by_cases h5 : (c :: Lx.run r).length ≤ 40
      · rw [if_pos h5, decide_eq_true h5]; rfl
      · rw [if_neg h5, decide_eq_false h5]; rfl
    exact ⟨⟨_, _, c :: Lx.run r, by rw [hq], fun _ => ho⟩, hb⟩
  · by_cases h2 : Lx.digit c = true
    · have hr := Lx.run_cons (c := c) (r := r) (by unfold Lx.wordy; rw [h2, Bool.or_true])
      have hf : Lx.fst (c :: r) = c :: Lx.run r := by unfold Lx.fst; rw [if_neg (by rw [hr]; simp), hr]
      have h0 : 0 < (Lx.S (c :: Lx.run r)).size := by rw [Lx.S_size]; simp
      rw [hf] at hfl ⊢
      refine (token_num (Lx.S (c :: Lx.run r)) (by rw [Lx.S_size]; omega) h0 (by rw [hg]; exact h2) b w).mono ?_
      rintro e w' ⟨⟨n, rfl, hn⟩, hb⟩
      rw [Lx.S_list] at hn ⊢
      have hc : Lx.cnt (c :: r) = if 0 ≤ Lx.num (c :: Lx.run r) then (c :: Lx.run r).length else 0 := by unfold Lx.cnt Lx.one; simp only [if_neg h1, if_pos h2, hr]
      have ho : (Lx.one 0 (c :: r)).1 = ⟨2, 0, Lx.num (c :: Lx.run r), []⟩ := by unfold Lx.one; simp only [if_neg h1, if_pos h2, hr]
      by_cases h5 : 0 ≤ Lx.num (c :: Lx.run r)
      · rw [if_pos h5] at hc
        exact ⟨⟨2, n, [], by rw [hc, decide_eq_true h5]; rfl, fun _ => by rw [ho, hn h5]⟩, hb⟩
      · rw [if_neg h5] at hc
        exact ⟨⟨2, n, [], by rw [hc, decide_eq_false h5]; rfl, fun h => absurd hc h⟩, hb⟩
    · simp only [Bool.not_eq_true] at h1 h2
      have hr := Lx.run_nil (c := c) (r := r) (by unfold Lx.wordy; rw [h1, h2]; rfl)
      have hf : Lx.fst (c :: r) = (c :: r).take (Lx.sign (c :: r)) := by unfold Lx.fst; rw [if_pos hr]
      have hc : Lx.cnt (c :: r) = Lx.sign (c :: r) := by unfold Lx.cnt Lx.one; simp [h1, h2]
      have ho : (Lx.one 0 (c :: r)).1 = ⟨4, 0, 0, (c :: r).take (Lx.sign (c :: r))⟩ := by unfold Lx.one; simp [h1, h2]
      rw [hf] at hfl ⊢
      rcases hsg : Lx.sign (c :: r) with _ | k
      · rw [hsg] at hc
        refine (token_none b w).mono ?_
        rintro e w' ⟨rfl, hb⟩
        exact ⟨⟨0, 0, [], by rw [hc]; rfl, fun h => absurd hc h⟩, hb⟩
      · rw [hsg] at hc hfl ho
        rw [List.take_succ_cons] at hfl ho ⊢
        have h0 : 0 < (Lx.S (c :: r.take k)).size := by rw [Lx.S_size]; simp
        refine (token_sign (Lx.S (c :: r.take k)) (by rw [Lx.S_size]; omega) h0 (by rw [hg]; exact h2) (by rw [hg]; exact h1) b w).mono ?_
        rintro e w' ⟨rfl, hb⟩
        exact ⟨⟨4, 0, c :: r.take k, by rw [hc]; rfl, fun _ => ho⟩, hb⟩
end Go.Proofs.YtbnhegipdfkdgaaDoor
end
section
set_option linter.unusedVariables false
set_option linter.unusedSimpArgs false
namespace Go.Proofs.YtbnhegipdfkdgaaDoor

mutual
/-- an expression so much further on -/
def Sx.E.on (d : Nat) : Sx.E → Sx.E
  | .mk k p n s l => .mk k (p + d) n s (Sx.E.onL d l)
def Sx.E.onL (d : Nat) : List Sx.E → List Sx.E
  | [] => []
  | e :: l => Sx.E.on d e :: Sx.E.onL d l
end
theorem Sx.on_mk (d : Nat) (k p n : Int) (s : List UInt8) (l : List Sx.E) : Sx.E.on d (.mk k p n s l) = .mk k (p + d) n s (Sx.E.onL d l) := by rw [Sx.E.on]
theorem Sx.onL_nil (d : Nat) : Sx.E.onL d [] = [] := by rw [Sx.E.onL]
theorem Sx.onL_cons (d : Nat) (e : Sx.E) (l : List Sx.E) : Sx.E.onL d (e :: l) = Sx.E.on d e :: Sx.E.onL d l := by rw [Sx.E.onL]
/-- a reader so many tokens further on -/
def Sx.R.up (m : Nat) (σ : Sx.R) : Sx.R := { σ with at' := σ.at' + m }
def Sx.Sh (K J : List Lx.Tok) (m d : Nat) : Prop := ∀ i, i < K.length → J[i + m]? = (K[i]?).map (Lx.Tok.on d)
theorem Sx.up_next (m : Nat) (σ : Sx.R) : { σ.up m with at' := (σ.up m).at' + 1 } = Sx.R.up m { σ with at' := σ.at' + 1 } := by
  unfold Sx.R.up; simp only [Nat.add_right_comm]
theorem Sx.up_err (m : Nat) (σ : Sx.R) : (σ.up m).err = σ.err := rfl
theorem Sx.up_opn (m : Nat) (σ : Sx.R) : (σ.up m).opn = σ.opn := rfl
theorem Sx.on_pos (d : Nat) (x : Lx.Tok) : ((x.on d).pos : Int) = (x.pos : Int) + d := by unfold Lx.Tok.on; simp only; omega
section
variable {K J : List Lx.Tok} {m d : Nat}
theorem Sx.sh_tk {σ : Sx.R} (h : Sx.Sh K J m d) (hi : σ.at' < K.length) : Sx.tk J (σ.up m) = (Sx.tk K σ).on d := by
  unfold Sx.tk Sx.R.up
  rw [List.getD_eq_getElem?_getD, List.getD_eq_getElem?_getD]
  simp only
  rw [h _ hi, List.getElem?_eq_getElem hi]
  rfl
theorem Sx.sh_text {σ : Sx.R} (h : Sx.Sh K J m d) (hi : σ.at' < K.length) : Sx.text J (σ.up m) = Sx.text K σ := by
  unfold Sx.text; rw [Sx.sh_tk h hi]; rfl
theorem Sx.sh_sees {σ : Sx.R} {s : List UInt8} (h : Sx.Sh K J m d) (hi : σ.at' < K.length) : Sx.sees J s (σ.up m) = Sx.sees K s σ := by
  unfold Sx.sees; rw [Sx.sh_text h hi]; rfl
theorem Sx.sh_eat {σ : Sx.R} {s : List UInt8} (h : Sx.Sh K J m d) (hi : σ.at' < K.length) (he : (Sx.eat K s σ).err = 0) : Sx.eat J s (σ.up m) = (Sx.eat K s σ).up m := by
  unfold Sx.eat at he ⊢
  rw [Sx.sh_text h hi, Sx.up_err]
  by_cases h1 : σ.err ≠ 0
  · rw [if_pos h1] at he; exact absurd he h1
  · rw [if_neg h1] at he ⊢
    rw [if_neg h1]
    by_cases h2 : Sx.text K σ ≠ s
    · rw [if_pos h2] at he; exact absurd he (Sx.wrong_err (by decide))
    · rw [if_neg h2, if_neg h2]; exact Sx.up_next m σ
theorem Sx.sh_may {σ : Sx.R} {s : List UInt8} (h : Sx.Sh K J m d) (hi : σ.at' < K.length) : Sx.may J s (σ.up m) = ((Sx.may K s σ).1, (Sx.may K s σ).2.up m) := by
  unfold Sx.may
  rw [Sx.sh_sees h hi]
  split
  · rw [Sx.up_next]
  · rfl
theorem Sx.eat_err {L : List Lx.Tok} {s : List UInt8} {σ : Sx.R} (h : σ.err ≠ 0) : Sx.eat L s σ = σ := by unfold Sx.eat; rw [if_pos h]
theorem Sx.sh_nest {σ : Sx.R} {s : List UInt8} (h : Sx.Sh K J m d) (hi : σ.at' < K.length) (he : (Sx.nest K s σ).err = 0) : Sx.nest J s (σ.up m) = (Sx.nest K s σ).up m := by
  unfold Sx.nest at he ⊢
  rw [Sx.sh_sees h hi, Sx.up_opn]
  simp only [] at he ⊢
  by_cases h1 : (Sx.sees K s σ && decide (64 ≤ σ.opn)) = true
  · rw [if_pos h1, Sx.eat_err (Sx.wrong_err (by decide))] at he
    exact absurd he (Sx.wrong_err (by decide))
  · rw [if_neg h1] at he ⊢
    rw [if_neg h1, Sx.sh_eat h hi he]; rfl
theorem Sx.sh_unnest {σ : Sx.R} {s : List UInt8} (h : Sx.Sh K J m d) (hi : σ.at' < K.length) (he : (Sx.unnest K s σ).err = 0) : Sx.unnest J s (σ.up m) = (Sx.unnest K s σ).up m := by
  unfold Sx.unnest at he ⊢
  simp only [] at he ⊢
  rw [Sx.sh_eat h hi he]; rfl
theorem Sx.sh_some {σ : Sx.R} {n : Int} (h : Sx.Sh K J m d) (hi : σ.at' < K.length) (he : (Sx.some K n σ).2.err = 0) : Sx.some J n (σ.up m) = ((Sx.some K n σ).1.on d, (Sx.some K n σ).2.up m) := by
  unfold Sx.some at he ⊢
  rw [Sx.sh_tk h hi, Sx.up_err]
  by_cases h1 : σ.err ≠ 0
  · rw [if_pos h1] at he; exact absurd he h1
  · rw [if_neg h1] at he ⊢
    rw [if_neg h1]
    by_cases h2 : (Sx.tk K σ).kind ≠ n
    · rw [if_pos h2] at he; exact absurd he (Sx.wrong_err (by decide))
    · rw [if_neg h2, if_neg (c := ((Sx.tk K σ).on d).kind ≠ n) h2]
      unfold Sx.R.up; simp only [Nat.add_right_comm]
theorem Sx.sh_label {σ : Sx.R} (hK : Sx.Ends K) (h : Sx.Sh K J m d) (hi : σ.at' < K.length) (he : (Sx.label K σ).2.err = 0) : Sx.label J (σ.up m) = ((Sx.label K σ).1, (Sx.label K σ).2.up m) := by
  unfold Sx.label at he ⊢
  rw [Sx.sh_may h hi]
  simp only []
  by_cases h1 : (Sx.may K Sx.wSec σ).1 = true
  · rw [if_pos h1, if_pos h1]
  · rw [if_neg h1] at he ⊢
    rw [if_neg h1, Sx.sh_eat h ((Sx.le_may hK Sx.wSec (by decide) σ).2.2.1 hi) he]
theorem Sx.sh_zero {σ : Sx.R} (h : Sx.Sh K J m d) (hi : σ.at' < K.length) (he : (Sx.zero K σ).err = 0) : Sx.zero J (σ.up m) = (Sx.zero K σ).up m := by
  unfold Sx.zero at he ⊢
  rw [Sx.sh_tk h hi]
  by_cases h2 : (Sx.tk K σ).num = 0
  · rw [if_pos h2] at he; exact absurd he (Sx.wrong_err (by decide))
  · rw [if_neg h2, if_neg (c := ((Sx.tk K σ).on d).num = 0) h2]
theorem Sx.le_zero {L : List Lx.Tok} (σ : Sx.R) : Sx.Le L σ (Sx.zero L σ) := by
  unfold Sx.zero; split
  · exact Sx.le_wrong L 10 _ (Or.inl rfl)
  · exact Sx.Le.refl _ _
theorem Sx.sh_brackets {σ : Sx.R} (hK : Sx.Ends K) (h : Sx.Sh K J m d) (hi : σ.at' < K.length) (he : (Sx.brackets K σ).2.err = 0) : Sx.brackets J (σ.up m) = ((Sx.brackets K σ).1, (Sx.brackets K σ).2.up m) := by
  rw [Sx.brackets_eq] at he
  rw [Sx.brackets_eq, Sx.brackets_eq]
  have e1 := (Sx.le_eat hK [93] (by decide) _).ok he
  have e2 := (Sx.le_some hK 2 (by decide) _).ok e1
  have e3 := (Sx.le_zero _).ok e2
  have i1 := (Sx.le_eat hK [91] (by decide) σ).2.2.1 hi
  have i2 := (Sx.le_zero (Sx.eat K [91] σ)).2.2.1 i1
  have i3 := (Sx.le_some hK 2 (by decide) (Sx.zero K (Sx.eat K [91] σ))).2.2.1 i2
  rw [Sx.sh_eat h hi e3, Sx.sh_zero h i1 e2, Sx.sh_some h i2 e1, Sx.sh_eat h i3 he]
  rfl
theorem Sx.sh_type {σ : Sx.R} {b : Bool} {l : Int} (hK : Sx.Ends K) (h : Sx.Sh K J m d) (hi : σ.at' < K.length) (he : (Sx.type K b l σ).2.err = 0) : Sx.type J b l (σ.up m) = ((Sx.type K b l σ).1, (Sx.type K b l σ).2.up m) := by
  unfold Sx.type at he ⊢
  rw [Sx.sh_may h hi]
  simp only [] at he ⊢
  have i1 := (Sx.le_may hK Sx.wMask (by decide) σ).2.2.1 hi
  by_cases h1 : (Sx.may K Sx.wMask σ).1 = true
  · rw [if_pos h1, if_pos h1]
  · rw [if_neg h1] at he ⊢
    rw [if_neg h1, Sx.sh_may h i1]
    simp only []
    have i2 := (Sx.le_may hK Sx.wU8 (by decide) (Sx.may K Sx.wMask σ).2).2.2.1 i1
    by_cases h2 : (!b && (Sx.may K Sx.wU8 (Sx.may K Sx.wMask σ).2).1) = true
    · rw [if_pos h2] at he ⊢
      rw [if_pos h2, Sx.sh_brackets hK h i2 he]
    · rw [if_neg h2] at he ⊢
      rw [if_neg h2]
      have e1 : (Sx.eat K Sx.wU32 (Sx.may K Sx.wMask σ).2).err = 0 := by
        split at he
        · exact (Sx.le_brackets hK _).ok he
        · exact he
      have i3 := (Sx.le_eat hK Sx.wU32 (by decide) (Sx.may K Sx.wMask σ).2).2.2.1 i1
      rw [Sx.sh_eat h i1 e1, Sx.sh_sees h i3]
      by_cases h3 : (!b && Sx.sees K [91] (Sx.eat K Sx.wU32 (Sx.may K Sx.wMask σ).2)) = true
      · rw [if_pos h3] at he ⊢
        rw [if_pos h3, Sx.sh_brackets hK h i3 he]
      · rw [if_neg h3, if_neg h3]
def Sx.Pa.on (d : Nat) (x : Sx.Pa) : Sx.Pa := { x with pos := x.pos + d }
theorem Sx.sh_param {σ : Sx.R} (hK : Sx.Ends K) (h : Sx.Sh K J m d) (hi : σ.at' < K.length) (he : (Sx.param K σ).2.err = 0) : Sx.param J (σ.up m) = ((Sx.param K σ).1.on d, (Sx.param K σ).2.up m) := by
  unfold Sx.param at he ⊢
  simp only [] at he ⊢
  have e1 := (Sx.le_type hK _ _ _).ok he
  have e2 := (Sx.le_eat hK [58] (by decide) _).ok e1
  have e3 := (Sx.le_some hK 1 (by decide) _).ok e2
  have i1 := (Sx.le_may hK Sx.wOut (by decide) σ).2.2.1 hi
  have i2 := (Sx.le_label hK _).2.2.1 i1
  have i3 := (Sx.le_some hK 1 (by decide) _).2.2.1 i2
  have i4 := (Sx.le_eat hK [58] (by decide) _).2.2.1 i3
  rw [Sx.sh_may h hi]
  simp only []
  rw [Sx.sh_label hK h i1 e3]
  simp only []
  rw [Sx.sh_some h i2 e2]
  simp only []
  rw [Sx.sh_eat h i3 e1, Sx.sh_type hK h i4 he, Sx.on_pos]
  rfl
end
end Go.Proofs.YtbnhegipdfkdgaaDoor
end
