/-
  Plain mathematics for SyntaxDeep: the tokens of a text of nests.
-/
import Derived.Test.YtpgjhgfneieeiaaDoorP15a
import Derived.Test.YtpgjhgfneieeiaaDoorP09a
set_option linter.unusedVariables false
set_option linter.unusedSimpArgs false
namespace Go.Proofs.YtpgjhgfneieeiaaDoor
/-- a text's tokens from a place on, however much fuel there is -/
def Lx.Tks (p : Nat) (l : List UInt8) (ts : List Lx.Tok) : Prop := ∀ f, l.length < f → Lx.toks f p l = .ok ts
theorem Lx.Tks.nil (p : Nat) : Lx.Tks p [] [] := by
  intro f hf
  obtain ⟨f, rfl⟩ : ∃ k, f = k + 1 := ⟨f - 1, by simp at hf; omega⟩
  exact Lx.toks_end rfl
theorem Lx.Tks.step {p k n : Nat} {l u : List UInt8} {t : Lx.Tok} {ts : List Lx.Tok} (hk : Lx.skip false l = k) (hd : l.drop k = u) (hu : u ≠ []) (ho : Lx.one (p + k) u = (t, n)) (hn : n ≠ 0) (h : Lx.Tks (p + k + n) (u.drop n) ts) : Lx.Tks p l (t :: ts) := by
  intro f hf
  obtain ⟨f, rfl⟩ : ∃ k, f = k + 1 := ⟨f - 1, by omega⟩
  have hul : u.length ≤ l.length := by rw [← hd, List.length_drop]; omega
  have hup : 0 < u.length := by cases u with | nil => exact absurd rfl hu | cons a b => simp
  rw [Lx.toks_good hk hd hu (by rw [ho]; exact hn), ho]
  simp only []
  rw [h f (by rw [List.length_drop]; omega)]
  rfl
/-- a sign of one byte, whatever is behind it -/
theorem Lx.sign_one {c : UInt8} (h2 : c ≠ 60 ∧ c ≠ 62 ∧ c ≠ 61 ∧ c ≠ 33) (h1 : Lx.ones.contains c = true) : ∀ r : List UInt8, Lx.sign (c :: r) = 1
  | [] => by show (if Lx.ones.contains c = true then 1 else 0) = 1; rw [if_pos h1]
  | b :: r => by
    have hn : Lx.twos.contains (c, b) = false := by
      unfold Lx.twos
      simp [h2.1, h2.2.1, h2.2.2.1, h2.2.2.2]
    show (if Lx.twos.contains (c, b) = true then 2 else if Lx.ones.contains c = true then 1 else 0) = 1
    rw [hn, if_neg (by decide), if_pos h1]
theorem Lx.Tks.sign {p : Nat} {c : UInt8} {r : List UInt8} {ts : List Lx.Tok} (h2 : c ≠ 60 ∧ c ≠ 62 ∧ c ≠ 61 ∧ c ≠ 33) (h1 : Lx.ones.contains c = true) (h : Lx.Tks (p + 1) r ts) : Lx.Tks p (c :: r) (⟨4, p, 0, [c]⟩ :: ts) := by
  obtain ⟨hb, h47, hl, hd⟩ := Lx.ones_not h1
  have hs := Lx.sign_one h2 h1 r
  refine Lx.Tks.step (k := 0) (u := c :: r) (n := 1) (Lx.skip_tok (fun x => h47 x.1) hb) rfl (by simp) ?_ (by decide) (by simpa using h)
  unfold Lx.one
  simp only [hl, hd, hs]
  rfl
/-- a word or name of one letter, with what is no letter behind it -/
theorem Lx.Tks.name {p : Nat} {c d : UInt8} {r : List UInt8} {ts : List Lx.Tok} (hc : Lx.letter c = true) (hd : Lx.wordy d = false) (hw : Lx.words.contains [c] = false) (h : Lx.Tks (p + 1) (d :: r) ts) : Lx.Tks p (c :: d :: r) (⟨1, p, 0, [c]⟩ :: ts) := by
  have hwc : Lx.wordy c = true := by unfold Lx.wordy; rw [hc]; rfl
  have hrun : Lx.run (c :: d :: r) = [c] := by
    unfold Lx.run
    rw [List.takeWhile_cons, hwc, List.takeWhile_cons, hd]
    rfl
  refine Lx.Tks.step (k := 0) (u := c :: d :: r) (n := 1) (Lx.skip_wordy _ hwc) rfl (by simp) ?_ (by decide) (by simpa using h)
  unfold Lx.one
  simp only [hc, hrun, hw]
  rfl
/-- the number 1 -/
theorem Lx.Tks.num1 {p : Nat} {d : UInt8} {r : List UInt8} {ts : List Lx.Tok} (hd : Lx.wordy d = false) (h : Lx.Tks (p + 1) (d :: r) ts) : Lx.Tks p (49 :: d :: r) (⟨2, p, 1, []⟩ :: ts) := by
  have hrun : Lx.run (49 :: d :: r) = [49] := by
    unfold Lx.run
    rw [List.takeWhile_cons, show Lx.wordy 49 = true by decide, List.takeWhile_cons, hd]
    rfl
  refine Lx.Tks.step (k := 0) (u := 49 :: d :: r) (n := 1) (Lx.skip_wordy _ (by decide)) rfl (by simp) ?_ (by decide) (by simpa using h)
  unfold Lx.one
  simp only [hrun]
  rfl
def Sx.rep (u : List UInt8) : Nat → List UInt8
  | 0 => []
  | n + 1 => u ++ Sx.rep u n
theorem Sx.rep_len (u : List UInt8) (n : Nat) : (Sx.rep u n).length = n * u.length := by
  induction n with
  | zero => simp [Sx.rep]
  | succ n ih => rw [Sx.rep, List.length_append, ih, Nat.succ_mul]; omega
theorem Sx.rep_comm (u : List UInt8) (n : Nat) : Sx.rep u n ++ u = Sx.rep u (n + 1) := by
  induction n with
  | zero => simp [Sx.rep]
  | succ n ih => rw [Sx.rep, List.append_assoc, ih, Sx.rep]; rfl
/-- so many of the same sign -/
def Sx.sg (c : UInt8) (p : Nat) : Nat → List Lx.Tok
  | 0 => []
  | n + 1 => ⟨4, p, 0, [c]⟩ :: Sx.sg c (p + 1) n
theorem Lx.Tks.signs {c : UInt8} (h2 : c ≠ 60 ∧ c ≠ 62 ∧ c ≠ 61 ∧ c ≠ 33) (h1 : Lx.ones.contains c = true) {r : List UInt8} {ts : List Lx.Tok} (n : Nat) : ∀ p, Lx.Tks (p + n) r ts → Lx.Tks p (Sx.rep [c] n ++ r) (Sx.sg c p n ++ ts) := by
  induction n with
  | zero => intro p h; exact h
  | succ n ih =>
    intro p h
    exact Lx.Tks.sign h2 h1 (ih (p + 1) (by rw [show p + 1 + n = p + (n + 1) by omega]; exact h))
/-- the text ahead of the nests, and behind them -/
def Sx.dpre : List UInt8 := [102, 110, 32, 102, 40, 41, 32, 123, 32, 120, 32, 61, 32]
def Sx.dpreT : List Lx.Tok := [⟨3, 0, 0, [102, 110]⟩, ⟨1, 3, 0, [102]⟩, ⟨4, 4, 0, [40]⟩, ⟨4, 5, 0, [41]⟩, ⟨4, 7, 0, [123]⟩, ⟨1, 9, 0, [120]⟩, ⟨4, 11, 0, [61]⟩]
theorem Lx.Tks.blank {p : Nat} {r : List UInt8} {ts : List Lx.Tok} (h : Lx.Tks (p + 1) r ts) : Lx.Tks p (32 :: r) ts := by
  intro f hf
  rw [Lx.toks_blank f (r.length + 1) p r (by simp at hf; omega) (by omega)]
  exact h _ (by omega)
theorem Lx.Tks.pre {r : List UInt8} {ts : List Lx.Tok} (h : Lx.Tks 13 r ts) : Lx.Tks 0 (Sx.dpre ++ r) (Sx.dpreT ++ ts) := by
  refine Lx.Tks.step (k := 0) (n := 2) rfl rfl (by simp [Sx.dpre]) rfl (by decide) ?_
  refine Lx.Tks.blank ?_
  refine Lx.Tks.name (by decide) (by decide) (by decide) ?_
  refine Lx.Tks.sign (by decide) (by decide) ?_
  refine Lx.Tks.sign (by decide) (by decide) ?_
  refine Lx.Tks.blank ?_
  refine Lx.Tks.sign (by decide) (by decide) ?_
  refine Lx.Tks.blank ?_
  refine Lx.Tks.name (by decide) (by decide) (by decide) ?_
  refine Lx.Tks.blank ?_
  refine Lx.Tks.step (k := 0) (n := 1) rfl rfl (by simp) rfl (by decide) ?_
  exact Lx.Tks.blank h
theorem Lx.Tks.post (p : Nat) : Lx.Tks p [59, 32, 125] [⟨4, p, 0, [59]⟩, ⟨4, p + 2, 0, [125]⟩] := by
  refine Lx.Tks.sign (by decide) (by decide) ?_
  refine Lx.Tks.blank ?_
  exact Lx.Tks.sign (by decide) (by decide) (Lx.Tks.nil _)
end Go.Proofs.YtpgjhgfneieeiaaDoor
