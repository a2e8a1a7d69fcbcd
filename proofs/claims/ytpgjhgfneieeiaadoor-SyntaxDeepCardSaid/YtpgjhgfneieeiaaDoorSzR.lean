/-
  Plain mathematics for SyntaxDeep: a text of so many nests is right just if they are not too deep.
-/
import Derived.Test.YtpgjhgfneieeiaaDoorSzQ
import Derived.Test.YtpgjhgfneieeiaaDoorP36a
set_option linter.unusedVariables false
set_option linter.unusedSimpArgs false
namespace Go.Proofs.YtpgjhgfneieeiaaDoor
def Sx.pp (kd : Int) (c d : UInt8) (p : Nat) : Nat → List Lx.Tok
  | 0 => []
  | n + 1 => ⟨kd, p, 0, [c]⟩ :: ⟨4, p + 1, 0, [d]⟩ :: Sx.pp kd c d (p + 2) n
theorem Lx.Tks.names {c d : UInt8} (hc : Lx.letter c = true) (hw : Lx.words.contains [c] = false) (hd : Lx.wordy d = false) (h2 : d ≠ 60 ∧ d ≠ 62 ∧ d ≠ 61 ∧ d ≠ 33) (h1 : Lx.ones.contains d = true) {r : List UInt8} {ts : List Lx.Tok} (n : Nat) : ∀ p, Lx.Tks (p + 2 * n) r ts → Lx.Tks p (Sx.rep [c, d] n ++ r) (Sx.pp 1 c d p n ++ ts) := by
  induction n with
  | zero => intro p h; exact h
  | succ n ih =>
    intro p h
    exact Lx.Tks.name hc hd hw (Lx.Tks.sign h2 h1 (ih (p + 2) (by rw [show p + 2 + 2 * n = p + 2 * (n + 1) by omega]; exact h)))
theorem Lx.Tks.signs2 {c d : UInt8} (g2 : c ≠ 60 ∧ c ≠ 62 ∧ c ≠ 61 ∧ c ≠ 33) (g1 : Lx.ones.contains c = true) (h2 : d ≠ 60 ∧ d ≠ 62 ∧ d ≠ 61 ∧ d ≠ 33) (h1 : Lx.ones.contains d = true) {r : List UInt8} {ts : List Lx.Tok} (n : Nat) : ∀ p, Lx.Tks (p + 2 * n) r ts → Lx.Tks p (Sx.rep [c, d] n ++ r) (Sx.pp 4 c d p n ++ ts) := by
  induction n with
  | zero => intro p h; exact h
  | succ n ih =>
    intro p h
    exact Lx.Tks.sign g2 g1 (Lx.Tks.sign h2 h1 (ih (p + 2) (by rw [show p + 2 + 2 * n = p + 2 * (n + 1) by omega]; exact h)))
theorem Sx.sg_len (c : UInt8) (n : Nat) : ∀ p, (Sx.sg c p n).length = n := by
  induction n with
  | zero => intro p; rfl
  | succ n ih => intro p; rw [Sx.sg, List.length_cons, ih]
theorem Sx.sg_get (c : UInt8) (n : Nat) : ∀ p j, j < n → (Sx.sg c p n)[j]? = .some ⟨4, p + j, 0, [c]⟩ := by
  induction n with
  | zero => intro p j h; omega
  | succ n ih =>
    intro p j h
    cases j with
    | zero => rfl
    | succ j => rw [Sx.sg, List.getElem?_cons_succ, ih (p + 1) j (by omega), show p + 1 + j = p + (j + 1) by omega]
theorem Sx.pp_len (k : Int) (c d : UInt8) (n : Nat) : ∀ p, (Sx.pp k c d p n).length = 2 * n := by
  induction n with
  | zero => intro p; rfl
  | succ n ih => intro p; rw [Sx.pp, List.length_cons, List.length_cons, ih]; omega
theorem Sx.pp_get (k : Int) (c d : UInt8) (n : Nat) : ∀ p j, j < n → (Sx.pp k c d p n)[2 * j]? = .some ⟨k, p + 2 * j, 0, [c]⟩ ∧ (Sx.pp k c d p n)[2 * j + 1]? = .some ⟨4, p + 2 * j + 1, 0, [d]⟩ := by
  induction n with
  | zero => intro p j h; omega
  | succ n ih =>
    intro p j h
    cases j with
    | zero => exact ⟨rfl, rfl⟩
    | succ j =>
      obtain ⟨h1, h2⟩ := ih (p + 2) j (by omega)
      rw [show 2 * (j + 1) = 2 * j + 1 + 1 by omega, show p + (2 * j + 1 + 1) = p + 2 + 2 * j by omega]
      rw [Sx.pp, List.getElem?_cons_succ, List.getElem?_cons_succ, List.getElem?_cons_succ, List.getElem?_cons_succ]
      exact ⟨h1, h2⟩
/-! ### the frame around the expression -/
section
variable (R : List Lx.Tok)
def Sx.s7 : Sx.R := ⟨7, 1, 0, 0⟩
theorem Sx.frame (hL : Sx.Ends (Sx.dpreT ++ R)) (hn : 7 < (Sx.dpreT ++ R).length) : (Sx.Fs (Sx.dpreT ++ R) Sx.start).2 = (Sx.Fs (Sx.dpreT ++ R) (Sx.unnest (Sx.dpreT ++ R) [125] (Sx.Ss (Sx.dpreT ++ R) (Sx.eat (Sx.dpreT ++ R) [59] (Sx.X (Sx.dpreT ++ R) 0 Sx.s7).2)).2)).2 := by
  have e0 : (Sx.tk (Sx.dpreT ++ R) Sx.start).kind ≠ 0 := by show (3 : Int) ≠ 0; decide
  rw [Sx.Fs_go hL (σ := Sx.start) (by show 0 < _; omega) rfl e0]
  have e1 : Sx.eat (Sx.dpreT ++ R) Sx.wFn Sx.start = ⟨1, 0, 0, 0⟩ := rfl
  have e2 : Sx.some (Sx.dpreT ++ R) 1 ⟨1, 0, 0, 0⟩ = (⟨1, 3, 0, [102]⟩, ⟨2, 0, 0, 0⟩) := rfl
  have e3 : Sx.eat (Sx.dpreT ++ R) [40] ⟨2, 0, 0, 0⟩ = ⟨3, 0, 0, 0⟩ := rfl
  have e4 : Sx.plist (Sx.dpreT ++ R) ⟨3, 0, 0, 0⟩ = ([], ⟨3, 0, 0, 0⟩) := rfl
  have e5 : Sx.eat (Sx.dpreT ++ R) [41] ⟨3, 0, 0, 0⟩ = ⟨4, 0, 0, 0⟩ := rfl
  have e6 : Sx.may (Sx.dpreT ++ R) [58] ⟨4, 0, 0, 0⟩ = (false, ⟨4, 0, 0, 0⟩) := rfl
  have hf : (Sx.function (Sx.dpreT ++ R) Sx.start).2 = (Sx.Bl (Sx.dpreT ++ R) ⟨4, 0, 0, 0⟩).2 := by
    unfold Sx.function
    simp only [e1, e2, e3, e4, e5, e6]
    rfl
  have e7 : Sx.nest (Sx.dpreT ++ R) [123] ⟨4, 0, 0, 0⟩ = ⟨5, 1, 0, 0⟩ := rfl
  have e8 : Sx.sees (Sx.dpreT ++ R) [125] ⟨5, 1, 0, 0⟩ = false := rfl
  have hs : (Sx.St (Sx.dpreT ++ R) ⟨5, 1, 0, 0⟩).2 = Sx.eat (Sx.dpreT ++ R) [59] (Sx.X (Sx.dpreT ++ R) 0 Sx.s7).2 := by
    rw [Sx.St_eq hL (σ := ⟨5, 1, 0, 0⟩) (by show 5 < _; omega) rfl]
    have a1 : Sx.sees (Sx.dpreT ++ R) Sx.wLet ⟨5, 1, 0, 0⟩ = false := rfl
    have a2 : Sx.sees (Sx.dpreT ++ R) Sx.wVar ⟨5, 1, 0, 0⟩ = false := rfl
    have a3 : Sx.sees (Sx.dpreT ++ R) Sx.wIf ⟨5, 1, 0, 0⟩ = false := rfl
    have a4 : Sx.sees (Sx.dpreT ++ R) Sx.wFor ⟨5, 1, 0, 0⟩ = false := rfl
    have a5 : Sx.sees (Sx.dpreT ++ R) Sx.wRet ⟨5, 1, 0, 0⟩ = false := rfl
    have hst : Sx.stm (Sx.dpreT ++ R) ⟨5, 1, 0, 0⟩ = Sx.named (Sx.dpreT ++ R) 0 ⟨5, 1, 0, 0⟩ := by
      unfold Sx.stm
      simp only []
      rw [if_neg (by rw [a1]; decide), if_neg (by rw [a2]; decide), if_neg (by rw [a3]; decide), if_neg (by rw [a4]; decide), if_neg (by rw [a5]; decide)]
    rw [hst]
    have b1 : Sx.some (Sx.dpreT ++ R) 1 ⟨5, 1, 0, 0⟩ = (⟨1, 9, 0, [120]⟩, ⟨6, 1, 0, 0⟩) := rfl
    have b2 : Sx.sees (Sx.dpreT ++ R) [40] ⟨6, 1, 0, 0⟩ = false := rfl
    have b3 : Sx.sees (Sx.dpreT ++ R) [91] ⟨6, 1, 0, 0⟩ = false := rfl
    have b4 : Sx.eat (Sx.dpreT ++ R) [61] ⟨6, 1, 0, 0⟩ = Sx.s7 := rfl
    unfold Sx.named
    simp only [b1]
    rw [if_neg (by rw [b2]; decide), if_neg (by rw [b3]; decide), b4]
    rfl
  simp only []
  rw [hf, Sx.Bl_eq hL (σ := ⟨4, 0, 0, 0⟩) (by show 4 < _; omega), e7]
  simp only []
  rw [Sx.Ss_go hL (σ := ⟨5, 1, 0, 0⟩) (by show 5 < _; omega) rfl e8, hs]
theorem Sx.frame_good (hL : Sx.Ends (Sx.dpreT ++ R)) (e : Nat) (hU : (Sx.U (Sx.dpreT ++ R) Sx.s7).2 = { Sx.s7 with at' := e }) (h1 : Sx.isS (Sx.dpreT ++ R) e 59) (h2 : Sx.isS (Sx.dpreT ++ R) (e + 1) 125) (he : 7 < (Sx.dpreT ++ R).length) (h3 : ∃ p, (Sx.dpreT ++ R)[e + 2]? = .some ⟨0, p, 0, []⟩) :
    (Sx.Fs (Sx.dpreT ++ R) Sx.start).2.err = 0 := by
  have h7 : Sx.s7.at' < (Sx.dpreT ++ R).length := he
  rw [Sx.frame R hL he, Sx.X_off hL h7 (Or.inr (by rw [hU]; exact ⟨59, h1, Or.inr (Or.inr rfl)⟩)), hU]
  have q1 := Sx.isS.eat (σ := { Sx.s7 with at' := e }) h1 rfl
  rw [q1]
  have h2' : Sx.isS (Sx.dpreT ++ R) ({ Sx.s7 with at' := e + 1 } : Sx.R).at' 125 := h2
  rw [Sx.Ss_stop hL (σ := { Sx.s7 with at' := e + 1 }) h2'.lt (Or.inr (by rw [h2'.sees rfl]; rfl))]
  simp only []
  have q2 := Sx.isS.unnest (σ := { Sx.s7 with at' := e + 1 }) h2' rfl
  rw [q2]
  obtain ⟨p, hp⟩ := h3
  have h4 : ({ Sx.s7 with at' := e + 1 + 1, opn := Sx.s7.opn - 1 } : Sx.R).at' < (Sx.dpreT ++ R).length := (List.getElem?_eq_some_iff.1 hp).1
  rw [Sx.Fs_stop hL h4 (Or.inr (by rw [Sx.tk_of (σ := { Sx.s7 with at' := e + 1 + 1, opn := Sx.s7.opn - 1 }) hp]))]
  rfl
theorem Sx.frame_bad (hL : Sx.Ends (Sx.dpreT ++ R)) (q : Int) (hU : (Sx.U (Sx.dpreT ++ R) Sx.s7).2.err = 11 ∧ (Sx.U (Sx.dpreT ++ R) Sx.s7).2.pos = q) (he : 7 < (Sx.dpreT ++ R).length) :
    (Sx.Fs (Sx.dpreT ++ R) Sx.start).2.err = 11 ∧ (Sx.Fs (Sx.dpreT ++ R) Sx.start).2.pos = q := by
  have h7 : Sx.s7.at' < (Sx.dpreT ++ R).length := he
  have hne : (Sx.U (Sx.dpreT ++ R) Sx.s7).2.err ≠ 0 := by rw [hU.1]; decide
  have hin := Sx.U_in hL h7
  rw [Sx.frame R hL he, Sx.X_off hL h7 (Or.inl hne)]
  generalize (Sx.U (Sx.dpreT ++ R) Sx.s7).2 = r at hU hne hin ⊢
  rw [Sx.eat_no hne, Sx.Ss_stop hL hin (Or.inl hne)]
  simp only []
  rw [Sx.unnest_no hne, Sx.Fs_stop hL (σ := { r with opn := r.opn - 1 }) hin (Or.inl hne)]
  exact hU
end
end Go.Proofs.YtpgjhgfneieeiaaDoor
