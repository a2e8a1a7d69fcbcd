/-
  Plain mathematics for SyntaxDeep: so many parentheses, signs, indexes or calls, as a program or as an error.
-/
import Derived.Test.YtpgjhgfneieeiaaDoorSzR
set_option linter.unusedVariables false
set_option linter.unusedSimpArgs false
namespace Go.Proofs.YtpgjhgfneieeiaaDoor
def Sx.dT (op cl : List UInt8) (n : Nat) : List UInt8 := Sx.dpre ++ (Sx.rep op n ++ (49 :: (Sx.rep cl n ++ [59, 32, 125])))
theorem Sx.rep_nil (n : Nat) : Sx.rep [] n = [] := by
  induction n with
  | zero => rfl
  | succ n ih => rw [Sx.rep, ih]; rfl
theorem Lx.lex_of {s : List UInt8} {ts : List Lx.Tok} (h : Lx.Tks 0 s ts) (hs : s.length ≤ 65536) : Lx.lex s = .ok (ts ++ [⟨0, s.length, 0, []⟩]) := by
  unfold Lx.lex
  rw [if_neg (by omega), h _ (by omega)]
theorem Lx.Tks.num' {p : Nat} {r : List UInt8} {ts : List Lx.Tok} (hr : ∃ d r', r = d :: r' ∧ Lx.wordy d = false) (h : Lx.Tks (p + 1) r ts) : Lx.Tks p (49 :: r) (⟨2, p, 1, []⟩ :: ts) := by
  obtain ⟨d, r', rfl, hd⟩ := hr
  exact Lx.Tks.num1 hd h
theorem Sx.rep_head {c : UInt8} (hc : Lx.wordy c = false) (n : Nat) : ∃ d r', Sx.rep [c] n ++ [59, 32, 125] = d :: r' ∧ Lx.wordy d = false := by
  cases n with
  | zero => exact ⟨59, _, rfl, by decide⟩
  | succ n => exact ⟨c, _, rfl, hc⟩
section
variable (O C : List Lx.Tok) (D P0 P1 E : Lx.Tok)
def Sx.lay : List Lx.Tok := (O ++ (D :: (C ++ [P0, P1]))) ++ [E]
theorem Sx.lay_at (j : Nat) : (Sx.dpreT ++ Sx.lay O C D P0 P1 E)[7 + j]? = (Sx.lay O C D P0 P1 E)[j]? := by
  rw [List.getElem?_append_right (Nat.le_add_right 7 j)]
  congr 1
  show 7 + j - 7 = j
  omega
theorem Sx.lay_O {j : Nat} (h : j < O.length) : (Sx.dpreT ++ Sx.lay O C D P0 P1 E)[7 + j]? = O[j]? := by
  rw [Sx.lay_at]
  unfold Sx.lay
  rw [List.getElem?_append_left (by simp; omega), List.getElem?_append_left h]
theorem Sx.lay_D : (Sx.dpreT ++ Sx.lay O C D P0 P1 E)[7 + O.length]? = .some D := by
  rw [Sx.lay_at]
  unfold Sx.lay
  rw [List.getElem?_append_left (by simp), List.getElem?_append_right (Nat.le_refl _), Nat.sub_self]
  rfl
theorem Sx.lay_C {j : Nat} (h : j < C.length) : (Sx.dpreT ++ Sx.lay O C D P0 P1 E)[7 + O.length + 1 + j]? = C[j]? := by
  rw [show 7 + O.length + 1 + j = 7 + (O.length + 1 + j) by omega, Sx.lay_at]
  unfold Sx.lay
  rw [List.getElem?_append_left (by simp; omega), List.getElem?_append_right (by omega), show O.length + 1 + j - O.length = j + 1 by omega, List.getElem?_cons_succ, List.getElem?_append_left h]
theorem Sx.lay_P (j : Nat) : (Sx.dpreT ++ Sx.lay O C D P0 P1 E)[7 + O.length + 1 + C.length + j]? = [P0, P1, E][j]? := by
  rw [show 7 + O.length + 1 + C.length + j = 7 + (O.length + 1 + C.length + j) by omega, Sx.lay_at]
  have h : Sx.lay O C D P0 P1 E = O ++ (D :: (C ++ [P0, P1, E])) := by unfold Sx.lay; simp
  rw [h, List.getElem?_append_right (by omega), show O.length + 1 + C.length + j - O.length = (C.length + j) + 1 by omega, List.getElem?_cons_succ, List.getElem?_append_right (by omega), show C.length + j - C.length = j by omega]
theorem Sx.lay_len : 7 < (Sx.dpreT ++ Sx.lay O C D P0 P1 E).length := by
  unfold Sx.lay Sx.dpreT
  simp
  omega
end
theorem Sx.parse_lexed {s : List UInt8} {R : List Lx.Tok} (h : Lx.lex s = .ok (Sx.dpreT ++ R)) : Sx.parse s = if (Sx.Fs (Sx.dpreT ++ R) Sx.start).2.err = 0 then .ok (Sx.Fs (Sx.dpreT ++ R) Sx.start).1 else .error ((Sx.Fs (Sx.dpreT ++ R) Sx.start).2.err, (Sx.Fs (Sx.dpreT ++ R) Sx.start).2.pos) := by
  unfold Sx.parse
  rw [h]
  rfl
theorem Sx.dT_len (op cl : List UInt8) (n : Nat) : (Sx.dT op cl n).length = 13 + n * op.length + 1 + n * cl.length + 3 := by
  unfold Sx.dT Sx.dpre
  simp only [List.length_append, List.length_cons, List.length_nil, Sx.rep_len]
  omega
theorem Sx.lexd0 (n : Nat) (hn : n ≤ 200) : Lx.lex (Sx.dT [40] [41] n) = .ok (Sx.dpreT ++ Sx.lay (Sx.sg 40 13 n) (Sx.sg 41 (13 + n + 1) n) ⟨2, 13 + n, 1, []⟩ ⟨4, 13 + n + 1 + n, 0, [59]⟩ ⟨4, 13 + n + 1 + n + 2, 0, [125]⟩ ⟨0, (Sx.dT [40] [41] n).length, 0, []⟩) := by
  have h : Lx.Tks 0 (Sx.dT [40] [41] n) (Sx.dpreT ++ (Sx.sg 40 13 n ++ (⟨2, 13 + n, 1, []⟩ :: (Sx.sg 41 (13 + n + 1) n ++ [⟨4, 13 + n + 1 + n, 0, [59]⟩, ⟨4, 13 + n + 1 + n + 2, 0, [125]⟩])))) :=
    Lx.Tks.pre (Lx.Tks.signs (by decide) (by decide) n 13 (Lx.Tks.num' (Sx.rep_head (by decide) n) (Lx.Tks.signs (by decide) (by decide) n _ (Lx.Tks.post _))))
  rw [Lx.lex_of h (by rw [Sx.dT_len]; simp; omega), List.append_assoc]
  rfl
theorem Sx.facts0 (n : Nat) : let L := Sx.dpreT ++ Sx.lay (Sx.sg 40 13 n) (Sx.sg 41 (13 + n + 1) n) ⟨2, 13 + n, 1, []⟩ ⟨4, 13 + n + 1 + n, 0, [59]⟩ ⟨4, 13 + n + 1 + n + 2, 0, [125]⟩ ⟨0, (Sx.dT [40] [41] n).length, 0, []⟩; (∀ j, j < n → Sx.isS L (7 + j) 40) ∧ Sx.isD L (7 + n) ∧ (∀ j, j < n → Sx.isS L (7 + n + 1 + j) 41) ∧ (∀ j, [(⟨4, 13 + n + 1 + n, 0, [59]⟩ : Lx.Tok), ⟨4, 13 + n + 1 + n + 2, 0, [125]⟩, ⟨0, (Sx.dT [40] [41] n).length, 0, []⟩][j]? = L[7 + n + 1 + n + j]?) := by
  intro L
  have hO : (Sx.sg 40 13 n).length = n := Sx.sg_len _ _ _
  have hC : (Sx.sg 41 (13 + n + 1) n).length = n := Sx.sg_len _ _ _
  refine ⟨fun j hj => ?_, ?_, fun j hj => ?_, fun j => ?_⟩
  · exact ⟨13 + j, (Sx.lay_O _ _ _ _ _ _ (by omega)).trans (Sx.sg_get _ _ _ _ hj)⟩
  · have := Sx.lay_D (Sx.sg 40 13 n) (Sx.sg 41 (13 + n + 1) n) ⟨2, 13 + n, 1, []⟩ ⟨4, 13 + n + 1 + n, 0, [59]⟩ ⟨4, 13 + n + 1 + n + 2, 0, [125]⟩ ⟨0, (Sx.dT [40] [41] n).length, 0, []⟩
    rw [hO] at this
    exact ⟨_, this⟩
  · have := Sx.lay_C (Sx.sg 40 13 n) (Sx.sg 41 (13 + n + 1) n) ⟨2, 13 + n, 1, []⟩ ⟨4, 13 + n + 1 + n, 0, [59]⟩ ⟨4, 13 + n + 1 + n + 2, 0, [125]⟩ ⟨0, (Sx.dT [40] [41] n).length, 0, []⟩ (j := j) (by omega)
    rw [hO] at this
    exact ⟨_, this.trans (Sx.sg_get _ _ _ _ hj)⟩
  · have := Sx.lay_P (Sx.sg 40 13 n) (Sx.sg 41 (13 + n + 1) n) ⟨2, 13 + n, 1, []⟩ ⟨4, 13 + n + 1 + n, 0, [59]⟩ ⟨4, 13 + n + 1 + n + 2, 0, [125]⟩ ⟨0, (Sx.dT [40] [41] n).length, 0, []⟩ j
    rw [hO, hC] at this
    exact this.symm
theorem Sx.good0 (n : Nat) (hn : 1 + n ≤ 64) : ∃ fs, Sx.parse (Sx.dT [40] [41] n) = .ok fs := by
  have hlx := Sx.lexd0 n (by omega)
  have hE := (Sx.ends_lex hlx).1
  obtain ⟨f1, f2, f3, f4⟩ := Sx.facts0 n
  have p0 : Sx.isS (Sx.dpreT ++ Sx.lay (Sx.sg 40 13 n) (Sx.sg 41 (13 + n + 1) n) ⟨2, 13 + n, 1, []⟩ ⟨4, 13 + n + 1 + n, 0, [59]⟩ ⟨4, 13 + n + 1 + n + 2, 0, [125]⟩ ⟨0, (Sx.dT [40] [41] n).length, 0, []⟩) (7 + n + 1 + n) 59 := ⟨_, (f4 0).symm⟩
  have p1 : Sx.isS (Sx.dpreT ++ Sx.lay (Sx.sg 40 13 n) (Sx.sg 41 (13 + n + 1) n) ⟨2, 13 + n, 1, []⟩ ⟨4, 13 + n + 1 + n, 0, [59]⟩ ⟨4, 13 + n + 1 + n + 2, 0, [125]⟩ ⟨0, (Sx.dT [40] [41] n).length, 0, []⟩) (7 + n + 1 + n + 1) 125 := ⟨_, (f4 1).symm⟩
  have p2 : ∃ p, (Sx.dpreT ++ Sx.lay (Sx.sg 40 13 n) (Sx.sg 41 (13 + n + 1) n) ⟨2, 13 + n, 1, []⟩ ⟨4, 13 + n + 1 + n, 0, [59]⟩ ⟨4, 13 + n + 1 + n + 2, 0, [125]⟩ ⟨0, (Sx.dT [40] [41] n).length, 0, []⟩)[7 + n + 1 + n + 2]? = .some ⟨0, p, 0, []⟩ := ⟨_, (f4 2).symm⟩
  have hU := Sx.deep0 hE n Sx.s7 rfl (by show (1 : Int) + (n : Int) ≤ 64; omega) f1 f2 f3 ⟨59, by rw [show Sx.s7.at' + 2 * n + 1 = 7 + n + 1 + n by have : Sx.s7.at' = 7 := rfl; omega]; exact p0, Or.inr (Or.inr rfl)⟩
  rw [show (7 + n + 1 + n : Nat) = Sx.s7.at' + 2 * n + 1 by have : Sx.s7.at' = 7 := rfl; omega] at p0 p1 p2
  rw [Sx.parse_lexed hlx, if_pos (Sx.frame_good _ hE _ hU p0 p1 (Sx.lay_len _ _ _ _ _ _) p2)]
  exact ⟨_, rfl⟩
theorem Sx.bad0 (n : Nat) (hb : ¬ 1 + n ≤ 64) (hn : n ≤ 200) : Sx.parse (Sx.dT [40] [41] n) = .error (11, 76) := by
  have hlx := Sx.lexd0 n hn
  have hE := (Sx.ends_lex hlx).1
  obtain ⟨f1, f2, f3, f4⟩ := Sx.facts0 n
  have hU := Sx.deep0_bad hE 63 Sx.s7 rfl (by decide) (fun j hj => f1 j (by omega))
  have htk : (Sx.dpreT ++ Sx.lay (Sx.sg 40 13 n) (Sx.sg 41 (13 + n + 1) n) ⟨2, 13 + n, 1, []⟩ ⟨4, 13 + n + 1 + n, 0, [59]⟩ ⟨4, 13 + n + 1 + n + 2, 0, [125]⟩ ⟨0, (Sx.dT [40] [41] n).length, 0, []⟩)[7 + (63)]? = .some ⟨4, 76, 0, [40]⟩ := by
    rw [Sx.lay_O _ _ _ _ _ _ (by rw [Sx.sg_len]; omega)]
    exact Sx.sg_get _ _ _ 63 (by omega)
  have ht : (Sx.tk (Sx.dpreT ++ Sx.lay (Sx.sg 40 13 n) (Sx.sg 41 (13 + n + 1) n) ⟨2, 13 + n, 1, []⟩ ⟨4, 13 + n + 1 + n, 0, [59]⟩ ⟨4, 13 + n + 1 + n + 2, 0, [125]⟩ ⟨0, (Sx.dT [40] [41] n).length, 0, []⟩) { Sx.s7 with at' := Sx.s7.at' + 63 }).pos = 76 := by rw [Sx.tk_of (σ := { Sx.s7 with at' := Sx.s7.at' + 63 }) htk]
  rw [ht] at hU
  have hF := Sx.frame_bad _ hE 76 ⟨hU.1, by rw [hU.2]; rfl⟩ (Sx.lay_len _ _ _ _ _ _)
  rw [Sx.parse_lexed hlx, if_neg (by rw [hF.1]; decide), hF.1, hF.2]
theorem Sx.lexd1 (n : Nat) (hn : n ≤ 200) : Lx.lex (Sx.dT [45] [] n) = .ok (Sx.dpreT ++ Sx.lay (Sx.sg 45 13 n) ([]) ⟨2, 13 + n, 1, []⟩ ⟨4, 13 + n + 1, 0, [59]⟩ ⟨4, 13 + n + 1 + 2, 0, [125]⟩ ⟨0, (Sx.dT [45] [] n).length, 0, []⟩) := by
  have h : Lx.Tks 0 (Sx.dT [45] [] n) (Sx.dpreT ++ (Sx.sg 45 13 n ++ (⟨2, 13 + n, 1, []⟩ :: ([] ++ [⟨4, 13 + n + 1, 0, [59]⟩, ⟨4, 13 + n + 1 + 2, 0, [125]⟩])))) := by
    unfold Sx.dT
    rw [Sx.rep_nil]
    exact Lx.Tks.pre (Lx.Tks.signs (by decide) (by decide) n 13 (Lx.Tks.num' ⟨59, _, rfl, by decide⟩ (Lx.Tks.post _)))
  rw [Lx.lex_of h (by rw [Sx.dT_len]; simp; omega), List.append_assoc]
  rfl
theorem Sx.facts1 (n : Nat) : let L := Sx.dpreT ++ Sx.lay (Sx.sg 45 13 n) ([]) ⟨2, 13 + n, 1, []⟩ ⟨4, 13 + n + 1, 0, [59]⟩ ⟨4, 13 + n + 1 + 2, 0, [125]⟩ ⟨0, (Sx.dT [45] [] n).length, 0, []⟩; (∀ j, j < n → Sx.isS L (7 + j) 45) ∧ Sx.isD L (7 + n) ∧ (∀ j, [(⟨4, 13 + n + 1, 0, [59]⟩ : Lx.Tok), ⟨4, 13 + n + 1 + 2, 0, [125]⟩, ⟨0, (Sx.dT [45] [] n).length, 0, []⟩][j]? = L[7 + n + 1 + 0 + j]?) := by
  intro L
  have hO : (Sx.sg 45 13 n).length = n := Sx.sg_len _ _ _
  refine ⟨fun j hj => ?_, ?_, fun j => ?_⟩
  · exact ⟨13 + j, (Sx.lay_O _ _ _ _ _ _ (by omega)).trans (Sx.sg_get _ _ _ _ hj)⟩
  · have := Sx.lay_D (Sx.sg 45 13 n) ([]) ⟨2, 13 + n, 1, []⟩ ⟨4, 13 + n + 1, 0, [59]⟩ ⟨4, 13 + n + 1 + 2, 0, [125]⟩ ⟨0, (Sx.dT [45] [] n).length, 0, []⟩
    rw [hO] at this
    exact ⟨_, this⟩
  · have := Sx.lay_P (Sx.sg 45 13 n) ([]) ⟨2, 13 + n, 1, []⟩ ⟨4, 13 + n + 1, 0, [59]⟩ ⟨4, 13 + n + 1 + 2, 0, [125]⟩ ⟨0, (Sx.dT [45] [] n).length, 0, []⟩ j
    rw [hO] at this
    exact this.symm
theorem Sx.good1 (n : Nat) (hn : 1 + n ≤ 64) : ∃ fs, Sx.parse (Sx.dT [45] [] n) = .ok fs := by
  have hlx := Sx.lexd1 n (by omega)
  have hE := (Sx.ends_lex hlx).1
  obtain ⟨f1, f2, f4⟩ := Sx.facts1 n
  have p0 : Sx.isS (Sx.dpreT ++ Sx.lay (Sx.sg 45 13 n) ([]) ⟨2, 13 + n, 1, []⟩ ⟨4, 13 + n + 1, 0, [59]⟩ ⟨4, 13 + n + 1 + 2, 0, [125]⟩ ⟨0, (Sx.dT [45] [] n).length, 0, []⟩) (7 + n + 1 + 0) 59 := ⟨_, (f4 0).symm⟩
  have p1 : Sx.isS (Sx.dpreT ++ Sx.lay (Sx.sg 45 13 n) ([]) ⟨2, 13 + n, 1, []⟩ ⟨4, 13 + n + 1, 0, [59]⟩ ⟨4, 13 + n + 1 + 2, 0, [125]⟩ ⟨0, (Sx.dT [45] [] n).length, 0, []⟩) (7 + n + 1 + 0 + 1) 125 := ⟨_, (f4 1).symm⟩
  have p2 : ∃ p, (Sx.dpreT ++ Sx.lay (Sx.sg 45 13 n) ([]) ⟨2, 13 + n, 1, []⟩ ⟨4, 13 + n + 1, 0, [59]⟩ ⟨4, 13 + n + 1 + 2, 0, [125]⟩ ⟨0, (Sx.dT [45] [] n).length, 0, []⟩)[7 + n + 1 + 0 + 2]? = .some ⟨0, p, 0, []⟩ := ⟨_, (f4 2).symm⟩
  have hU := Sx.deep1 hE n Sx.s7 rfl (by show (1 : Int) + (n : Int) ≤ 64; omega) f1 f2
  rw [show (7 + n + 1 + 0 : Nat) = Sx.s7.at' + n + 1 by have : Sx.s7.at' = 7 := rfl; omega] at p0 p1 p2
  rw [Sx.parse_lexed hlx, if_pos (Sx.frame_good _ hE _ hU p0 p1 (Sx.lay_len _ _ _ _ _ _) p2)]
  exact ⟨_, rfl⟩
theorem Sx.bad1 (n : Nat) (hb : ¬ 1 + n ≤ 64) (hn : n ≤ 200) : Sx.parse (Sx.dT [45] [] n) = .error (11, 76) := by
  have hlx := Sx.lexd1 n hn
  have hE := (Sx.ends_lex hlx).1
  obtain ⟨f1, f2, f4⟩ := Sx.facts1 n
  have hU := Sx.deep1_bad hE 63 Sx.s7 rfl (by decide) (fun j hj => f1 j (by omega))
  have htk : (Sx.dpreT ++ Sx.lay (Sx.sg 45 13 n) ([]) ⟨2, 13 + n, 1, []⟩ ⟨4, 13 + n + 1, 0, [59]⟩ ⟨4, 13 + n + 1 + 2, 0, [125]⟩ ⟨0, (Sx.dT [45] [] n).length, 0, []⟩)[7 + (63)]? = .some ⟨4, 76, 0, [45]⟩ := by
    rw [Sx.lay_O _ _ _ _ _ _ (by rw [Sx.sg_len]; omega)]
    exact Sx.sg_get _ _ _ 63 (by omega)
  have ht : (Sx.tk (Sx.dpreT ++ Sx.lay (Sx.sg 45 13 n) ([]) ⟨2, 13 + n, 1, []⟩ ⟨4, 13 + n + 1, 0, [59]⟩ ⟨4, 13 + n + 1 + 2, 0, [125]⟩ ⟨0, (Sx.dT [45] [] n).length, 0, []⟩) { Sx.s7 with at' := Sx.s7.at' + 63 }).pos = 76 := by rw [Sx.tk_of (σ := { Sx.s7 with at' := Sx.s7.at' + 63 }) htk]
  rw [ht] at hU
  have hF := Sx.frame_bad _ hE 76 ⟨hU.1, by rw [hU.2]; rfl⟩ (Sx.lay_len _ _ _ _ _ _)
  rw [Sx.parse_lexed hlx, if_neg (by rw [hF.1]; decide), hF.1, hF.2]
theorem Sx.lexd2 (n : Nat) (hn : n ≤ 200) : Lx.lex (Sx.dT [98, 91] [93] n) = .ok (Sx.dpreT ++ Sx.lay (Sx.pp 1 98 91 13 n) (Sx.sg 93 (13 + 2 * n + 1) n) ⟨2, 13 + 2 * n, 1, []⟩ ⟨4, 13 + 2 * n + 1 + n, 0, [59]⟩ ⟨4, 13 + 2 * n + 1 + n + 2, 0, [125]⟩ ⟨0, (Sx.dT [98, 91] [93] n).length, 0, []⟩) := by
  have h : Lx.Tks 0 (Sx.dT [98, 91] [93] n) (Sx.dpreT ++ (Sx.pp 1 98 91 13 n ++ (⟨2, 13 + 2 * n, 1, []⟩ :: (Sx.sg 93 (13 + 2 * n + 1) n ++ [⟨4, 13 + 2 * n + 1 + n, 0, [59]⟩, ⟨4, 13 + 2 * n + 1 + n + 2, 0, [125]⟩])))) :=
    Lx.Tks.pre (Lx.Tks.names (by decide) (by decide) (by decide) (by decide) (by decide) n 13 (Lx.Tks.num' (Sx.rep_head (by decide) n) (Lx.Tks.signs (by decide) (by decide) n _ (Lx.Tks.post _))))
  rw [Lx.lex_of h (by rw [Sx.dT_len]; simp; omega), List.append_assoc]
  rfl
theorem Sx.facts2 (n : Nat) : let L := Sx.dpreT ++ Sx.lay (Sx.pp 1 98 91 13 n) (Sx.sg 93 (13 + 2 * n + 1) n) ⟨2, 13 + 2 * n, 1, []⟩ ⟨4, 13 + 2 * n + 1 + n, 0, [59]⟩ ⟨4, 13 + 2 * n + 1 + n + 2, 0, [125]⟩ ⟨0, (Sx.dT [98, 91] [93] n).length, 0, []⟩; (∀ j, j < n → Sx.isN L (7 + 2 * j) 98 ∧ Sx.isS L (7 + 2 * j + 1) 91) ∧ Sx.isD L (7 + 2 * n) ∧ (∀ j, j < n → Sx.isS L (7 + 2 * n + 1 + j) 93) ∧ (∀ j, [(⟨4, 13 + 2 * n + 1 + n, 0, [59]⟩ : Lx.Tok), ⟨4, 13 + 2 * n + 1 + n + 2, 0, [125]⟩, ⟨0, (Sx.dT [98, 91] [93] n).length, 0, []⟩][j]? = L[7 + 2 * n + 1 + n + j]?) := by
  intro L
  have hO : (Sx.pp 1 98 91 13 n).length = 2 * n := Sx.pp_len _ _ _ _ _
  have hC : (Sx.sg 93 (13 + 2 * n + 1) n).length = n := Sx.sg_len _ _ _
  refine ⟨fun j hj => ?_, ?_, fun j hj => ?_, fun j => ?_⟩
  · obtain ⟨h1, h2⟩ := Sx.pp_get 1 98 91 n 13 j hj
    exact ⟨⟨_, (Sx.lay_O _ _ _ _ _ _ (by omega)).trans h1⟩, ⟨_, (Sx.lay_O _ _ _ _ _ _ (j := 2 * j + 1) (by omega)).trans h2⟩⟩
  · have := Sx.lay_D (Sx.pp 1 98 91 13 n) (Sx.sg 93 (13 + 2 * n + 1) n) ⟨2, 13 + 2 * n, 1, []⟩ ⟨4, 13 + 2 * n + 1 + n, 0, [59]⟩ ⟨4, 13 + 2 * n + 1 + n + 2, 0, [125]⟩ ⟨0, (Sx.dT [98, 91] [93] n).length, 0, []⟩
    rw [hO] at this
    exact ⟨_, this⟩
  · have := Sx.lay_C (Sx.pp 1 98 91 13 n) (Sx.sg 93 (13 + 2 * n + 1) n) ⟨2, 13 + 2 * n, 1, []⟩ ⟨4, 13 + 2 * n + 1 + n, 0, [59]⟩ ⟨4, 13 + 2 * n + 1 + n + 2, 0, [125]⟩ ⟨0, (Sx.dT [98, 91] [93] n).length, 0, []⟩ (j := j) (by omega)
    rw [hO] at this
    exact ⟨_, this.trans (Sx.sg_get _ _ _ _ hj)⟩
  · have := Sx.lay_P (Sx.pp 1 98 91 13 n) (Sx.sg 93 (13 + 2 * n + 1) n) ⟨2, 13 + 2 * n, 1, []⟩ ⟨4, 13 + 2 * n + 1 + n, 0, [59]⟩ ⟨4, 13 + 2 * n + 1 + n + 2, 0, [125]⟩ ⟨0, (Sx.dT [98, 91] [93] n).length, 0, []⟩ j
    rw [hO, hC] at this
    exact this.symm
theorem Sx.good2 (n : Nat) (hn : 1 + n ≤ 64) : ∃ fs, Sx.parse (Sx.dT [98, 91] [93] n) = .ok fs := by
  have hlx := Sx.lexd2 n (by omega)
  have hE := (Sx.ends_lex hlx).1
  obtain ⟨f1, f2, f3, f4⟩ := Sx.facts2 n
  have p0 : Sx.isS (Sx.dpreT ++ Sx.lay (Sx.pp 1 98 91 13 n) (Sx.sg 93 (13 + 2 * n + 1) n) ⟨2, 13 + 2 * n, 1, []⟩ ⟨4, 13 + 2 * n + 1 + n, 0, [59]⟩ ⟨4, 13 + 2 * n + 1 + n + 2, 0, [125]⟩ ⟨0, (Sx.dT [98, 91] [93] n).length, 0, []⟩) (7 + 2 * n + 1 + n) 59 := ⟨_, (f4 0).symm⟩
  have p1 : Sx.isS (Sx.dpreT ++ Sx.lay (Sx.pp 1 98 91 13 n) (Sx.sg 93 (13 + 2 * n + 1) n) ⟨2, 13 + 2 * n, 1, []⟩ ⟨4, 13 + 2 * n + 1 + n, 0, [59]⟩ ⟨4, 13 + 2 * n + 1 + n + 2, 0, [125]⟩ ⟨0, (Sx.dT [98, 91] [93] n).length, 0, []⟩) (7 + 2 * n + 1 + n + 1) 125 := ⟨_, (f4 1).symm⟩
  have p2 : ∃ p, (Sx.dpreT ++ Sx.lay (Sx.pp 1 98 91 13 n) (Sx.sg 93 (13 + 2 * n + 1) n) ⟨2, 13 + 2 * n, 1, []⟩ ⟨4, 13 + 2 * n + 1 + n, 0, [59]⟩ ⟨4, 13 + 2 * n + 1 + n + 2, 0, [125]⟩ ⟨0, (Sx.dT [98, 91] [93] n).length, 0, []⟩)[7 + 2 * n + 1 + n + 2]? = .some ⟨0, p, 0, []⟩ := ⟨_, (f4 2).symm⟩
  have hU := Sx.deep2 hE n Sx.s7 rfl (by show (1 : Int) + (n : Int) ≤ 64; omega) f1 f2 f3 ⟨59, by rw [show Sx.s7.at' + 3 * n + 1 = 7 + 2 * n + 1 + n by have : Sx.s7.at' = 7 := rfl; omega]; exact p0, Or.inr (Or.inr rfl)⟩
  rw [show (7 + 2 * n + 1 + n : Nat) = Sx.s7.at' + 3 * n + 1 by have : Sx.s7.at' = 7 := rfl; omega] at p0 p1 p2
  rw [Sx.parse_lexed hlx, if_pos (Sx.frame_good _ hE _ hU p0 p1 (Sx.lay_len _ _ _ _ _ _) p2)]
  exact ⟨_, rfl⟩
theorem Sx.bad2 (n : Nat) (hb : ¬ 1 + n ≤ 64) (hn : n ≤ 200) : Sx.parse (Sx.dT [98, 91] [93] n) = .error (11, 140) := by
  have hlx := Sx.lexd2 n hn
  have hE := (Sx.ends_lex hlx).1
  obtain ⟨f1, f2, f3, f4⟩ := Sx.facts2 n
  have hU := Sx.deep2_bad hE 63 Sx.s7 rfl (by decide) (fun j hj => f1 j (by omega))
  have htk : (Sx.dpreT ++ Sx.lay (Sx.pp 1 98 91 13 n) (Sx.sg 93 (13 + 2 * n + 1) n) ⟨2, 13 + 2 * n, 1, []⟩ ⟨4, 13 + 2 * n + 1 + n, 0, [59]⟩ ⟨4, 13 + 2 * n + 1 + n + 2, 0, [125]⟩ ⟨0, (Sx.dT [98, 91] [93] n).length, 0, []⟩)[7 + (2 * 63 + 1)]? = .some ⟨4, 140, 0, [91]⟩ := by
    rw [Sx.lay_O _ _ _ _ _ _ (by rw [Sx.pp_len]; omega)]
    exact (Sx.pp_get _ _ _ n 13 63 (by omega)).2
  have ht : (Sx.tk (Sx.dpreT ++ Sx.lay (Sx.pp 1 98 91 13 n) (Sx.sg 93 (13 + 2 * n + 1) n) ⟨2, 13 + 2 * n, 1, []⟩ ⟨4, 13 + 2 * n + 1 + n, 0, [59]⟩ ⟨4, 13 + 2 * n + 1 + n + 2, 0, [125]⟩ ⟨0, (Sx.dT [98, 91] [93] n).length, 0, []⟩) { Sx.s7 with at' := Sx.s7.at' + 2 * 63 + 1 }).pos = 140 := by rw [Sx.tk_of (σ := { Sx.s7 with at' := Sx.s7.at' + 2 * 63 + 1 }) htk]
  rw [ht] at hU
  have hF := Sx.frame_bad _ hE 140 ⟨hU.1, by rw [hU.2]; rfl⟩ (Sx.lay_len _ _ _ _ _ _)
  rw [Sx.parse_lexed hlx, if_neg (by rw [hF.1]; decide), hF.1, hF.2]
theorem Sx.lexd3 (n : Nat) (hn : n ≤ 200) : Lx.lex (Sx.dT [126, 40] [41] n) = .ok (Sx.dpreT ++ Sx.lay (Sx.pp 4 126 40 13 n) (Sx.sg 41 (13 + 2 * n + 1) n) ⟨2, 13 + 2 * n, 1, []⟩ ⟨4, 13 + 2 * n + 1 + n, 0, [59]⟩ ⟨4, 13 + 2 * n + 1 + n + 2, 0, [125]⟩ ⟨0, (Sx.dT [126, 40] [41] n).length, 0, []⟩) := by
  have h : Lx.Tks 0 (Sx.dT [126, 40] [41] n) (Sx.dpreT ++ (Sx.pp 4 126 40 13 n ++ (⟨2, 13 + 2 * n, 1, []⟩ :: (Sx.sg 41 (13 + 2 * n + 1) n ++ [⟨4, 13 + 2 * n + 1 + n, 0, [59]⟩, ⟨4, 13 + 2 * n + 1 + n + 2, 0, [125]⟩])))) :=
    Lx.Tks.pre (Lx.Tks.signs2 (by decide) (by decide) (by decide) (by decide) n 13 (Lx.Tks.num' (Sx.rep_head (by decide) n) (Lx.Tks.signs (by decide) (by decide) n _ (Lx.Tks.post _))))
  rw [Lx.lex_of h (by rw [Sx.dT_len]; simp; omega), List.append_assoc]
  rfl
theorem Sx.facts3 (n : Nat) : let L := Sx.dpreT ++ Sx.lay (Sx.pp 4 126 40 13 n) (Sx.sg 41 (13 + 2 * n + 1) n) ⟨2, 13 + 2 * n, 1, []⟩ ⟨4, 13 + 2 * n + 1 + n, 0, [59]⟩ ⟨4, 13 + 2 * n + 1 + n + 2, 0, [125]⟩ ⟨0, (Sx.dT [126, 40] [41] n).length, 0, []⟩; (∀ j, j < n → Sx.isS L (7 + 2 * j) 126 ∧ Sx.isS L (7 + 2 * j + 1) 40) ∧ Sx.isD L (7 + 2 * n) ∧ (∀ j, j < n → Sx.isS L (7 + 2 * n + 1 + j) 41) ∧ (∀ j, [(⟨4, 13 + 2 * n + 1 + n, 0, [59]⟩ : Lx.Tok), ⟨4, 13 + 2 * n + 1 + n + 2, 0, [125]⟩, ⟨0, (Sx.dT [126, 40] [41] n).length, 0, []⟩][j]? = L[7 + 2 * n + 1 + n + j]?) := by
  intro L
  have hO : (Sx.pp 4 126 40 13 n).length = 2 * n := Sx.pp_len _ _ _ _ _
  have hC : (Sx.sg 41 (13 + 2 * n + 1) n).length = n := Sx.sg_len _ _ _
  refine ⟨fun j hj => ?_, ?_, fun j hj => ?_, fun j => ?_⟩
  · obtain ⟨h1, h2⟩ := Sx.pp_get 4 126 40 n 13 j hj
    exact ⟨⟨_, (Sx.lay_O _ _ _ _ _ _ (by omega)).trans h1⟩, ⟨_, (Sx.lay_O _ _ _ _ _ _ (j := 2 * j + 1) (by omega)).trans h2⟩⟩
  · have := Sx.lay_D (Sx.pp 4 126 40 13 n) (Sx.sg 41 (13 + 2 * n + 1) n) ⟨2, 13 + 2 * n, 1, []⟩ ⟨4, 13 + 2 * n + 1 + n, 0, [59]⟩ ⟨4, 13 + 2 * n + 1 + n + 2, 0, [125]⟩ ⟨0, (Sx.dT [126, 40] [41] n).length, 0, []⟩
    rw [hO] at this
    exact ⟨_, this⟩
  · have := Sx.lay_C (Sx.pp 4 126 40 13 n) (Sx.sg 41 (13 + 2 * n + 1) n) ⟨2, 13 + 2 * n, 1, []⟩ ⟨4, 13 + 2 * n + 1 + n, 0, [59]⟩ ⟨4, 13 + 2 * n + 1 + n + 2, 0, [125]⟩ ⟨0, (Sx.dT [126, 40] [41] n).length, 0, []⟩ (j := j) (by omega)
    rw [hO] at this
    exact ⟨_, this.trans (Sx.sg_get _ _ _ _ hj)⟩
  · have := Sx.lay_P (Sx.pp 4 126 40 13 n) (Sx.sg 41 (13 + 2 * n + 1) n) ⟨2, 13 + 2 * n, 1, []⟩ ⟨4, 13 + 2 * n + 1 + n, 0, [59]⟩ ⟨4, 13 + 2 * n + 1 + n + 2, 0, [125]⟩ ⟨0, (Sx.dT [126, 40] [41] n).length, 0, []⟩ j
    rw [hO, hC] at this
    exact this.symm
theorem Sx.good3 (n : Nat) (hn : 1 + 2 * n ≤ 64) : ∃ fs, Sx.parse (Sx.dT [126, 40] [41] n) = .ok fs := by
  have hlx := Sx.lexd3 n (by omega)
  have hE := (Sx.ends_lex hlx).1
  obtain ⟨f1, f2, f3, f4⟩ := Sx.facts3 n
  have p0 : Sx.isS (Sx.dpreT ++ Sx.lay (Sx.pp 4 126 40 13 n) (Sx.sg 41 (13 + 2 * n + 1) n) ⟨2, 13 + 2 * n, 1, []⟩ ⟨4, 13 + 2 * n + 1 + n, 0, [59]⟩ ⟨4, 13 + 2 * n + 1 + n + 2, 0, [125]⟩ ⟨0, (Sx.dT [126, 40] [41] n).length, 0, []⟩) (7 + 2 * n + 1 + n) 59 := ⟨_, (f4 0).symm⟩
  have p1 : Sx.isS (Sx.dpreT ++ Sx.lay (Sx.pp 4 126 40 13 n) (Sx.sg 41 (13 + 2 * n + 1) n) ⟨2, 13 + 2 * n, 1, []⟩ ⟨4, 13 + 2 * n + 1 + n, 0, [59]⟩ ⟨4, 13 + 2 * n + 1 + n + 2, 0, [125]⟩ ⟨0, (Sx.dT [126, 40] [41] n).length, 0, []⟩) (7 + 2 * n + 1 + n + 1) 125 := ⟨_, (f4 1).symm⟩
  have p2 : ∃ p, (Sx.dpreT ++ Sx.lay (Sx.pp 4 126 40 13 n) (Sx.sg 41 (13 + 2 * n + 1) n) ⟨2, 13 + 2 * n, 1, []⟩ ⟨4, 13 + 2 * n + 1 + n, 0, [59]⟩ ⟨4, 13 + 2 * n + 1 + n + 2, 0, [125]⟩ ⟨0, (Sx.dT [126, 40] [41] n).length, 0, []⟩)[7 + 2 * n + 1 + n + 2]? = .some ⟨0, p, 0, []⟩ := ⟨_, (f4 2).symm⟩
  have hU := Sx.deep3 hE n Sx.s7 rfl (by show (1 : Int) + 2 * (n : Int) ≤ 64; omega) f1 f2 f3 ⟨59, by rw [show Sx.s7.at' + 3 * n + 1 = 7 + 2 * n + 1 + n by have : Sx.s7.at' = 7 := rfl; omega]; exact p0, Or.inr (Or.inr rfl)⟩
  rw [show (7 + 2 * n + 1 + n : Nat) = Sx.s7.at' + 3 * n + 1 by have : Sx.s7.at' = 7 := rfl; omega] at p0 p1 p2
  rw [Sx.parse_lexed hlx, if_pos (Sx.frame_good _ hE _ hU p0 p1 (Sx.lay_len _ _ _ _ _ _) p2)]
  exact ⟨_, rfl⟩
theorem Sx.bad3 (n : Nat) (hb : ¬ 1 + 2 * n ≤ 64) (hn : n ≤ 200) : Sx.parse (Sx.dT [126, 40] [41] n) = .error (11, 76) := by
  have hlx := Sx.lexd3 n hn
  have hE := (Sx.ends_lex hlx).1
  obtain ⟨f1, f2, f3, f4⟩ := Sx.facts3 n
  have hU := Sx.deep3_bad hE 31 Sx.s7 rfl (by decide) (fun j hj => f1 j (by omega))
  have htk : (Sx.dpreT ++ Sx.lay (Sx.pp 4 126 40 13 n) (Sx.sg 41 (13 + 2 * n + 1) n) ⟨2, 13 + 2 * n, 1, []⟩ ⟨4, 13 + 2 * n + 1 + n, 0, [59]⟩ ⟨4, 13 + 2 * n + 1 + n + 2, 0, [125]⟩ ⟨0, (Sx.dT [126, 40] [41] n).length, 0, []⟩)[7 + (2 * 31 + 1)]? = .some ⟨4, 76, 0, [40]⟩ := by
    rw [Sx.lay_O _ _ _ _ _ _ (by rw [Sx.pp_len]; omega)]
    exact (Sx.pp_get _ _ _ n 13 31 (by omega)).2
  have ht : (Sx.tk (Sx.dpreT ++ Sx.lay (Sx.pp 4 126 40 13 n) (Sx.sg 41 (13 + 2 * n + 1) n) ⟨2, 13 + 2 * n, 1, []⟩ ⟨4, 13 + 2 * n + 1 + n, 0, [59]⟩ ⟨4, 13 + 2 * n + 1 + n + 2, 0, [125]⟩ ⟨0, (Sx.dT [126, 40] [41] n).length, 0, []⟩) { Sx.s7 with at' := Sx.s7.at' + 2 * 31 + 1 }).pos = 76 := by rw [Sx.tk_of (σ := { Sx.s7 with at' := Sx.s7.at' + 2 * 31 + 1 }) htk]
  rw [ht] at hU
  have hF := Sx.frame_bad _ hE 76 ⟨hU.1, by rw [hU.2]; rfl⟩ (Sx.lay_len _ _ _ _ _ _)
  rw [Sx.parse_lexed hlx, if_neg (by rw [hF.1]; decide), hF.1, hF.2]
theorem Sx.lexd4 (n : Nat) (hn : n ≤ 200) : Lx.lex (Sx.dT [102, 40] [41] n) = .ok (Sx.dpreT ++ Sx.lay (Sx.pp 1 102 40 13 n) (Sx.sg 41 (13 + 2 * n + 1) n) ⟨2, 13 + 2 * n, 1, []⟩ ⟨4, 13 + 2 * n + 1 + n, 0, [59]⟩ ⟨4, 13 + 2 * n + 1 + n + 2, 0, [125]⟩ ⟨0, (Sx.dT [102, 40] [41] n).length, 0, []⟩) := by
  have h : Lx.Tks 0 (Sx.dT [102, 40] [41] n) (Sx.dpreT ++ (Sx.pp 1 102 40 13 n ++ (⟨2, 13 + 2 * n, 1, []⟩ :: (Sx.sg 41 (13 + 2 * n + 1) n ++ [⟨4, 13 + 2 * n + 1 + n, 0, [59]⟩, ⟨4, 13 + 2 * n + 1 + n + 2, 0, [125]⟩])))) :=
    Lx.Tks.pre (Lx.Tks.names (by decide) (by decide) (by decide) (by decide) (by decide) n 13 (Lx.Tks.num' (Sx.rep_head (by decide) n) (Lx.Tks.signs (by decide) (by decide) n _ (Lx.Tks.post _))))
  rw [Lx.lex_of h (by rw [Sx.dT_len]; simp; omega), List.append_assoc]
  rfl
theorem Sx.facts4 (n : Nat) : let L := Sx.dpreT ++ Sx.lay (Sx.pp 1 102 40 13 n) (Sx.sg 41 (13 + 2 * n + 1) n) ⟨2, 13 + 2 * n, 1, []⟩ ⟨4, 13 + 2 * n + 1 + n, 0, [59]⟩ ⟨4, 13 + 2 * n + 1 + n + 2, 0, [125]⟩ ⟨0, (Sx.dT [102, 40] [41] n).length, 0, []⟩; (∀ j, j < n → Sx.isN L (7 + 2 * j) 102 ∧ Sx.isS L (7 + 2 * j + 1) 40) ∧ Sx.isD L (7 + 2 * n) ∧ (∀ j, j < n → Sx.isS L (7 + 2 * n + 1 + j) 41) ∧ (∀ j, [(⟨4, 13 + 2 * n + 1 + n, 0, [59]⟩ : Lx.Tok), ⟨4, 13 + 2 * n + 1 + n + 2, 0, [125]⟩, ⟨0, (Sx.dT [102, 40] [41] n).length, 0, []⟩][j]? = L[7 + 2 * n + 1 + n + j]?) := by
  intro L
  have hO : (Sx.pp 1 102 40 13 n).length = 2 * n := Sx.pp_len _ _ _ _ _
  have hC : (Sx.sg 41 (13 + 2 * n + 1) n).length = n := Sx.sg_len _ _ _
  refine ⟨fun j hj => ?_, ?_, fun j hj => ?_, fun j => ?_⟩
  · obtain ⟨h1, h2⟩ := Sx.pp_get 1 102 40 n 13 j hj
    exact ⟨⟨_, (Sx.lay_O _ _ _ _ _ _ (by omega)).trans h1⟩, ⟨_, (Sx.lay_O _ _ _ _ _ _ (j := 2 * j + 1) (by omega)).trans h2⟩⟩
  · have := Sx.lay_D (Sx.pp 1 102 40 13 n) (Sx.sg 41 (13 + 2 * n + 1) n) ⟨2, 13 + 2 * n, 1, []⟩ ⟨4, 13 + 2 * n + 1 + n, 0, [59]⟩ ⟨4, 13 + 2 * n + 1 + n + 2, 0, [125]⟩ ⟨0, (Sx.dT [102, 40] [41] n).length, 0, []⟩
    rw [hO] at this
    exact ⟨_, this⟩
  · have := Sx.lay_C (Sx.pp 1 102 40 13 n) (Sx.sg 41 (13 + 2 * n + 1) n) ⟨2, 13 + 2 * n, 1, []⟩ ⟨4, 13 + 2 * n + 1 + n, 0, [59]⟩ ⟨4, 13 + 2 * n + 1 + n + 2, 0, [125]⟩ ⟨0, (Sx.dT [102, 40] [41] n).length, 0, []⟩ (j := j) (by omega)
    rw [hO] at this
    exact ⟨_, this.trans (Sx.sg_get _ _ _ _ hj)⟩
  · have := Sx.lay_P (Sx.pp 1 102 40 13 n) (Sx.sg 41 (13 + 2 * n + 1) n) ⟨2, 13 + 2 * n, 1, []⟩ ⟨4, 13 + 2 * n + 1 + n, 0, [59]⟩ ⟨4, 13 + 2 * n + 1 + n + 2, 0, [125]⟩ ⟨0, (Sx.dT [102, 40] [41] n).length, 0, []⟩ j
    rw [hO, hC] at this
    exact this.symm
theorem Sx.good4 (n : Nat) (hn : 1 + n ≤ 64) : ∃ fs, Sx.parse (Sx.dT [102, 40] [41] n) = .ok fs := by
  have hlx := Sx.lexd4 n (by omega)
  have hE := (Sx.ends_lex hlx).1
  obtain ⟨f1, f2, f3, f4⟩ := Sx.facts4 n
  have p0 : Sx.isS (Sx.dpreT ++ Sx.lay (Sx.pp 1 102 40 13 n) (Sx.sg 41 (13 + 2 * n + 1) n) ⟨2, 13 + 2 * n, 1, []⟩ ⟨4, 13 + 2 * n + 1 + n, 0, [59]⟩ ⟨4, 13 + 2 * n + 1 + n + 2, 0, [125]⟩ ⟨0, (Sx.dT [102, 40] [41] n).length, 0, []⟩) (7 + 2 * n + 1 + n) 59 := ⟨_, (f4 0).symm⟩
  have p1 : Sx.isS (Sx.dpreT ++ Sx.lay (Sx.pp 1 102 40 13 n) (Sx.sg 41 (13 + 2 * n + 1) n) ⟨2, 13 + 2 * n, 1, []⟩ ⟨4, 13 + 2 * n + 1 + n, 0, [59]⟩ ⟨4, 13 + 2 * n + 1 + n + 2, 0, [125]⟩ ⟨0, (Sx.dT [102, 40] [41] n).length, 0, []⟩) (7 + 2 * n + 1 + n + 1) 125 := ⟨_, (f4 1).symm⟩
  have p2 : ∃ p, (Sx.dpreT ++ Sx.lay (Sx.pp 1 102 40 13 n) (Sx.sg 41 (13 + 2 * n + 1) n) ⟨2, 13 + 2 * n, 1, []⟩ ⟨4, 13 + 2 * n + 1 + n, 0, [59]⟩ ⟨4, 13 + 2 * n + 1 + n + 2, 0, [125]⟩ ⟨0, (Sx.dT [102, 40] [41] n).length, 0, []⟩)[7 + 2 * n + 1 + n + 2]? = .some ⟨0, p, 0, []⟩ := ⟨_, (f4 2).symm⟩
  have hU := Sx.deep4 hE n Sx.s7 rfl (by show (1 : Int) + (n : Int) ≤ 64; omega) f1 f2 f3 ⟨59, by rw [show Sx.s7.at' + 3 * n + 1 = 7 + 2 * n + 1 + n by have : Sx.s7.at' = 7 := rfl; omega]; exact p0, Or.inr (Or.inr rfl)⟩
  rw [show (7 + 2 * n + 1 + n : Nat) = Sx.s7.at' + 3 * n + 1 by have : Sx.s7.at' = 7 := rfl; omega] at p0 p1 p2
  rw [Sx.parse_lexed hlx, if_pos (Sx.frame_good _ hE _ hU p0 p1 (Sx.lay_len _ _ _ _ _ _) p2)]
  exact ⟨_, rfl⟩
theorem Sx.bad4 (n : Nat) (hb : ¬ 1 + n ≤ 64) (hn : n ≤ 200) : Sx.parse (Sx.dT [102, 40] [41] n) = .error (11, 140) := by
  have hlx := Sx.lexd4 n hn
  have hE := (Sx.ends_lex hlx).1
  obtain ⟨f1, f2, f3, f4⟩ := Sx.facts4 n
  have hU := Sx.deep4_bad hE 63 Sx.s7 rfl (by decide) (fun j hj => f1 j (by omega))
  have htk : (Sx.dpreT ++ Sx.lay (Sx.pp 1 102 40 13 n) (Sx.sg 41 (13 + 2 * n + 1) n) ⟨2, 13 + 2 * n, 1, []⟩ ⟨4, 13 + 2 * n + 1 + n, 0, [59]⟩ ⟨4, 13 + 2 * n + 1 + n + 2, 0, [125]⟩ ⟨0, (Sx.dT [102, 40] [41] n).length, 0, []⟩)[7 + (2 * 63 + 1)]? = .some ⟨4, 140, 0, [40]⟩ := by
    rw [Sx.lay_O _ _ _ _ _ _ (by rw [Sx.pp_len]; omega)]
    exact (Sx.pp_get _ _ _ n 13 63 (by omega)).2
  have ht : (Sx.tk (Sx.dpreT ++ Sx.lay (Sx.pp 1 102 40 13 n) (Sx.sg 41 (13 + 2 * n + 1) n) ⟨2, 13 + 2 * n, 1, []⟩ ⟨4, 13 + 2 * n + 1 + n, 0, [59]⟩ ⟨4, 13 + 2 * n + 1 + n + 2, 0, [125]⟩ ⟨0, (Sx.dT [102, 40] [41] n).length, 0, []⟩) { Sx.s7 with at' := Sx.s7.at' + 2 * 63 + 1 }).pos = 140 := by rw [Sx.tk_of (σ := { Sx.s7 with at' := Sx.s7.at' + 2 * 63 + 1 }) htk]
  rw [ht] at hU
  have hF := Sx.frame_bad _ hE 140 ⟨hU.1, by rw [hU.2]; rfl⟩ (Sx.lay_len _ _ _ _ _ _)
  rw [Sx.parse_lexed hlx, if_neg (by rw [hF.1]; decide), hF.1, hF.2]
end Go.Proofs.YtpgjhgfneieeiaaDoor
