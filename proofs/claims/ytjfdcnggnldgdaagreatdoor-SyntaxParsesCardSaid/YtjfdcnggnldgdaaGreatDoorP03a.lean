/-
Plain mathematics of layer 12, second part: a reader goes on and never back, keeps its first error, and never passes the text's end.
What Go's strings.TrimLeft, HasPrefix, IndexByte and Clone return: the library's contracts, laid here.
What strings.Cut returns at a line's end, and lex's unparted.
Plain mathematics of layer 12, third part: more fuel than serves changes nothing.
-/
import Derived.Test.YtjfdcnggnldgdaaGreatDoorP01a
import Derived.Shelf.Strings.SlTrimAscii
import Derived.Shelf.Strings.Prefix
import Derived.Shelf.Strings.Search1
import Derived.Shelf.Small.Strs
import Derived.Shelf.Strconv.Clone
section
set_option linter.unusedVariables false
set_option linter.unusedSimpArgs false
namespace Go.Proofs.YtjfdcnggnldgdaaGreatDoor

/-- the end's token is the last one -/
def Sx.Ends (L : List Lx.Tok) : Prop := ∀ (i : Nat) (x : Lx.Tok), L[i]? = .some x → x.kind ≠ 0 → i + 1 < L.length
/-- a later state of a reader: it goes on, its first error stays, and is told at the token at hand -/
def Sx.Le (L : List Lx.Tok) (σ τ : Sx.R) : Prop :=
  σ.at' ≤ τ.at' ∧ (σ.err ≠ 0 → τ.err = σ.err ∧ τ.pos = σ.pos ∧ τ.at' = σ.at') ∧ (σ.at' < L.length → τ.at' < L.length) ∧ (τ.err = σ.err ∨ τ.err = 10 ∨ τ.err = 11) ∧ (σ.err = 0 → τ.err ≠ 0 → τ.pos = (Sx.tk L τ).pos) ∧ (τ.err = 0 → τ.pos = σ.pos)
theorem Sx.Le.refl (L : List Lx.Tok) (σ : Sx.R) : Sx.Le L σ σ := ⟨Nat.le_refl _, fun _ => ⟨rfl, rfl, rfl⟩, fun h => h, Or.inl rfl, fun h h2 => absurd h h2, fun _ => rfl⟩
theorem Sx.tk_at {L : List Lx.Tok} {σ τ : Sx.R} (h : σ.at' = τ.at') : Sx.tk L σ = Sx.tk L τ := by unfold Sx.tk; rw [h]
theorem Sx.Le.trans {L : List Lx.Tok} {σ τ ρ : Sx.R} (h1 : Sx.Le L σ τ) (h2 : Sx.Le L τ ρ) : Sx.Le L σ ρ := by
  refine ⟨Nat.le_trans h1.1 h2.1, fun h => ?_, fun h => h2.2.2.1 (h1.2.2.1 h), ?_, fun h h' => ?_, fun h => ?_⟩
  · obtain ⟨a, b, c⟩ := h1.2.1 h
    obtain ⟨d, e, g⟩ := h2.2.1 (by rw [a]; exact h)
    exact ⟨d.trans a, e.trans b, g.trans c⟩
  · rcases h2.2.2.2.1 with h | h | h
    · rw [h]; exact h1.2.2.2.1
    · exact Or.inr (Or.inl h)
    · exact Or.inr (Or.inr h)
  · by_cases ht : τ.err = 0
    · exact h2.2.2.2.2.1 ht h'
    · obtain ⟨d, e, g⟩ := h2.2.1 ht
      rw [e, Sx.tk_at g]
      exact h1.2.2.2.2.1 h ht
  · by_cases ht : τ.err = 0
    · exact (h2.2.2.2.2.2 h).trans (h1.2.2.2.2.2 ht)
    · exact absurd ((h2.2.1 ht).1.symm.trans h) ht
theorem Sx.le_opn (L : List Lx.Tok) (σ : Sx.R) (k : Int) : Sx.Le L σ { σ with opn := k } := ⟨Nat.le_refl _, fun _ => ⟨rfl, rfl, rfl⟩, fun h => h, Or.inl rfl, fun h h2 => absurd h h2, fun _ => rfl⟩
theorem Sx.Le.opn {L : List Lx.Tok} {σ τ : Sx.R} (h : Sx.Le L σ τ) (k : Int) : Sx.Le L σ { τ with opn := k } := h.trans (Sx.le_opn L τ k)
theorem Sx.le_wrong (L : List Lx.Tok) (e : Int) (σ : Sx.R) (he : e = 10 ∨ e = 11) : Sx.Le L σ (Sx.wrong L e σ) := by
  unfold Sx.wrong
  split
  · rename_i h
    exact ⟨Nat.le_refl _, fun h2 => absurd h h2, fun h => h, Or.inr he, fun _ _ => rfl, fun h => absurd h (by rcases he with e | e <;> simp only [e] <;> decide)⟩
  · exact Sx.Le.refl _ _
/-- one token on, where it is not the end's -/
theorem Sx.le_next {L : List Lx.Tok} (hL : Sx.Ends L) {σ : Sx.R} (he : σ.err = 0) (hk : (Sx.tk L σ).kind ≠ 0) : Sx.Le L σ { σ with at' := σ.at' + 1 } := by
  refine ⟨Nat.le_succ _, fun h => absurd he h, fun h => ?_, Or.inl rfl, fun h h2 => absurd h h2, fun _ => rfl⟩
  have hx : L[σ.at']? = .some L[σ.at'] := List.getElem?_eq_getElem h
  refine hL _ _ hx ?_
  unfold Sx.tk at hk
  rwa [List.getD_eq_getElem?_getD, hx] at hk
theorem Sx.text_kind {L : List Lx.Tok} {σ : Sx.R} (h : Sx.text L σ ≠ []) : (Sx.tk L σ).kind ≠ 0 := by
  unfold Sx.text at h
  split at h
  · rename_i h1; rcases h1 with h1 | h1 <;> rw [h1] <;> decide
  · exact absurd rfl h
theorem Sx.le_eat {L : List Lx.Tok} (hL : Sx.Ends L) (s : List UInt8) (hs : s ≠ []) (σ : Sx.R) : Sx.Le L σ (Sx.eat L s σ) := by
  unfold Sx.eat
  split
  · exact Sx.Le.refl _ _
  · rename_i h1
    split
    · exact Sx.le_wrong L 10 σ (Or.inl rfl)
    · rename_i h2
      refine Sx.le_next hL (by omega) (Sx.text_kind ?_)
      intro e; exact h2 (by rw [e]; exact fun h => hs h.symm)
theorem Sx.sees_text {L : List Lx.Tok} {s : List UInt8} {σ : Sx.R} (h : Sx.sees L s σ = true) : σ.err = 0 ∧ Sx.text L σ = s := by
  unfold Sx.sees at h
  simpa using h
theorem Sx.le_may {L : List Lx.Tok} (hL : Sx.Ends L) (s : List UInt8) (hs : s ≠ []) (σ : Sx.R) : Sx.Le L σ (Sx.may L s σ).2 := by
  unfold Sx.may
  split
  · rename_i h
    obtain ⟨h1, h2⟩ := Sx.sees_text h
    exact Sx.le_next hL h1 (Sx.text_kind (by rw [h2]; exact hs))
  · exact Sx.Le.refl _ _
theorem Sx.le_nest {L : List Lx.Tok} (hL : Sx.Ends L) (s : List UInt8) (hs : s ≠ []) (σ : Sx.R) : Sx.Le L σ (Sx.nest L s σ) := by
  unfold Sx.nest
  refine Sx.Le.opn (Sx.Le.trans ?_ (Sx.le_eat hL s hs _)) _
  split
  · exact Sx.le_wrong L 11 σ (Or.inr rfl)
  · exact Sx.Le.refl _ _
theorem Sx.le_unnest {L : List Lx.Tok} (hL : Sx.Ends L) (s : List UInt8) (hs : s ≠ []) (σ : Sx.R) : Sx.Le L σ (Sx.unnest L s σ) := by
  unfold Sx.unnest
  exact Sx.Le.opn (Sx.le_eat hL s hs _) _
theorem Sx.le_some {L : List Lx.Tok} (hL : Sx.Ends L) (k : Int) (hk : k ≠ 0) (σ : Sx.R) : Sx.Le L σ (Sx.some L k σ).2 := by
  unfold Sx.some
  split
  · exact Sx.Le.refl _ _
  · rename_i h1
    split
    · exact Sx.le_wrong L 10 σ (Or.inl rfl)
    · rename_i h2
      exact Sx.le_next hL (by omega) (by omega)
theorem Sx.le_label {L : List Lx.Tok} (hL : Sx.Ends L) (σ : Sx.R) : Sx.Le L σ (Sx.label L σ).2 := by
  unfold Sx.label
  have h1 := Sx.le_may hL Sx.wSec (by decide) σ
  split
  · exact h1
  · exact h1.trans (Sx.le_eat hL _ (by decide) _)
theorem Sx.le_brackets {L : List Lx.Tok} (hL : Sx.Ends L) (σ : Sx.R) : Sx.Le L σ (Sx.brackets L σ).2 := by
  unfold Sx.brackets
  refine (Sx.le_eat hL [91] (by decide) σ).trans (Sx.Le.trans ?_ ((Sx.le_some hL 2 (by decide) _).trans (Sx.le_eat hL [93] (by decide) _)))
  split
  · exact Sx.le_wrong L 10 _ (Or.inl rfl)
  · exact Sx.Le.refl _ _
theorem Sx.le_type {L : List Lx.Tok} (hL : Sx.Ends L) (b : Bool) (l : Int) (σ : Sx.R) : Sx.Le L σ (Sx.type L b l σ).2 := by
  unfold Sx.type
  have h1 := Sx.le_may hL Sx.wMask (by decide) σ
  split
  · exact h1
  · simp only []
    have h2 := Sx.le_may hL Sx.wU8 (by decide) (Sx.may L Sx.wMask σ).2
    split
    · exact h1.trans (h2.trans (Sx.le_brackets hL _))
    · have h3 := Sx.le_eat hL Sx.wU32 (by decide) (Sx.may L Sx.wMask σ).2
      split
      · exact h1.trans (h3.trans (Sx.le_brackets hL _))
      · exact h1.trans h3
theorem Sx.le_param {L : List Lx.Tok} (hL : Sx.Ends L) (σ : Sx.R) : Sx.Le L σ (Sx.param L σ).2 := by
  unfold Sx.param
  exact (Sx.le_may hL Sx.wOut (by decide) σ).trans ((Sx.le_label hL _).trans ((Sx.le_some hL 1 (by decide) _).trans ((Sx.le_eat hL [58] (by decide) _).trans (Sx.le_type hL _ _ _))))
theorem Sx.tight_nil : Sx.tight [] = (0, 0) := by decide
theorem Sx.tight_kind {L : List Lx.Tok} {σ : Sx.R} {n : Nat} (h : ¬ (Sx.tight (Sx.text L σ)).1 ≤ n) : (Sx.tk L σ).kind ≠ 0 := by
  refine Sx.text_kind (fun e => h ?_)
  rw [e, Sx.tight_nil]; exact Nat.zero_le _
theorem Sx.le_exprs {L : List Lx.Tok} (hL : Sx.Ends L) (f : Nat) :
    (∀ than σ, Sx.Le L σ (Sx.expr L f than σ).2) ∧ (∀ than most c x σ, Sx.Le L σ (Sx.signs L f than most c x σ).2) ∧ (∀ σ, Sx.Le L σ (Sx.unary L f σ).2) ∧
    (∀ s σ, σ.err = 0 → s = Sx.text L σ → Sx.Le L σ (Sx.word L f s σ).2) ∧ (∀ n b σ, Sx.Le L σ (Sx.many L f n b σ).2) ∧ (∀ t σ, Sx.Le L σ (Sx.behind L f t σ).2) ∧ (∀ σ, Sx.Le L σ (Sx.commas L f σ).2) := by
  induction f with
  | zero =>
    refine ⟨fun _ _ => ?_, fun _ _ _ _ _ => ?_, fun _ => ?_, fun _ _ _ _ => ?_, fun _ _ _ => ?_, fun _ _ => ?_, fun _ => ?_⟩
    · rw [Sx.expr]; exact Sx.Le.refl _ _
    · rw [Sx.signs]; exact Sx.Le.refl _ _
    · rw [Sx.unary]; exact Sx.Le.refl _ _
    · rw [Sx.word]; exact Sx.Le.refl _ _
    · rw [Sx.many]; exact Sx.Le.refl _ _
    · rw [Sx.behind]; exact Sx.Le.refl _ _
    · rw [Sx.commas]; exact Sx.Le.refl _ _
  | succ f ih =>
    obtain ⟨iE, iS, iU, iW, iM, iB, iC⟩ := ih
    refine ⟨fun than σ => ?_, fun than most c x σ => ?_, fun σ => ?_, fun s σ he hs => ?_, fun n b σ => ?_, fun t σ => ?_, fun σ => ?_⟩
    · rw [Sx.expr]; exact (iU σ).trans (iS _ _ _ _ _)
    · rw [Sx.signs]
      split
      · exact Sx.Le.refl _ _
      · rename_i h1
        simp only []
        split
        · exact Sx.Le.refl _ _
        · rename_i h2
          have hn := Sx.le_next hL (σ := σ) (by omega) (Sx.tight_kind (n := than) (fun h => h2 (Or.inl h)))
          split
          · exact hn.trans ((Sx.le_some hL 2 (by decide) _).trans (iS _ _ _ _ _))
          · exact hn.trans ((iE _ _).trans (iS _ _ _ _ _))
    · rw [Sx.unary]
      split
      · exact Sx.Le.refl _ _
      · rename_i h1
        simp only []
        split
        · exact (Sx.le_nest hL [40] (by decide) σ).trans ((iE _ _).trans (Sx.le_unnest hL [41] (by decide) _))
        · split
          · rename_i h3
            have hs : Sx.text L σ ≠ [] := by rcases h3 with h | h | h <;> rw [h] <;> decide
            exact Sx.Le.opn ((Sx.le_nest hL _ hs σ).trans (iU _)) _
          · exact iW _ _ (by omega) rfl
    · rw [Sx.word]
      simp only []
      split
      · rename_i w hw
        have hne : Sx.text L σ ≠ [] := by
          intro e
          rw [hs, e] at hw
          have : Sx.wordsE.find? (fun x => x.1 == ([] : List UInt8)) = none := by decide
          rw [this] at hw; cases hw
        have h1 := (Sx.le_next hL he (Sx.text_kind hne)).trans ((Sx.le_nest hL [40] (by decide) _).trans (iM w.2.2 true _))
        split
        · exact h1.trans ((Sx.le_eat hL [44] (by decide) _).trans ((Sx.le_some hL 2 (by decide) _).trans (Sx.le_unnest hL [41] (by decide) _)))
        · exact h1.trans (Sx.le_unnest hL [41] (by decide) _)
      · split
        · rename_i h2
          exact Sx.le_next hL he (by rw [h2]; decide)
        · exact (Sx.le_some hL 1 (by decide) σ).trans (iB _ _)
    · cases n with
      | zero => rw [Sx.many]; exact Sx.Le.refl _ _
      | succ n =>
        rw [Sx.many]
        simp only []
        refine Sx.Le.trans ?_ ((iE 0 _).trans (iM n false _))
        split
        · exact Sx.Le.refl _ _
        · exact Sx.le_eat hL [44] (by decide) σ
    · rw [Sx.behind]
      split
      · simp only []
        have h1 := Sx.le_nest hL [40] (by decide) σ
        split
        · exact h1.trans (Sx.le_unnest hL [41] (by decide) _)
        · exact h1.trans ((iE _ _).trans ((iC _).trans (Sx.le_unnest hL [41] (by decide) _)))
      · split
        · exact (Sx.le_nest hL [91] (by decide) σ).trans ((iE _ _).trans (Sx.le_unnest hL [93] (by decide) _))
        · exact Sx.Le.refl _ _
    · rw [Sx.commas]
      have h1 := Sx.le_may hL [44] (by decide) σ
      split
      · exact h1.trans ((iE _ _).trans (iC _))
      · exact h1
def Sx.M (L : List Lx.Tok) (σ : Sx.R) : Nat := if σ.err ≠ 0 then 0 else 16 * (L.length - σ.at')
theorem Sx.M_err {L : List Lx.Tok} {σ : Sx.R} (h : σ.err ≠ 0) : Sx.M L σ = 0 := by unfold Sx.M; rw [if_pos h]
theorem Sx.M_le {L : List Lx.Tok} {σ τ : Sx.R} (h : Sx.Le L σ τ) : Sx.M L τ ≤ Sx.M L σ := by
  by_cases he : σ.err = 0
  · unfold Sx.M
    rw [if_neg (c := σ.err ≠ 0) (by omega)]
    have := h.1
    split <;> omega
  · have := (h.2.1 he).1
    rw [Sx.M_err (σ := τ) (by rw [this]; exact he)]; exact Nat.zero_le _
theorem Sx.M_pos {L : List Lx.Tok} {σ : Sx.R} (he : σ.err = 0) (hi : σ.at' < L.length) : 16 ≤ Sx.M L σ := by
  unfold Sx.M; rw [if_neg (by omega)]; omega
theorem Sx.M_fuel (L : List Lx.Tok) (σ : Sx.R) : Sx.M L σ ≤ 16 * L.length := by
  unfold Sx.M; split <;> omega
theorem Sx.M_next {L : List Lx.Tok} {σ : Sx.R} (he : σ.err = 0) (hi : σ.at' < L.length) : Sx.M L { σ with at' := σ.at' + 1 } + 16 ≤ Sx.M L σ := by
  unfold Sx.M; rw [if_neg (by simpa using he), if_neg (by omega)]; simp only; omega
theorem Sx.M_opn (L : List Lx.Tok) (σ : Sx.R) (k : Int) : Sx.M L { σ with opn := k } = Sx.M L σ := rfl
theorem Sx.wrong_err {L : List Lx.Tok} {e : Int} {σ : Sx.R} (he : e ≠ 0) : (Sx.wrong L e σ).err ≠ 0 := by
  unfold Sx.wrong; split
  · exact he
  · assumption
/-- what has to be there is read, or there is an error -/
theorem Sx.M_eat {L : List Lx.Tok} {s : List UInt8} {σ : Sx.R} (he : σ.err = 0) (hi : σ.at' < L.length) : Sx.M L (Sx.eat L s σ) + 16 ≤ Sx.M L σ := by
  unfold Sx.eat
  rw [if_neg (by omega)]
  split
  · rw [Sx.M_err (Sx.wrong_err (by decide))]; have := Sx.M_pos he hi; omega
  · exact Sx.M_next he hi
theorem Sx.M_some {L : List Lx.Tok} {k : Int} {σ : Sx.R} (he : σ.err = 0) (hi : σ.at' < L.length) : Sx.M L (Sx.some L k σ).2 + 16 ≤ Sx.M L σ := by
  unfold Sx.some
  rw [if_neg (by omega)]
  split
  · simp only []; rw [Sx.M_err (Sx.wrong_err (by decide))]; have := Sx.M_pos he hi; omega
  · exact Sx.M_next he hi
theorem Sx.M_may {L : List Lx.Tok} {s : List UInt8} {σ : Sx.R} (h : (Sx.may L s σ).1 = true) (hi : σ.at' < L.length) : Sx.M L (Sx.may L s σ).2 + 16 ≤ Sx.M L σ := by
  unfold Sx.may at h ⊢
  split at h
  · rename_i h1
    rw [if_pos h1]
    exact Sx.M_next (Sx.sees_text h1).1 hi
  · cases h
theorem Sx.M_nest {L : List Lx.Tok} {s : List UInt8} {σ : Sx.R} (he : σ.err = 0) (hi : σ.at' < L.length) : Sx.M L (Sx.nest L s σ) + 16 ≤ Sx.M L σ := by
  unfold Sx.nest
  simp only []
  rw [Sx.M_opn]
  split
  · have h1 : (Sx.wrong L 11 σ).err ≠ 0 := Sx.wrong_err (by decide)
    have h2 : Sx.eat L s (Sx.wrong L 11 σ) = Sx.wrong L 11 σ := by unfold Sx.eat; rw [if_pos h1]
    rw [h2, Sx.M_err h1]
    have := Sx.M_pos he hi; omega
  · exact Sx.M_eat he hi
theorem Sx.le_value {L : List Lx.Tok} (hL : Sx.Ends L) (l : List Sx.E) (σ : Sx.R) : Sx.Le L σ (Sx.value L l σ).2 := by
  unfold Sx.value Sx.ex
  exact ((Sx.le_exprs hL _).1 0 σ).trans (Sx.le_eat hL [59] (by decide) _)
theorem Sx.le_named {L : List Lx.Tok} (hL : Sx.Ends L) (p : Int) (σ : Sx.R) : Sx.Le L σ (Sx.named L p σ).2 := by
  have hB := (Sx.le_exprs hL (Sx.fuel L)).2.2.2.2.2.1
  unfold Sx.named
  simp only []
  have h1 := Sx.le_some hL 1 (by decide) σ
  split
  · exact h1.trans ((hB _ _).trans (Sx.le_eat hL [59] (by decide) _))
  · split
    · exact h1.trans ((hB _ _).trans ((Sx.le_eat hL [61] (by decide) _).trans (Sx.le_value hL [] _)))
    · exact h1.trans ((Sx.le_eat hL [61] (by decide) _).trans (Sx.le_value hL [] _))
theorem Sx.le_stmts {L : List Lx.Tok} (hL : Sx.Ends L) (f : Nat) :
    (∀ σ, Sx.Le L σ (Sx.block L f σ).2) ∧ (∀ σ, Sx.Le L σ (Sx.stmts L f σ).2) ∧ (∀ σ, Sx.Le L σ (Sx.stmt L f σ).2) := by
  have hE : ∀ σ, Sx.Le L σ (Sx.ex L σ).2 := fun σ => (Sx.le_exprs hL _).1 0 σ
  induction f with
  | zero =>
    refine ⟨fun _ => ?_, fun _ => ?_, fun _ => ?_⟩
    · rw [Sx.block]; exact Sx.Le.refl _ _
    · rw [Sx.stmts]; exact Sx.Le.refl _ _
    · rw [Sx.stmt]; exact Sx.Le.refl _ _
  | succ f ih =>
    obtain ⟨iB, iL, iS⟩ := ih
    refine ⟨fun σ => ?_, fun σ => ?_, fun σ => ?_⟩
    · rw [Sx.block]
      exact (Sx.le_nest hL [123] (by decide) σ).trans ((iL _).trans (Sx.le_unnest hL [125] (by decide) _))
    · rw [Sx.stmts]
      split
      · exact (iS σ).trans (iL _)
      · exact Sx.Le.refl _ _
    · rw [Sx.stmt]
      simp only []
      split
      · exact (Sx.le_may hL Sx.wLet (by decide) σ).trans ((Sx.le_some hL 1 (by decide) _).trans ((Sx.le_eat hL [61] (by decide) _).trans (Sx.le_value hL [] _)))
      · split
        · exact (Sx.le_may hL Sx.wVar (by decide) σ).trans ((Sx.le_label hL _).trans ((Sx.le_some hL 1 (by decide) _).trans ((Sx.le_eat hL [58] (by decide) _).trans ((Sx.le_type hL _ _ _).trans (Sx.le_eat hL [59] (by decide) _)))))
        · split
          · have h1 := (Sx.le_may hL Sx.wIf (by decide) σ).trans ((hE _).trans (iB _))
            split
            · exact h1.trans ((Sx.le_may hL Sx.wElse (by decide) _).trans (iB _))
            · exact h1.trans (Sx.le_may hL Sx.wElse (by decide) _)
          · split
            · exact (Sx.le_may hL Sx.wFor (by decide) σ).trans ((Sx.le_some hL 1 (by decide) _).trans ((Sx.le_eat hL [60] (by decide) _).trans ((hE _).trans ((Sx.le_eat hL Sx.wMax (by decide) _).trans ((Sx.le_some hL 2 (by decide) _).trans (iB _))))))
            · split
              · exact (Sx.le_may hL Sx.wRet (by decide) σ).trans (Sx.le_value hL [] _)
              · exact Sx.le_named hL _ σ
theorem Sx.le_params {L : List Lx.Tok} (hL : Sx.Ends L) (f : Nat) : ∀ σ, Sx.Le L σ (Sx.params L f σ).2 := by
  induction f with
  | zero => intro σ; rw [Sx.params]; exact Sx.Le.refl _ _
  | succ f ih =>
    intro σ
    rw [Sx.params]
    have h1 := Sx.le_may hL [44] (by decide) σ
    split
    · exact h1.trans ((Sx.le_param hL _).trans (ih _))
    · exact h1
theorem Sx.le_plist {L : List Lx.Tok} (hL : Sx.Ends L) (σ : Sx.R) : Sx.Le L σ (Sx.plist L σ).2 := by
  unfold Sx.plist
  split
  · exact Sx.Le.refl _ _
  · exact (Sx.le_param hL _).trans (Sx.le_params hL _ _)
theorem Sx.le_res {L : List Lx.Tok} (hL : Sx.Ends L) (c : Bool × Sx.R) : Sx.Le L c.2 (Sx.res L c).2 := by
  unfold Sx.res
  split
  · exact (Sx.le_label hL _).trans (Sx.le_type hL _ _ _)
  · exact Sx.Le.refl _ _
theorem Sx.le_function {L : List Lx.Tok} (hL : Sx.Ends L) (σ : Sx.R) : Sx.Le L σ (Sx.function L σ).2 := by
  unfold Sx.function
  exact (Sx.le_eat hL Sx.wFn (by decide) σ).trans ((Sx.le_some hL 1 (by decide) _).trans ((Sx.le_eat hL [40] (by decide) _).trans ((Sx.le_plist hL _).trans ((Sx.le_eat hL [41] (by decide) _).trans ((Sx.le_may hL [58] (by decide) _).trans ((Sx.le_res hL _).trans ((Sx.le_stmts hL _).1 _)))))))
theorem Sx.le_functions {L : List Lx.Tok} (hL : Sx.Ends L) (f : Nat) : ∀ σ, Sx.Le L σ (Sx.functions L f σ).2 := by
  induction f with
  | zero => intro σ; rw [Sx.functions]; exact Sx.Le.refl _ _
  | succ f ih =>
    intro σ
    rw [Sx.functions]
    split
    · exact (Sx.le_function hL _).trans (ih _)
    · exact Sx.Le.refl _ _
/-- what lex tells ends with its end -/
theorem Sx.ends_lex {s : List UInt8} {L : List Lx.Tok} (h : Lx.lex s = .ok L) : Sx.Ends L ∧ 0 < L.length := by
  unfold Lx.lex at h
  split at h
  · cases h
  · cases e : Lx.toks (s.length + 1) 0 s with
    | error q => rw [e] at h; cases h
    | ok us =>
      rw [e] at h
      cases h
      refine ⟨fun i x hx hk => ?_, by simp⟩
      rw [List.length_append, List.length_singleton]
      rcases Nat.lt_or_ge i us.length with h1 | h1
      · omega
      · exfalso
        rw [List.getElem?_append_right h1] at hx
        rcases hi : i - us.length with _ | j
        · rw [hi] at hx
          simp at hx
          exact hk (by rw [← hx])
        · rw [hi] at hx; simp at hx
end Go.Proofs.YtjfdcnggnldgdaaGreatDoor
end
section
namespace Go.Proofs.YtjfdcnggnldgdaaGreatDoor
open Go.Shelf Go.ChangeShapes Go.WideShapes Go.ChangeAt Go.RowKit
set_option linter.unusedVariables false
set_option linter.unusedSimpArgs false

def lay161_ren : Go.Shelf.Ren := ⟨fun | 161 => 109 | 231 => 169 | 227 => 170 | 233 => 171 | 235 => 172 | 228 => 205 | 197 => 206 | 151 => 207 | 260 => 236 | 152 => 237 | 137 => 210 | 119 => 256 | 224 => 240 | 225 => 239 | 217 => 238 | 266 => 257 | n => n, fun | 9 => 9 | 4 => 4 | 3 => 3 | 5 => 5 | 117 => 211 | 116 => 210 | 0 => 0 | 124 => 214 | 105 => 235 | 21 => 21 | 119 => 279 | 46 => 225 | 139 => 282 | 138 => 281 | n => n, fun | 3 => 2 | 4 => 3 | n => n⟩
theorem lay161 : Go.Proofs.Lays.n161 Tryz.prog lay161_ren := {
  mixed := by kernel_rfl
  f119 := Tryz.func256.trans (congrArg some (by kernel_rfl))
  f137 := Tryz.func210.trans (congrArg some (by kernel_rfl))
  f151 := Tryz.func207.trans (congrArg some (by kernel_rfl))
  f152 := Tryz.func237.trans (congrArg some (by kernel_rfl))
  f161 := Tryz.func109.trans (congrArg some (by kernel_rfl))
  f197 := Tryz.func206.trans (congrArg some (by kernel_rfl))
  f217 := Tryz.func238.trans (congrArg some (by kernel_rfl))
  f224 := Tryz.func240.trans (congrArg some (by kernel_rfl))
  f225 := Tryz.func239.trans (congrArg some (by kernel_rfl))
  f227 := Tryz.func170.trans (congrArg some (by kernel_rfl))
  f228 := Tryz.func205.trans (congrArg some (by kernel_rfl))
  f231 := Tryz.func169.trans (congrArg some (by kernel_rfl))
  f233 := Tryz.func171.trans (congrArg some (by kernel_rfl))
  f235 := Tryz.func172.trans (congrArg some (by kernel_rfl))
  f260 := Tryz.func236.trans (congrArg some (by kernel_rfl))
  f266 := Tryz.func257.trans (congrArg some (by kernel_rfl))
  t0 := Tryz.underlying0
  a0 := Tryz.isAgg0
  z0 := Tryz.sizeOf0
  v0 := Tryz.zeroValue0
  t3 := Tryz.underlying3
  a3 := Tryz.isAgg3
  z3 := Tryz.sizeOf3
  v3 := Tryz.zeroValue3
  t4 := Tryz.underlying4
  a4 := Tryz.isAgg4
  z4 := Tryz.sizeOf4
  v4 := Tryz.zeroValue4
  t5 := Tryz.underlying5
  a5 := Tryz.isAgg5
  z5 := Tryz.sizeOf5
  v5 := Tryz.zeroValue5
  t9 := Tryz.underlying9
  a9 := Tryz.isAgg9
  z9 := Tryz.sizeOf9
  v9 := Tryz.zeroValue9
  t21 := Tryz.underlying21
  a21 := Tryz.isAgg21
  z21 := Tryz.sizeOf21
  v21 := Tryz.zeroValue21
  t46 := Tryz.underlying225
  a46 := Tryz.isAgg225
  z46 := Tryz.sizeOf225
  v46 := Tryz.zeroValue225
  t105 := Tryz.underlying235
  a105 := Tryz.isAgg235
  z105 := Tryz.sizeOf235
  v105 := Tryz.zeroValue235
  t116 := Tryz.underlying210
  a116 := Tryz.isAgg210
  z116 := Tryz.sizeOf210
  t117 := Tryz.underlying211
  a117 := Tryz.isAgg211
  z117 := Tryz.sizeOf211
  v117 := Tryz.zeroValue211
  t119 := Tryz.underlying279
  a119 := Tryz.isAgg279
  z119 := Tryz.sizeOf279
  t124 := Tryz.underlying214
  a124 := Tryz.isAgg214
  z124 := Tryz.sizeOf214
  v124 := Tryz.zeroValue214
  t138 := Tryz.underlying281
  a138 := Tryz.isAgg281
  z138 := Tryz.sizeOf281
  v138 := Tryz.zeroValue281
  t139 := Tryz.underlying282
  a139 := Tryz.isAgg282
  z139 := Tryz.sizeOf282
  v139 := Tryz.zeroValue282
  g3 := by kernel_rfl
  g4 := by kernel_rfl }
def lay99_ren : Go.Shelf.Ren := ⟨fun | 99 => 110 | 206 => 173 | n => n, fun | 9 => 9 | 4 => 4 | 3 => 3 | n => n, fun | n => n⟩
theorem lay99 : Go.Proofs.Lays.n99 Tryz.prog lay99_ren := {
  mixed := by kernel_rfl
  f99 := Tryz.func110.trans (congrArg some (by kernel_rfl))
  f206 := Tryz.func173.trans (congrArg some (by kernel_rfl))
  t3 := Tryz.underlying3
  a3 := Tryz.isAgg3
  z3 := Tryz.sizeOf3
  v3 := Tryz.zeroValue3
  t4 := Tryz.underlying4
  a4 := Tryz.isAgg4
  z4 := Tryz.sizeOf4
  v4 := Tryz.zeroValue4
  t9 := Tryz.underlying9
  a9 := Tryz.isAgg9
  z9 := Tryz.sizeOf9
  v9 := Tryz.zeroValue9 }
def lay206_ren : Go.Shelf.Ren := ⟨fun | 206 => 173 | n => n, fun | 9 => 9 | 4 => 4 | 3 => 3 | n => n, fun | n => n⟩
theorem lay206 : Go.Proofs.Lays.n206 Tryz.prog lay206_ren := {
  mixed := by kernel_rfl
  f206 := Tryz.func173.trans (congrArg some (by kernel_rfl))
  t3 := Tryz.underlying3
  a3 := Tryz.isAgg3
  z3 := Tryz.sizeOf3
  v3 := Tryz.zeroValue3
  t4 := Tryz.underlying4
  a4 := Tryz.isAgg4
  z4 := Tryz.sizeOf4
  v4 := Tryz.zeroValue4
  t9 := Tryz.underlying9
  a9 := Tryz.isAgg9
  z9 := Tryz.sizeOf9
  v9 := Tryz.zeroValue9 }
def lay217_ren : Go.Shelf.Ren := ⟨fun | 217 => 238 | 266 => 257 | n => n, fun | 9 => 9 | 5 => 5 | 3 => 3 | n => n, fun | n => n⟩
theorem lay217 : Go.Proofs.Lays.n217 Tryz.prog lay217_ren := {
  mixed := by kernel_rfl
  f217 := Tryz.func238.trans (congrArg some (by kernel_rfl))
  f266 := Tryz.func257.trans (congrArg some (by kernel_rfl))
  t3 := Tryz.underlying3
  a3 := Tryz.isAgg3
  z3 := Tryz.sizeOf3
  v3 := Tryz.zeroValue3
  t5 := Tryz.underlying5
  a5 := Tryz.isAgg5
  z5 := Tryz.sizeOf5
  v5 := Tryz.zeroValue5
  t9 := Tryz.underlying9
  a9 := Tryz.isAgg9
  z9 := Tryz.sizeOf9
  v9 := Tryz.zeroValue9 }
def lay137_ren : Go.Shelf.Ren := ⟨fun | 137 => 210 | 217 => 238 | 266 => 257 | n => n, fun | 9 => 9 | 5 => 5 | 3 => 3 | n => n, fun | n => n⟩
theorem lay137 : Go.Proofs.Lays.n137 Tryz.prog lay137_ren := {
  mixed := by kernel_rfl
  f137 := Tryz.func210.trans (congrArg some (by kernel_rfl))
  f217 := Tryz.func238.trans (congrArg some (by kernel_rfl))
  f266 := Tryz.func257.trans (congrArg some (by kernel_rfl))
  t3 := Tryz.underlying3
  a3 := Tryz.isAgg3
  z3 := Tryz.sizeOf3
  v3 := Tryz.zeroValue3
  t5 := Tryz.underlying5
  a5 := Tryz.isAgg5
  z5 := Tryz.sizeOf5
  v5 := Tryz.zeroValue5
  t9 := Tryz.underlying9
  a9 := Tryz.isAgg9
  z9 := Tryz.sizeOf9
  v9 := Tryz.zeroValue9 }
def lay316_ren : Go.Shelf.Ren := ⟨fun | 316 => 177 | n => n, fun | 9 => 9 | 3 => 3 | 4 => 4 | 37 => 88 | 0 => 0 | 127 => 184 | 5 => 5 | n => n, fun | n => n⟩
theorem lay316 : Go.Proofs.LaysM.n316 Tryz.prog lay316_ren := {
  mixed := by kernel_rfl
  f316 := Tryz.func177.trans (congrArg some (by kernel_rfl))
  t0 := Tryz.underlying0
  a0 := Tryz.isAgg0
  z0 := Tryz.sizeOf0
  v0 := Tryz.zeroValue0
  t3 := Tryz.underlying3
  a3 := Tryz.isAgg3
  z3 := Tryz.sizeOf3
  v3 := Tryz.zeroValue3
  t4 := Tryz.underlying4
  a4 := Tryz.isAgg4
  z4 := Tryz.sizeOf4
  v4 := Tryz.zeroValue4
  t9 := Tryz.underlying9
  a9 := Tryz.isAgg9
  z9 := Tryz.sizeOf9
  v9 := Tryz.zeroValue9
  t37 := Tryz.underlying88
  a37 := Tryz.isAgg88
  z37 := Tryz.sizeOf88
  v37 := Tryz.zeroValue88
  t127 := Tryz.underlying184
  a127 := Tryz.isAgg184
  z127 := Tryz.sizeOf184
  v127 := Tryz.zeroValue184
  t5 := Tryz.underlying5
  a5 := Tryz.isAgg5
  z5 := Tryz.sizeOf5
  v5 := Tryz.zeroValue5
  i0 := by kernel_rfl
  i3 := by kernel_rfl
  i4 := by kernel_rfl
  i5 := by kernel_rfl
  i9 := by kernel_rfl
  i37 := by kernel_rfl
  i127 := by kernel_rfl }
theorem trim_any (s : ByteArray) (w : World) :
    Calls Tryz.prog 109 #[.string s, .string ⟨#[32, 9, 10, 13]⟩] w fun e w' => e = .returned (.string (Lx.S (s.data.toList.dropWhile Lx.blank))) ∧ Below w.heap.size w w' := by
  refine (Any.strings_TrimLeft_laid lay161 (by kernel_rfl) s ⟨#[32, 9, 10, 13]⟩ w (by decide) (ascii_of_all (by decide))).mono fun e w' h => ⟨h.1.trans ?_, h.2⟩
  have hc : ∀ c : UInt8, ([32, 9, 10, 13] : List UInt8).contains c = Lx.blank c := fun c => by
    rw [Bool.eq_iff_iff]
    simp only [Lx.blank, List.contains_iff_mem, List.mem_cons, List.not_mem_nil, or_false, Bool.or_eq_true, decide_eq_true_eq, or_assoc, ← UInt8.toNat_inj]
    rfl
  have he : Lib.trimLeftS s.data.toList ([32, 9, 10, 13] : List UInt8) = s.data.toList.dropWhile Lx.blank := by unfold Lib.trimLeftS; congr 1; funext c; exact hc c
  exact ret_str' (congrArg Lx.S he)
theorem pre_any (s p : ByteArray) (w : World) :
    Calls Tryz.prog 110 #[.string s, .string p] w fun e w' => e = .returned (.bool (p.data.toList.isPrefixOf s.data.toList)) ∧ w' = w := Any.strings_HasPrefix lay99 s p w
theorem spre_any (s p : ByteArray) (w : World) :
    Calls Tryz.prog 173 #[.string s, .string p] w fun e w' => e = .returned (.bool (p.data.toList.isPrefixOf s.data.toList)) ∧ w' = w := Any.stringslite_HasPrefix lay206 s p w
theorem ixb_any (s : ByteArray) (c : UInt8) (w : World) :
    Calls Tryz.prog 210 #[.string s, .int .u8 c.toNat] w fun e w' => e = .returned (.int .i64 (Lib.indexByte s.data.toList c)) ∧ w' = w := by
  have h := Any.strings_IndexByte lay137 s (c.toNat : Int) w
  rwa [show ((c.toNat : Int).toNat).toUInt8 = c from by simp] at h
theorem sixb_any (s : ByteArray) (c : UInt8) (w : World) :
    Calls Tryz.prog 238 #[.string s, .int .u8 c.toNat] w fun e w' => e = .returned (.int .i64 (Lib.indexByte s.data.toList c)) ∧ w' = w := by
  have h := Any.stringslite_IndexByte lay217 s (c.toNat : Int) w
  rwa [show ((c.toNat : Int).toNat).toUInt8 = c from by simp] at h
theorem sclone_any (s : ByteArray) (w : World) (h : s.size ≤ 281474976710656) :
    Calls Tryz.prog 177 #[.string s] w fun e w' => e = .returned (.string s) ∧ Below w.heap.size w w' := Any.stringslite_Clone lay316 s w h
set_option maxHeartbeats 2000000 in
theorem clone_any (s : ByteArray) (w : World) (h : s.size ≤ 281474976710656) :
    Calls Tryz.prog 116 #[.string s] w fun e w' => e = .returned (.string s) ∧ Below w.heap.size w w' := by
  have C := Lib.hid fun w => sclone_any s w h
  clear h
  go_enter Tryz.func116, Tryz.ntmps116
  go_wp2_with (go_at_call 177; refine (C.out _).mono ?_; rintro e w1 ⟨rfl, hb1⟩)
  go_ret
  exact ⟨rfl, hb1⟩
end Go.Proofs.YtjfdcnggnldgdaaGreatDoor
end
section
namespace Go.Proofs.YtjfdcnggnldgdaaGreatDoor
open Go.ChangeShapes Go.WideShapes Go.ChangeAt Go.RowKit
set_option linter.unusedVariables false
set_option linter.unusedSimpArgs false

theorem below_drewN {B : Nat} {a w : World} (h : Below B a w) (n : Nat) : Below B a (w.drewN n) := ⟨h.os, h.tape, h.output, h.size, h.block⟩
theorem ext_rest (s : ByteArray) (i : Nat) : s.extract i s.size = Lx.S (s.data.toList.drop i) := by
  rw [Lx.S_ext, List.take_of_length_le (by rw [List.length_drop, Lib.size_eq]; exact Nat.le_refl _)]
set_option maxHeartbeats 4000000 in
theorem index_any (s : ByteArray) (w : World) :
    Calls Tryz.prog 208 #[.string s, .string ⟨#[10]⟩] w fun e w' => e = .returned (.int .i64 (Lib.indexByte s.data.toList 10)) ∧ w' = w := by
  have C := Lib.hid fun w => sixb_any s 10 w
  cases hq : (([10] : List UInt8) == s.toList)
  · go_enter Tryz.func208, Tryz.ntmps208
    go_wp2_with (first
      | (go_at_call 238; refine (C.out _).mono ?_; rintro e w' ⟨rfl, rfl⟩)
      | go_in)
    go_ret
    exact ⟨rfl, rfl⟩
  · have HQ : Hid (s.data.toList = [10]) := Lib.hid (by
      have h := (eq_of_beq hq).symm
      rwa [Lib.toList_data] at h)
    go_enter Tryz.func208, Tryz.ntmps208
    go_wp2_with (first
      | (go_at_call 238; refine (C.out _).mono ?_; rintro e w' ⟨rfl, rfl⟩)
      | go_in)
    go_ret
    exact ⟨by rw [HQ.out]; rfl, rfl⟩
set_option maxHeartbeats 4000000 in
theorem scut_any (s : ByteArray) (hs : s.size ≤ 281474976710656) (w : World) :
    Calls Tryz.prog 174 #[.string s, .string ⟨#[10]⟩] w fun e w' => (∃ (b : ByteArray) (f : Bool), e = .returned (.tuple #[.string b, .string (Lx.S (Lx.aft s.data.toList)), .bool f])) ∧ Below w.heap.size w w' := by
  have C := Lib.hid fun w => index_any s w
  rcases Lx.ixb s.data.toList with ⟨h1, h2⟩ | ⟨i, h1, h2, h3⟩
  · have H2 := Lib.hid h2
    rw [h1] at C
    clear h1 h2
    go_enter Tryz.func174, Tryz.ntmps174
    go_wp2_with (first
      | (go_at_call 208; refine (C.out _).mono ?_; rintro e w' ⟨rfl, rfl⟩))
    go_ret3
    refine ⟨⟨s, false, ?_⟩, by go_grown⟩
    rw [H2.out]; rfl
  · rw [← Lib.size_eq] at h2
    have H3 := Lib.hid h3
    rw [h1] at C
    clear h1 h3
    go_enter Tryz.func174, Tryz.ntmps174
    go_wp2_with (first
      | (go_at_call 208; refine (C.out _).mono ?_; rintro e w' ⟨rfl, rfl⟩))
    go_quiet (fail)
    go_wp2
    go_ret3
    refine ⟨⟨s.extract 0 i, true, ?_⟩, below_drewN (Below.refl _ _) _⟩
    rw [H3.out, ← ext_rest]; rfl
theorem cut_any (s : ByteArray) (hs : s.size ≤ 281474976710656) (w : World) :
    Calls Tryz.prog 111 #[.string s, .string ⟨#[10]⟩] w fun e w' => (∃ (b : ByteArray) (f : Bool), e = .returned (.tuple #[.string b, .string (Lx.S (Lx.aft s.data.toList)), .bool f])) ∧ Below w.heap.size w w' := by
  have C := Lib.hid fun w => scut_any s hs w
  clear hs
  go_enter Tryz.func111, Tryz.ntmps111
  go_wp2_with (first
    | (go_at_call 174; refine (C.out _).mono ?_; rintro e w1 ⟨⟨b, f, rfl⟩, hb1⟩))
  go_ret3
  exact ⟨⟨b, f, rfl⟩, hb1⟩
set_option maxHeartbeats 4000000 in
theorem unparted_any (s : ByteArray) (hs : s.size ≤ 281474976710656) (w : World) :
    Calls Tryz.prog 58 #[.string s] w fun e w' => e = .returned (.string (Lx.S (Lx.left s.data.toList))) ∧ Below w.heap.size w w' := by
  obtain ⟨l, hl⟩ : ∃ l, s.data.toList = l := ⟨_, rfl⟩
  have hsz := Lib.size_eq s
  rw [hl] at hsz ⊢
  obtain rfl : s = Lx.S l := by rw [← hl]; exact (Lx.S_of s).symm
  clear hl
  rw [hsz] at hs
  clear hsz
  have HS := Lib.hid hs
  clear hs
  go_enter Tryz.func58, Tryz.ntmps58
  go_wp2
  go_loopw [0] (fun v wr => ∃ m : List UInt8, v = .string (Lx.S m) ∧ Hid (Lx.left m = Lx.left l ∧ m.length ≤ l.length) ∧ Below w.heap.size w wr) (fun v _ => Lib.strSize v)
  case atStart => exact ⟨l, rfl, Lib.hid ⟨rfl, Nat.le_refl _⟩, Below.refl _ _⟩
  case round =>
    obtain ⟨m, rfl, HM, hB⟩ := hrel
    obtain ⟨d, hd⟩ : ∃ d, m.dropWhile Lx.blank = d := ⟨_, rfl⟩
    have HD := Lib.hid hd
    have hsm := HS.out
    have hml := HM.out.2
    have hdl : d.length ≤ m.length := by rw [← hd]; exact Lx.trim_le m
    have C1 := Lib.hid fun w => trim_any (Lx.S m) w
    rw [Lx.S_list, hd] at C1
    have C2 := Lib.hid fun w => pre_any (Lx.S d) ⟨#[47, 47]⟩ w
    have C3 := Lib.hid fun w => cut_any (Lx.S d) (by rw [Lx.S_size]; omega) w
    rw [Lx.S_list] at C2 C3
    clear hd
    have HL := Lib.hid hdl
    clear hdl hml hsm
    cases hp : ([47, 47] : List UInt8).isPrefixOf d
    · have HP := Lib.hid hp
      rw [hp] at C2
      clear hp
      go_wp2_with (first
        | (go_at_call 109; refine (C1.out _).mono ?_; rintro e w1 ⟨rfl, hb1⟩)
        | (go_at_call 110; refine (C2.out _).mono ?_; rintro e w2 ⟨rfl, rfl⟩)
        | (go_at_call 111; refine (C3.out _).mono ?_; rintro e w3 ⟨⟨b, f, rfl⟩, hb3⟩))
      go_ret
      refine ⟨?_, hB.trans (hb1.mono hB.size)⟩
      have h1 := Lx.left_stop d (fun c r h => Lx.trim_head m c r (HD.out.trans h)) HP.out
      have h2 := Lx.left_trim m
      rw [HD.out, h1] at h2
      rw [← HM.out.1, ← h2]
      rfl
    · have HP := Lib.hid hp
      rw [hp] at C2
      clear hp
      go_wp2_with (first
        | (go_at_call 109; refine (C1.out _).mono ?_; rintro e w1 ⟨rfl, hb1⟩)
        | (go_at_call 110; refine (C2.out _).mono ?_; rintro e w2 ⟨rfl, rfl⟩)
        | (go_at_call 111; refine (C3.out _).mono ?_; rintro e w3 ⟨⟨b, f, rfl⟩, hb3⟩))
      obtain ⟨r, hr⟩ := Lx.pre_two HP.out
      have ha := Lx.aft_le r
      have hd := HL.out
      rw [hr] at hd
      simp only [List.length_cons] at hd
      have he : Lx.aft d = Lx.aft r := by rw [hr, Lx.aft, if_neg (by decide), Lx.aft, if_neg (by decide)]
      have hBB := hB.trans (hb1.mono hB.size)
      refine ⟨⟨Lx.aft d, rfl, Lib.hid ⟨?_, ?_⟩, hBB.trans (hb3.mono hBB.size)⟩, ?_⟩
      · have h2 := Lx.left_trim m
        rw [HD.out] at h2
        rw [← HM.out.1, ← h2, hr, Lx.left_two]
      · have := HM.out.2
        rw [he]; omega
      · rw [Lib.strSize_string, Lib.strSize_string, Lx.S_size, Lx.S_size, he]; omega
end Go.Proofs.YtjfdcnggnldgdaaGreatDoor
end
section
set_option linter.unusedVariables false
set_option linter.unusedSimpArgs false
namespace Go.Proofs.YtjfdcnggnldgdaaGreatDoor

theorem Sx.wordsE_three {s : List UInt8} {w : List UInt8 × Int × Nat} (h : Sx.wordsE.find? (fun x => x.1 == s) = .some w) : w.2.2 ≤ 3 := by
  have hm := List.mem_of_find?_eq_some h
  have : ∀ x ∈ Sx.wordsE, x.2.2 ≤ 3 := by decide
  exact this w hm
theorem Sx.wordsE_nil : Sx.wordsE.find? (fun x => x.1 == ([] : List UInt8)) = none := by decide
theorem Sx.enough {L : List Lx.Tok} (hL : Sx.Ends L) (f : Nat) :
    (∀ g than σ, σ.at' < L.length → Sx.M L σ + 4 ≤ f → Sx.M L σ + 4 ≤ g → Sx.expr L f than σ = Sx.expr L g than σ) ∧
    (∀ g than most c x σ, σ.at' < L.length → Sx.M L σ + 3 ≤ f → Sx.M L σ + 3 ≤ g → Sx.signs L f than most c x σ = Sx.signs L g than most c x σ) ∧
    (∀ g σ, σ.at' < L.length → Sx.M L σ + 3 ≤ f → Sx.M L σ + 3 ≤ g → Sx.unary L f σ = Sx.unary L g σ) ∧
    (∀ g s σ, σ.at' < L.length → σ.err = 0 → s = Sx.text L σ → Sx.M L σ + 2 ≤ f → Sx.M L σ + 2 ≤ g → Sx.word L f s σ = Sx.word L g s σ) ∧
    (∀ g n b σ, σ.at' < L.length → Sx.M L σ + n + 5 ≤ f → Sx.M L σ + n + 5 ≤ g → Sx.many L f n b σ = Sx.many L g n b σ) ∧
    (∀ g t σ, σ.at' < L.length → Sx.M L σ + 5 ≤ f → Sx.M L σ + 5 ≤ g → Sx.behind L f t σ = Sx.behind L g t σ) ∧
    (∀ g σ, σ.at' < L.length → Sx.M L σ + 5 ≤ f → Sx.M L σ + 5 ≤ g → Sx.commas L f σ = Sx.commas L g σ) := by
  have lE := fun f => (Sx.le_exprs hL f).1
  have lS := fun f => (Sx.le_exprs hL f).2.1
  have lU := fun f => (Sx.le_exprs hL f).2.2.1
  have lM := fun f => (Sx.le_exprs hL f).2.2.2.2.1
  have lB := fun f => (Sx.le_exprs hL f).2.2.2.2.2.1
  have lC := fun f => (Sx.le_exprs hL f).2.2.2.2.2.2
  induction f with
  | zero => refine ⟨?_, ?_, ?_, ?_, ?_, ?_, ?_⟩ <;> intros <;> omega
  | succ f ih =>
    obtain ⟨iE, iS, iU, iW, iM, iB, iC⟩ := ih
    refine ⟨fun g than σ hi hf hg => ?_, fun g than most c x σ hi hf hg => ?_, fun g σ hi hf hg => ?_, fun g s σ hi he hs hf hg => ?_, fun g n b σ hi hf hg => ?_, fun g t σ hi hf hg => ?_, fun g σ hi hf hg => ?_⟩
    · obtain ⟨g, rfl⟩ : ∃ k, g = k + 1 := ⟨g - 1, by omega⟩
      rw [Sx.expr, Sx.expr]
      have h1 := lU g σ
      have h2 := Sx.M_le h1
      rw [iU g σ hi (by omega) (by omega), iS g than 7 false _ _ (h1.2.2.1 hi) (by omega) (by omega)]
    · obtain ⟨g, rfl⟩ : ∃ k, g = k + 1 := ⟨g - 1, by omega⟩
      rw [Sx.signs, Sx.signs]
      split
      · rfl
      · rename_i he
        have he0 : σ.err = 0 := by omega
        simp only []
        split
        · rfl
        · rename_i h2
          have hk := Sx.tight_kind (L := L) (σ := σ) (n := than) (fun h => h2 (Or.inl h))
          have hn := Sx.le_next hL he0 hk
          have hm := Sx.M_next he0 hi
          have hi1 := hn.2.2.1 hi
          split
          · have h3 := Sx.le_some hL 2 (by decide) { σ with at' := σ.at' + 1 }
            have h4 := Sx.M_le h3
            rw [iS g than 5 _ _ _ (h3.2.2.1 hi1) (by omega) (by omega)]
          · have h3 := lE g (Sx.tight (Sx.text L σ)).1 { σ with at' := σ.at' + 1 }
            have h4 := Sx.M_le h3
            rw [iE g _ _ hi1 (by omega) (by omega), iS g than _ _ _ _ (h3.2.2.1 hi1) (by omega) (by omega)]
    · obtain ⟨g, rfl⟩ : ∃ k, g = k + 1 := ⟨g - 1, by omega⟩
      rw [Sx.unary, Sx.unary]
      split
      · rfl
      · rename_i he
        have he0 : σ.err = 0 := by omega
        simp only []
        split
        · have h1 := Sx.le_nest hL [40] (by decide) σ
          have h2 := Sx.M_nest (s := [40]) he0 hi
          rw [iE g 0 _ (h1.2.2.1 hi) (by omega) (by omega)]
        · split
          · rename_i h3
            have hs : Sx.text L σ ≠ [] := by rcases h3 with h | h | h <;> rw [h] <;> decide
            have h1 := Sx.le_nest hL (Sx.text L σ) hs σ
            have h2 := Sx.M_nest (s := Sx.text L σ) he0 hi
            rw [iU g _ (h1.2.2.1 hi) (by omega) (by omega)]
          · exact iW g _ σ hi he0 rfl (by omega) (by omega)
    · obtain ⟨g, rfl⟩ : ∃ k, g = k + 1 := ⟨g - 1, by omega⟩
      rw [Sx.word, Sx.word]
      simp only []
      split
      · rename_i w hw
        have h3 := Sx.wordsE_three hw
        have hne : Sx.text L σ ≠ [] := by
          intro e
          rw [hs, e, Sx.wordsE_nil] at hw; cases hw
        have hn := (Sx.le_next hL he (Sx.text_kind hne)).trans (Sx.le_nest hL [40] (by decide) { σ with at' := σ.at' + 1 })
        have hm := Sx.M_next he hi
        have hm2 := Sx.M_le (Sx.le_nest hL [40] (by decide) { σ with at' := σ.at' + 1 })
        rw [iM g w.2.2 true _ (hn.2.2.1 hi) (by omega) (by omega)]
      · split
        · rfl
        · have h1 := Sx.le_some hL 1 (by decide) σ
          have h2 := Sx.M_some (k := 1) he hi
          rw [iB g _ _ (h1.2.2.1 hi) (by omega) (by omega)]
    · obtain ⟨g, rfl⟩ : ∃ k, g = k + 1 := ⟨g - 1, by omega⟩
      cases n with
      | zero => rw [Sx.many, Sx.many]
      | succ n =>
        rw [Sx.many, Sx.many]
        have h1 : Sx.Le L σ (if b then σ else Sx.eat L [44] σ) := by
          split
          · exact Sx.Le.refl _ _
          · exact Sx.le_eat hL [44] (by decide) σ
        have h2 := Sx.M_le h1
        have hi1 := h1.2.2.1 hi
        have h3 := lE g 0 (if b then σ else Sx.eat L [44] σ)
        have h4 := Sx.M_le h3
        rw [iE g 0 _ hi1 (by omega) (by omega), iM g n false _ (h3.2.2.1 hi1) (by omega) (by omega)]
    · obtain ⟨g, rfl⟩ : ∃ k, g = k + 1 := ⟨g - 1, by omega⟩
      rw [Sx.behind, Sx.behind]
      split
      · rename_i hs
        have he0 := (Sx.sees_text hs).1
        simp only []
        have h1 := Sx.le_nest hL [40] (by decide) σ
        have h2 := Sx.M_nest (s := [40]) he0 hi
        have hi1 := h1.2.2.1 hi
        split
        · rfl
        · have h3 := lE g 0 (Sx.nest L [40] σ)
          have h4 := Sx.M_le h3
          rw [iE g 0 _ hi1 (by omega) (by omega), iC g _ (h3.2.2.1 hi1) (by omega) (by omega)]
      · split
        · rename_i hs
          have he0 := (Sx.sees_text hs).1
          have h1 := Sx.le_nest hL [91] (by decide) σ
          have h2 := Sx.M_nest (s := [91]) he0 hi
          simp only []
          rw [iE g 0 _ (h1.2.2.1 hi) (by omega) (by omega)]
        · rfl
    · obtain ⟨g, rfl⟩ : ∃ k, g = k + 1 := ⟨g - 1, by omega⟩
      rw [Sx.commas, Sx.commas]
      split
      · rename_i hm
        have h1 := Sx.le_may hL [44] (by decide) σ
        have h2 := Sx.M_may hm hi
        have hi1 := h1.2.2.1 hi
        simp only []
        have h3 := lE g 0 (Sx.may L [44] σ).2
        have h4 := Sx.M_le h3
        rw [iE g 0 _ hi1 (by omega) (by omega), iC g _ (h3.2.2.1 hi1) (by omega) (by omega)]
      · rfl
end Go.Proofs.YtjfdcnggnldgdaaGreatDoor
end
