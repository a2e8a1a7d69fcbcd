/-
Plain mathematics of layer 12, second part: a reader goes on and never back, keeps its first error, and never passes the text's end.
What Go's strings.TrimLeft, HasPrefix, IndexByte and Clone return: the library's contracts, laid here.
-/
import Derived.Test.YtbnhegipdfkdgaaDoorP02a
import Derived.Shelf.Strings.SlTrimAscii
import Derived.Shelf.Strings.Prefix
import Derived.Shelf.Strings.Search1
import Derived.Shelf.Small.Strs
import Derived.Shelf.Strconv.Clone
section
set_option linter.unusedVariables false
set_option linter.unusedSimpArgs false
namespace Go.Proofs.YtbnhegipdfkdgaaDoor

/-- the end's token is the last one -/
def Sx.Ends (L : List Lx.Tok) : Prop := ∀ (i : Nat) (x : Lx.Tok), L[i]? = .some x → x.kind ≠ 0 → i + 1 < L.length
/-- a later state of a reader: it goes on, its first error stays, and is told at the token at hand -/
def Sx.Le (L : List Lx.Tok) (σ τ : Sx.R) : Prop :=
  σ.at' ≤ τ.at' ∧ (σ.err ≠ 0 → τ.err = σ.err ∧ τ.pos = σ.pos ∧ τ.at' = σ.at') ∧ (σ.at' < L.length → τ.at' < L.length) ∧ (τ.err = σ.err ∨ τ.err = 10 ∨ τ.err = 11) ∧ (σ.err = 0 → τ.err ≠ 0 → τ.pos = (Sx.tk L τ).pos) ∧ (τ.err = 0 → τ.pos = σ.pos)
theorem Sx.Le.refl (L : List Lx.Tok) (σ : Sx.R) : Sx.Le L σ σ := ⟨Nat.le_refl _, fun _ => ⟨rfl, rfl, rfl⟩, fun h => h, Or.inl rfl, fun h h2 => absurd h h2, fun _ => rfl⟩
theorem Sx.tk_at {L : List Lx.Tok} {σ τ : Sx.R} (h : σ.at' = τ.at') : Sx.tk L σ = Sx.tk L τ := by unfold Sx.tk; rw [h]
theorem Sx.Le.trans {L : List Lx.Tok} {σ τ ρ : Sx.R} (h1 : Sx.Le L σ τ) (h2 : Sx.Le L τ ρ) : Sx.Le L σ ρ := by
  refine ⟨Nat.le_trans h1.1 h2.1, fun h => ?_, fun h => h2.2.2.1 (h1.2.2.1 h), ?_, fun h h' => ?_, fun h => ?_⟩
  · obtain ⟨a, b, c⟩ := h1.2.1 h
    obtain ⟨d, e, g⟩ := h2.2.1 (by rw [a]; exact h)
    exact ⟨d.trans a, e.trans b, g.trans c⟩
  · rcases h2.2.2.2.1 with h | h | h
    · rw [h]; exact h1.2.2.2.1
    · exact Or.inr (Or.inl h)
    · exact Or.inr (Or.inr h)
  · by_cases ht : τ.err = 0
    · exact h2.2.2.2.2.1 ht h'
    · obtain ⟨d, e, g⟩ := h2.2.1 ht
      rw [e, Sx.tk_at g]
      exact h1.2.2.2.2.1 h ht
  · by_cases ht : τ.err = 0
    · exact (h2.2.2.2.2.2 h).trans (h1.2.2.2.2.2 ht)
    · exact absurd ((h2.2.1 ht).1.symm.trans h) ht
theorem Sx.le_opn (L : List Lx.Tok) (σ : Sx.R) (k : Int) : Sx.Le L σ { σ with opn := k } := ⟨Nat.le_refl _, fun _ => ⟨rfl, rfl, rfl⟩, fun h => h, Or.inl rfl, fun h h2 => absurd h h2, fun _ => rfl⟩
theorem Sx.Le.opn {L : List Lx.Tok} {σ τ : Sx.R} (h : Sx.Le L σ τ) (k : Int) : Sx.Le L σ { τ with opn := k } := h.trans (Sx.le_opn L τ k)
theorem Sx.le_wrong (L : List Lx.Tok) (e : Int) (σ : Sx.R) (he : e = 10 ∨ e = 11) : Sx.Le L σ (Sx.wrong L e σ) := by
  unfold Sx.wrong
  split
  · rename_i h
    exact ⟨Nat.le_refl _, fun h2 => absurd h h2, fun h => h, Or.inr he, fun _ _ => rfl, fun h => absurd h (by rcases he with e | e <;> simp only [e] <;> decide)⟩
  · exact Sx.Le.refl _ _
/-- one token on, where it is not the end's -/
theorem Sx.le_next {L : List Lx.Tok} (hL : Sx.Ends L) {σ : Sx.R} (he : σ.err = 0) (hk : (Sx.tk L σ).kind ≠ 0) : Sx.Le L σ { σ with at' := σ.at' + 1 } := by
  refine ⟨Nat.le_succ _, fun h => absurd he h, fun h => ?_, Or.inl rfl, fun h h2 => absurd h h2, fun _ => rfl⟩
  have hx : L[σ.at']? = .some L[σ.at'] := List.getElem?_eq_getElem h
  refine hL _ _ hx ?_
  unfold Sx.tk at hk
  rwa [List.getD_eq_getElem?_getD, hx] at hk
theorem Sx.text_kind {L : List Lx.Tok} {σ : Sx.R} (h : Sx.text L σ ≠ []) : (Sx.tk L σ).kind ≠ 0 := by
  unfold Sx.text at h
  split at h
  · rename_i h1; rcases h1 with h1 | h1 <;> rw [h1] <;> decide
  · exact absurd rfl h
theorem Sx.le_eat {L : List Lx.Tok} (hL : Sx.Ends L) (s : List UInt8) (hs : s ≠ []) (σ : Sx.R) : Sx.Le L σ (Sx.eat L s σ) := by
  unfold Sx.eat
  split
  · exact Sx.Le.refl _ _
  · rename_i h1
    split
    · exact Sx.le_wrong L 10 σ (Or.inl rfl)
    · rename_i h2
      refine Sx.le_next hL (by omega) (Sx.text_kind ?_)
      intro e; exact h2 (by rw [e]; exact fun h => hs h.symm)
theorem Sx.sees_text {L : List Lx.Tok} {s : List UInt8} {σ : Sx.R} (h : Sx.sees L s σ = true) : σ.err = 0 ∧ Sx.text L σ = s := by
  unfold Sx.sees at h
  simpa using h
theorem Sx.le_may {L : List Lx.Tok} (hL : Sx.Ends L) (s : List UInt8) (hs : s ≠ []) (σ : Sx.R) : Sx.Le L σ (Sx.may L s σ).2 := by
  unfold Sx.may
  split
  · rename_i h
    obtain ⟨h1, h2⟩ := Sx.sees_text h
    exact Sx.le_next hL h1 (Sx.text_kind (by rw [h2]; exact hs))
  · exact Sx.Le.refl _ _
theorem Sx.le_nest {L : List Lx.Tok} (hL : Sx.Ends L) (s : List UInt8) (hs : s ≠ []) (σ : Sx.R) : Sx.Le L σ (Sx.nest L s σ) := by
  unfold Sx.nest
  refine Sx.Le.opn (Sx.Le.trans ?_ (Sx.le_eat hL s hs _)) _
  split
  · exact Sx.le_wrong L 11 σ (Or.inr rfl)
  · exact Sx.Le.refl _ _
theorem Sx.le_unnest {L : List Lx.Tok} (hL : Sx.Ends L) (s : List UInt8) (hs : s ≠ []) (σ : Sx.R) : Sx.Le L σ (Sx.unnest L s σ) := by
  unfold Sx.unnest
  exact Sx.Le.opn (Sx.le_eat hL s hs _) _
theorem Sx.le_some {L : List Lx.Tok} (hL : Sx.Ends L) (k : Int) (hk : k ≠ 0) (σ : Sx.R) : Sx.Le L σ (Sx.some L k σ).2 := by
  unfold Sx.some
  split
  · exact Sx.Le.refl _ _
  · rename_i h1
    split
    · exact Sx.le_wrong L 10 σ (Or.inl rfl)
    · rename_i h2
      exact Sx.le_next hL (by omega) (by omega)
theorem Sx.le_label {L : List Lx.Tok} (hL : Sx.Ends L) (σ : Sx.R) : Sx.Le L σ (Sx.label L σ).2 := by
  unfold Sx.label
  have h1 := Sx.le_may hL Sx.wSec (by decide) σ
  split
  · exact h1
  · exact h1.trans (Sx.le_eat hL _ (by decide) _)
theorem Sx.le_brackets {L : List Lx.Tok} (hL : Sx.Ends L) (σ : Sx.R) : Sx.Le L σ (Sx.brackets L σ).2 := by
  unfold Sx.brackets
  refine (Sx.le_eat hL [91] (by decide) σ).trans (Sx.Le.trans ?_ ((Sx.le_some hL 2 (by decide) _).trans (Sx.le_eat hL [93] (by decide) _)))
  split
  · exact Sx.le_wrong L 10 _ (Or.inl rfl)
  · exact Sx.Le.refl _ _
theorem Sx.le_type {L : List Lx.Tok} (hL : Sx.Ends L) (b : Bool) (l : Int) (σ : Sx.R) : Sx.Le L σ (Sx.type L b l σ).2 := by
  unfold Sx.type
  have h1 := Sx.le_may hL Sx.wMask (by decide) σ
  split
  · exact h1
  · simp only []
    have h2 := Sx.le_may hL Sx.wU8 (by decide) (Sx.may L Sx.wMask σ).2
    split
    · exact h1.trans (h2.trans (Sx.le_brackets hL _))
    · have h3 := Sx.le_eat hL Sx.wU32 (by decide) (Sx.may L Sx.wMask σ).2
      split
      · exact h1.trans (h3.trans (Sx.le_brackets hL _))
      · exact h1.trans h3
theorem Sx.le_param {L : List Lx.Tok} (hL : Sx.Ends L) (σ : Sx.R) : Sx.Le L σ (Sx.param L σ).2 := by
  unfold Sx.param
  exact (Sx.le_may hL Sx.wOut (by decide) σ).trans ((Sx.le_label hL _).trans ((Sx.le_some hL 1 (by decide) _).trans ((Sx.le_eat hL [58] (by decide) _).trans (Sx.le_type hL _ _ _))))
theorem Sx.tight_nil : Sx.tight [] = (0, 0) := by decide
theorem Sx.tight_kind {L : List Lx.Tok} {σ : Sx.R} {n : Nat} (h : ¬ (Sx.tight (Sx.text L σ)).1 ≤ n) : (Sx.tk L σ).kind ≠ 0 := by
  refine Sx.text_kind (fun e => h ?_)
  rw [e, Sx.tight_nil]; exact Nat.zero_le _
theorem Sx.le_exprs {L : List Lx.Tok} (hL : Sx.Ends L) (f : Nat) :
    (∀ than σ, Sx.Le L σ (Sx.expr L f than σ).2) ∧ (∀ than most c x σ, Sx.Le L σ (Sx.signs L f than most c x σ).2) ∧ (∀ σ, Sx.Le L σ (Sx.unary L f σ).2) ∧
    (∀ s σ, σ.err = 0 → s = Sx.text L σ → Sx.Le L σ (Sx.word L f s σ).2) ∧ (∀ n b σ, Sx.Le L σ (Sx.many L f n b σ).2) ∧ (∀ t σ, Sx.Le L σ (Sx.behind L f t σ).2) ∧ (∀ σ, Sx.Le L σ (Sx.commas L f σ).2) := by
  induction f with
  | zero =>
    refine ⟨fun _ _ => ?_, fun _ _ _ _ _ => ?_, fun _ => ?_, fun _ _ _ _ => ?_, fun _ _ _ => ?_, fun _ _ => ?_, fun _ => ?_⟩
    · rw [Sx.expr]; exact Sx.Le.refl _ _
    · rw [Sx.signs]; exact Sx.Le.refl _ _
    · rw [Sx.unary]; exact Sx.Le.refl _ _
    · rw [Sx.word]; exact Sx.Le.refl _ _
    · rw [Sx.many]; exact Sx.Le.refl _ _
    · rw [Sx.behind]; exact Sx.Le.refl _ _
    · rw [Sx.commas]; exact Sx.Le.refl _ _
  | succ f ih =>
    obtain ⟨iE, iS, iU, iW, iM, iB, iC⟩ := ih
    refine ⟨fun than σ => ?_, fun than most c x σ => ?_, fun σ => ?_, fun s σ he hs => ?_, fun n b σ => ?_, fun t σ => ?_, fun σ => ?_⟩
    · rw [Sx.expr]; exact (iU σ).trans (iS _ _ _ _ _)
    · rw [Sx.signs]
      split
      · exact Sx.Le.refl _ _
      · rename_i h1
        simp only []
        split
        · exact Sx.Le.refl _ _
        · rename_i h2
          have hn := Sx.le_next hL (σ := σ) (by omega) (Sx.tight_kind (n := than) (fun h => h2 (Or.inl h)))
          split
          · exact hn.trans ((Sx.le_some hL 2 (by decide) _).trans (iS _ _ _ _ _))
          · exact hn.trans ((iE _ _).trans (iS _ _ _ _ _))
    · rw [Sx.unary]
      split
      · exact Sx.Le.refl _ _
      · rename_i h1
        simp only []
        split
        · exact (Sx.le_nest hL [40] (by decide) σ).trans ((iE _ _).trans (Sx.le_unnest hL [41] (by decide) _))
        · split
          · rename_i h3
            have hs : Sx.text L σ ≠ [] := by rcases h3 with h | h | h <;> rw [h] <;> decide
            exact Sx.Le.opn ((Sx.le_nest hL _ hs σ).trans (iU _)) _
          · exact iW _ _ (by omega) rfl
    · rw [Sx.word]
      simp only []
      split
      · rename_i w hw
        have hne : Sx.text L σ ≠ [] := by
          intro e
          rw [hs, e] at hw
          have : Sx.wordsE.find? (fun x => x.1 == ([] : List UInt8)) = none := by decide
          rw [this] at hw; cases hw
        have h1 := (Sx.le_next hL he (Sx.text_kind hne)).trans ((Sx.le_nest hL [40] (by decide) _).trans (iM w.2.2 true _))
        split
        · exact h1.trans ((Sx.le_eat hL [44] (by decide) _).trans ((Sx.le_some hL 2 (by decide) _).trans (Sx.le_unnest hL [41] (by decide) _)))
        · exact h1.trans (Sx.le_unnest hL [41] (by decide) _)
      · split
        · rename_i h2
          exact Sx.le_next hL he (by rw [h2]; decide)
        · exact (Sx.le_some hL 1 (by decide) σ).trans (iB _ _)
    · cases n with
      | zero => rw [Sx.many]; exact Sx.Le.refl _ _
      | succ n =>
        rw [Sx.many]
        simp only []
        refine Sx.Le.trans ?_ ((iE 0 _).trans (iM n false _))
        split
        · exact Sx.Le.refl _ _
        · exact Sx.le_eat hL [44] (by decide) σ
    · rw [Sx.behind]
      split
      · simp only []
        have h1 := Sx.le_nest hL [40] (by decide) σ
        split
        · exact h1.trans (Sx.le_unnest hL [41] (by decide) _)
        · exact h1.trans ((iE _ _).trans ((iC _).trans (Sx.le_unnest hL [41] (by decide) _)))
      · split
        · exact (Sx.le_nest hL [91] (by decide) σ).trans ((iE _ _).trans (Sx.le_unnest hL [93] (by decide) _))
        · exact Sx.Le.refl _ _
    · rw [Sx.commas]
      have h1 := Sx.le_may hL [44] (by decide) σ
      split
      · exact h1.trans ((iE _ _).trans (iC _))
      · exact h1
/-! ### how much fuel serves: each token by itself, an error at once -/
def Sx.M (L : List Lx.Tok) (σ : Sx.R) : Nat := if σ.err ≠ 0 then 0 else 16 * (L.length - σ.at')
theorem Sx.M_err {L : List Lx.Tok} {σ : Sx.R} (h : σ.err ≠ 0) : Sx.M L σ = 0 := by unfold Sx.M; rw [if_pos h]
theorem Sx.M_le {L : List Lx.Tok} {σ τ : Sx.R} (h : Sx.Le L σ τ) : Sx.M L τ ≤ Sx.M L σ := by
  by_cases he : σ.err = 0
  · unfold Sx.M
    rw [if_neg (c := σ.err ≠ 0) (by omega)]
    have := h.1
    split <;> omega
  · have := (h.2.1 he).1
    rw [Sx.M_err (σ := τ) (by rw [this]; exact he)]; exact Nat.zero_le _
theorem Sx.M_pos {L : List Lx.Tok} {σ : Sx.R} (he : σ.err = 0) (hi : σ.at' < L.length) : 16 ≤ Sx.M L σ := by
  unfold Sx.M; rw [if_neg (by omega)]; omega
theorem Sx.M_fuel (L : List Lx.Tok) (σ : Sx.R) : Sx.M L σ ≤ 16 * L.length := by
  unfold Sx.M; split <;> omega
theorem Sx.M_next {L : List Lx.Tok} {σ : Sx.R} (he : σ.err = 0) (hi : σ.at' < L.length) : Sx.M L { σ with at' := σ.at' + 1 } + 16 ≤ Sx.M L σ := by
  unfold Sx.M; rw [if_neg (by simpa using he), if_neg (by omega)]; simp only; omega
theorem Sx.M_opn (L : List Lx.Tok) (σ : Sx.R) (k : Int) : Sx.M L { σ with opn := k } = Sx.M L σ := rfl
theorem Sx.wrong_err {L : List Lx.Tok} {e : Int} {σ : Sx.R} (he : e ≠ 0) : (Sx.wrong L e σ).err ≠ 0 := by
  unfold Sx.wrong; split
  · exact he
  · assumption
/-- what has to be there is read, or there is an error -/
theorem Sx.M_eat {L : List Lx.Tok} {s : List UInt8} {σ : Sx.R} (he : σ.err = 0) (hi : σ.at' < L.length) : Sx.M L (Sx.eat L s σ) + 16 ≤ Sx.M L σ := by
  unfold Sx.eat
  rw [if_neg (by omega)]
  split
  · rw [Sx.M_err (Sx.wrong_err (by decide))]; have := Sx.M_pos he hi; omega
  · exact Sx.M_next he hi
theorem Sx.M_some {L : List Lx.Tok} {k : Int} {σ : Sx.R} (he : σ.err = 0) (hi : σ.at' < L.length) : Sx.M L (Sx.some L k σ).2 + 16 ≤ Sx.M L σ := by
  unfold Sx.some
  rw [if_neg (by omega)]
  split
  · simp only []; rw [Sx.M_err (Sx.wrong_err (by decide))]; have := Sx.M_pos he hi; omega
  · exact Sx.M_next he hi
theorem Sx.M_may {L : List Lx.Tok} {s : List UInt8} {σ : Sx.R} (h : (Sx.may L s σ).1 = true) (hi : σ.at' < L.length) : Sx.M L (Sx.may L s σ).2 + 16 ≤ Sx.M L σ := by
  unfold Sx.may at h ⊢
  split at h
  · rename_i h1
    rw [if_pos h1]
    exact Sx.M_next (Sx.sees_text h1).1 hi
  · cases h
theorem Sx.M_nest {L : List Lx.Tok} {s : List UInt8} {σ : Sx.R} (he : σ.err = 0) (hi : σ.at' < L.length) : Sx.M L (Sx.nest L s σ) + 16 ≤ Sx.M L σ := by
  unfold Sx.nest
  simp only []
  rw [Sx.M_opn]
  split
  · have h1 : (Sx.wrong L 11 σ).err ≠ 0 := Sx.wrong_err (by decide)
    have h2 : Sx.eat L s (Sx.wrong L 11 σ) = Sx.wrong L 11 σ := by unfold Sx.eat; rw [if_pos h1]
    rw [h2, Sx.M_err h1]
    have := Sx.M_pos he hi; omega
  · exact Sx.M_eat he hi
theorem Sx.le_value {L : List Lx.Tok} (hL : Sx.Ends L) (l : List Sx.E) (σ : Sx.R) : Sx.Le L σ (Sx.value L l σ).2 := by
  unfold Sx.value Sx.ex
  exact ((Sx.le_exprs hL _).1 0 σ).trans (Sx.le_eat hL [59] (by decide) _)
theorem Sx.le_named {L : List Lx.Tok} (hL : Sx.Ends L) (p : Int) (σ : Sx.R) : Sx.Le L σ (Sx.named L p σ).2 := by
  have hB := (Sx.le_exprs hL (Sx.fuel L)).2.2.2.2.2.1
  unfold Sx.named
  simp only []
  have h1 := Sx.le_some hL 1 (by decide) σ
  split
  · exact h1.trans ((hB _ _).trans (Sx.le_eat hL [59] (by decide) _))
  · split
    · exact h1.trans ((hB _ _).trans ((Sx.le_eat hL [61] (by decide) _).trans (Sx.le_value hL [] _)))
    · exact h1.trans ((Sx.le_eat hL [61] (by decide) _).trans (Sx.le_value hL [] _))
theorem Sx.le_stmts {L : List Lx.Tok} (hL : Sx.Ends L) (f : Nat) :
    (∀ σ, Sx.Le L σ (Sx.block L f σ).2) ∧ (∀ σ, Sx.Le L σ (Sx.stmts L f σ).2) ∧ (∀ σ, Sx.Le L σ (Sx.stmt L f σ).2) := by
  have hE : ∀ σ, Sx.Le L σ (Sx.ex L σ).2 := fun σ => (Sx.le_exprs hL _).1 0 σ
  induction f with
  | zero =>
    refine ⟨fun _ => ?_, fun _ => ?_, fun _ => ?_⟩
    · rw [Sx.block]; exact Sx.Le.refl _ _
    · rw [Sx.stmts]; exact Sx.Le.refl _ _
    · rw [Sx.stmt]; exact Sx.Le.refl _ _
  | succ f ih =>
    obtain ⟨iB, iL, iS⟩ := ih
    refine ⟨fun σ => ?_, fun σ => ?_, fun σ => ?_⟩
    · rw [Sx.block]
      exact (Sx.le_nest hL [123] (by decide) σ).trans ((iL _).trans (Sx.le_unnest hL [125] (by decide) _))
    · rw [Sx.stmts]
      split
      · exact (iS σ).trans (iL _)
      · exact Sx.Le.refl _ _
    · rw [Sx.stmt]
      simp only []
      split
      · exact (Sx.le_may hL Sx.wLet (by decide) σ).trans ((Sx.le_some hL 1 (by decide) _).trans ((Sx.le_eat hL [61] (by decide) _).trans (Sx.le_value hL [] _)))
      · split
        · exact (Sx.le_may hL Sx.wVar (by decide) σ).trans ((Sx.le_label hL _).trans ((Sx.le_some hL 1 (by decide) _).trans ((Sx.le_eat hL [58] (by decide) _).trans ((Sx.le_type hL _ _ _).trans (Sx.le_eat hL [59] (by decide) _)))))
        · split
          · have h1 := (Sx.le_may hL Sx.wIf (by decide) σ).trans ((hE _).trans (iB _))
            split
            · exact h1.trans ((Sx.le_may hL Sx.wElse (by decide) _).trans (iB _))
            · exact h1.trans (Sx.le_may hL Sx.wElse (by decide) _)
          · split
            · exact (Sx.le_may hL Sx.wFor (by decide) σ).trans ((Sx.le_some hL 1 (by decide) _).trans ((Sx.le_eat hL [60] (by decide) _).trans ((hE _).trans ((Sx.le_eat hL Sx.wMax (by decide) _).trans ((Sx.le_some hL 2 (by decide) _).trans (iB _))))))
            · split
              · exact (Sx.le_may hL Sx.wRet (by decide) σ).trans (Sx.le_value hL [] _)
              · exact Sx.le_named hL _ σ
theorem Sx.le_params {L : List Lx.Tok} (hL : Sx.Ends L) (f : Nat) : ∀ σ, Sx.Le L σ (Sx.params L f σ).2 := by
  induction f with
  | zero => intro σ; rw [Sx.params]; exact Sx.Le.refl _ _
  | succ f ih =>
    intro σ
    rw [Sx.params]
    have h1 := Sx.le_may hL [44] (by decide) σ
    split
    · exact h1.trans ((Sx.le_param hL _).trans (ih _))
    · exact h1
theorem Sx.le_plist {L : List Lx.Tok} (hL : Sx.Ends L) (σ : Sx.R) : Sx.Le L σ (Sx.plist L σ).2 := by
  unfold Sx.plist
  split
  · exact Sx.Le.refl _ _
  · exact (Sx.le_param hL _).trans (Sx.le_params hL _ _)
theorem Sx.le_res {L : List Lx.Tok} (hL : Sx.Ends L) (c : Bool × Sx.R) : Sx.Le L c.2 (Sx.res L c).2 := by
  unfold Sx.res
  split
  · exact (Sx.le_label hL _).trans (Sx.le_type hL _ _ _)
  · exact Sx.Le.refl _ _
theorem Sx.le_function {L : List Lx.Tok} (hL : Sx.Ends L) (σ : Sx.R) : Sx.Le L σ (Sx.function L σ).2 := by
  unfold Sx.function
  exact (Sx.le_eat hL Sx.wFn (by decide) σ).trans ((Sx.le_some hL 1 (by decide) _).trans ((Sx.le_eat hL [40] (by decide) _).trans ((Sx.le_plist hL _).trans ((Sx.le_eat hL [41] (by decide) _).trans ((Sx.le_may hL [58] (by decide) _).trans ((Sx.le_res hL _).trans ((Sx.le_stmts hL _).1 _)))))))
theorem Sx.le_functions {L : List Lx.Tok} (hL : Sx.Ends L) (f : Nat) : ∀ σ, Sx.Le L σ (Sx.functions L f σ).2 := by
  induction f with
  | zero => intro σ; rw [Sx.functions]; exact Sx.Le.refl _ _
  | succ f ih =>
    intro σ
    rw [Sx.functions]
    split
    · exact (Sx.le_function hL _).trans (ih _)
    · exact Sx.Le.refl _ _
/-- what lex tells ends with its end -/
theorem Sx.ends_lex {s : List UInt8} {L : List Lx.Tok} (h : Lx.lex s = .ok L) : Sx.Ends L ∧ 0 < L.length := by
  unfold Lx.lex at h
  split at h
  · cases h
  · cases e : Lx.toks (s.length + 1) 0 s with
    | error q => rw [e] at h; cases h
    | ok us =>
      rw [e] at h
      cases h
      refine ⟨fun i x hx hk => ?_, by simp⟩
      rw [List.length_append, List.length_singleton]
      rcases Nat.lt_or_ge i us.length with h1 | h1
      · omega
      · exfalso
        rw [List.getElem?_append_right h1] at hx
        rcases hi : i - us.length with _ | j
        · rw [hi] at hx
          simp at hx
          exact hk (by rw [← hx])
        · rw [hi] at hx; simp at hx
end Go.Proofs.YtbnhegipdfkdgaaDoor
end
section
namespace Go.Proofs.YtbnhegipdfkdgaaDoor
open Go.Shelf Go.ChangeShapes Go.WideShapes Go.ChangeAt Go.RowKit
set_option linter.unusedVariables false
set_option linter.unusedSimpArgs false

def lay161_ren : Go.Shelf.Ren := ⟨fun | 161 => 20 | 231 => 36 | 227 => 37 | 233 => 38 | 235 => 39 | 228 => 51 | 197 => 52 | 151 => 53 | 260 => 64 | 152 => 65 | 137 => 56 | 119 => 74 | 224 => 68 | 225 => 67 | 217 => 66 | 266 => 75 | n => n, fun | 9 => 9 | 4 => 4 | 3 => 3 | 5 => 5 | 117 => 82 | 116 => 81 | 0 => 0 | 124 => 85 | 105 => 94 | 21 => 21 | 119 => 107 | 46 => 105 | 139 => 110 | 138 => 109 | n => n, fun | 3 => 1 | 4 => 2 | n => n⟩
theorem lay161 : Go.Proofs.Lays.n161 Tryd.prog lay161_ren := {
  mixed := by kernel_rfl
  f119 := Tryd.func74.trans (congrArg some (by kernel_rfl))
  f137 := Tryd.func56.trans (congrArg some (by kernel_rfl))
  f151 := Tryd.func53.trans (congrArg some (by kernel_rfl))
  f152 := Tryd.func65.trans (congrArg some (by kernel_rfl))
  f161 := Tryd.func20.trans (congrArg some (by kernel_rfl))
  f197 := Tryd.func52.trans (congrArg some (by kernel_rfl))
  f217 := Tryd.func66.trans (congrArg some (by kernel_rfl))
  f224 := Tryd.func68.trans (congrArg some (by kernel_rfl))
  f225 := Tryd.func67.trans (congrArg some (by kernel_rfl))
  f227 := Tryd.func37.trans (congrArg some (by kernel_rfl))
  f228 := Tryd.func51.trans (congrArg some (by kernel_rfl))
  f231 := Tryd.func36.trans (congrArg some (by kernel_rfl))
  f233 := Tryd.func38.trans (congrArg some (by kernel_rfl))
  f235 := Tryd.func39.trans (congrArg some (by kernel_rfl))
  f260 := Tryd.func64.trans (congrArg some (by kernel_rfl))
  f266 := Tryd.func75.trans (congrArg some (by kernel_rfl))
  t0 := Tryd.underlying0
  a0 := Tryd.isAgg0
  z0 := Tryd.sizeOf0
  v0 := Tryd.zeroValue0
  t3 := Tryd.underlying3
  a3 := Tryd.isAgg3
  z3 := Tryd.sizeOf3
  v3 := Tryd.zeroValue3
  t4 := Tryd.underlying4
  a4 := Tryd.isAgg4
  z4 := Tryd.sizeOf4
  v4 := Tryd.zeroValue4
  t5 := Tryd.underlying5
  a5 := Tryd.isAgg5
  z5 := Tryd.sizeOf5
  v5 := Tryd.zeroValue5
  t9 := Tryd.underlying9
  a9 := Tryd.isAgg9
  z9 := Tryd.sizeOf9
  v9 := Tryd.zeroValue9
  t21 := Tryd.underlying21
  a21 := Tryd.isAgg21
  z21 := Tryd.sizeOf21
  v21 := Tryd.zeroValue21
  t46 := Tryd.underlying105
  a46 := Tryd.isAgg105
  z46 := Tryd.sizeOf105
  v46 := Tryd.zeroValue105
  t105 := Tryd.underlying94
  a105 := Tryd.isAgg94
  z105 := Tryd.sizeOf94
  v105 := Tryd.zeroValue94
  t116 := Tryd.underlying81
  a116 := Tryd.isAgg81
  z116 := Tryd.sizeOf81
  t117 := Tryd.underlying82
  a117 := Tryd.isAgg82
  z117 := Tryd.sizeOf82
  v117 := Tryd.zeroValue82
  t119 := Tryd.underlying107
  a119 := Tryd.isAgg107
  z119 := Tryd.sizeOf107
  t124 := Tryd.underlying85
  a124 := Tryd.isAgg85
  z124 := Tryd.sizeOf85
  v124 := Tryd.zeroValue85
  t138 := Tryd.underlying109
  a138 := Tryd.isAgg109
  z138 := Tryd.sizeOf109
  v138 := Tryd.zeroValue109
  t139 := Tryd.underlying110
  a139 := Tryd.isAgg110
  z139 := Tryd.sizeOf110
  v139 := Tryd.zeroValue110
  g3 := by kernel_rfl
  g4 := by kernel_rfl }
def lay99_ren : Go.Shelf.Ren := ⟨fun | 99 => 21 | 206 => 40 | n => n, fun | 9 => 9 | 4 => 4 | 3 => 3 | n => n, fun | n => n⟩
theorem lay99 : Go.Proofs.Lays.n99 Tryd.prog lay99_ren := {
  mixed := by kernel_rfl
  f99 := Tryd.func21.trans (congrArg some (by kernel_rfl))
  f206 := Tryd.func40.trans (congrArg some (by kernel_rfl))
  t3 := Tryd.underlying3
  a3 := Tryd.isAgg3
  z3 := Tryd.sizeOf3
  v3 := Tryd.zeroValue3
  t4 := Tryd.underlying4
  a4 := Tryd.isAgg4
  z4 := Tryd.sizeOf4
  v4 := Tryd.zeroValue4
  t9 := Tryd.underlying9
  a9 := Tryd.isAgg9
  z9 := Tryd.sizeOf9
  v9 := Tryd.zeroValue9 }
def lay206_ren : Go.Shelf.Ren := ⟨fun | 206 => 40 | n => n, fun | 9 => 9 | 4 => 4 | 3 => 3 | n => n, fun | n => n⟩
theorem lay206 : Go.Proofs.Lays.n206 Tryd.prog lay206_ren := {
  mixed := by kernel_rfl
  f206 := Tryd.func40.trans (congrArg some (by kernel_rfl))
  t3 := Tryd.underlying3
  a3 := Tryd.isAgg3
  z3 := Tryd.sizeOf3
  v3 := Tryd.zeroValue3
  t4 := Tryd.underlying4
  a4 := Tryd.isAgg4
  z4 := Tryd.sizeOf4
  v4 := Tryd.zeroValue4
  t9 := Tryd.underlying9
  a9 := Tryd.isAgg9
  z9 := Tryd.sizeOf9
  v9 := Tryd.zeroValue9 }
def lay217_ren : Go.Shelf.Ren := ⟨fun | 217 => 66 | 266 => 75 | n => n, fun | 9 => 9 | 5 => 5 | 3 => 3 | n => n, fun | n => n⟩
theorem lay217 : Go.Proofs.Lays.n217 Tryd.prog lay217_ren := {
  mixed := by kernel_rfl
  f217 := Tryd.func66.trans (congrArg some (by kernel_rfl))
  f266 := Tryd.func75.trans (congrArg some (by kernel_rfl))
  t3 := Tryd.underlying3
  a3 := Tryd.isAgg3
  z3 := Tryd.sizeOf3
  v3 := Tryd.zeroValue3
  t5 := Tryd.underlying5
  a5 := Tryd.isAgg5
  z5 := Tryd.sizeOf5
  v5 := Tryd.zeroValue5
  t9 := Tryd.underlying9
  a9 := Tryd.isAgg9
  z9 := Tryd.sizeOf9
  v9 := Tryd.zeroValue9 }
def lay137_ren : Go.Shelf.Ren := ⟨fun | 137 => 56 | 217 => 66 | 266 => 75 | n => n, fun | 9 => 9 | 5 => 5 | 3 => 3 | n => n, fun | n => n⟩
theorem lay137 : Go.Proofs.Lays.n137 Tryd.prog lay137_ren := {
  mixed := by kernel_rfl
  f137 := Tryd.func56.trans (congrArg some (by kernel_rfl))
  f217 := Tryd.func66.trans (congrArg some (by kernel_rfl))
  f266 := Tryd.func75.trans (congrArg some (by kernel_rfl))
  t3 := Tryd.underlying3
  a3 := Tryd.isAgg3
  z3 := Tryd.sizeOf3
  v3 := Tryd.zeroValue3
  t5 := Tryd.underlying5
  a5 := Tryd.isAgg5
  z5 := Tryd.sizeOf5
  v5 := Tryd.zeroValue5
  t9 := Tryd.underlying9
  a9 := Tryd.isAgg9
  z9 := Tryd.sizeOf9
  v9 := Tryd.zeroValue9 }
def lay316_ren : Go.Shelf.Ren := ⟨fun | 316 => 44 | n => n, fun | 9 => 9 | 3 => 3 | 4 => 4 | 37 => 99 | 0 => 0 | 127 => 100 | 5 => 5 | n => n, fun | n => n⟩
theorem lay316 : Go.Proofs.LaysM.n316 Tryd.prog lay316_ren := {
  mixed := by kernel_rfl
  f316 := Tryd.func44.trans (congrArg some (by kernel_rfl))
  t0 := Tryd.underlying0
  a0 := Tryd.isAgg0
  z0 := Tryd.sizeOf0
  v0 := Tryd.zeroValue0
  t3 := Tryd.underlying3
  a3 := Tryd.isAgg3
  z3 := Tryd.sizeOf3
  v3 := Tryd.zeroValue3
  t4 := Tryd.underlying4
  a4 := Tryd.isAgg4
  z4 := Tryd.sizeOf4
  v4 := Tryd.zeroValue4
  t9 := Tryd.underlying9
  a9 := Tryd.isAgg9
  z9 := Tryd.sizeOf9
  v9 := Tryd.zeroValue9
  t37 := Tryd.underlying99
  a37 := Tryd.isAgg99
  z37 := Tryd.sizeOf99
  v37 := Tryd.zeroValue99
  t127 := Tryd.underlying100
  a127 := Tryd.isAgg100
  z127 := Tryd.sizeOf100
  v127 := Tryd.zeroValue100
  t5 := Tryd.underlying5
  a5 := Tryd.isAgg5
  z5 := Tryd.sizeOf5
  v5 := Tryd.zeroValue5
  i0 := by kernel_rfl
  i3 := by kernel_rfl
  i4 := by kernel_rfl
  i5 := by kernel_rfl
  i9 := by kernel_rfl
  i37 := by kernel_rfl
  i127 := by kernel_rfl }
theorem trim_any (s : ByteArray) (w : World) :
    Calls Tryd.prog 20 #[.string s, .string ⟨#[32, 9, 10, 13]⟩] w fun e w' => e = .returned (.string (Lx.S (s.data.toList.dropWhile Lx.blank))) ∧ Below w.heap.size w w' := by
  refine (Any.strings_TrimLeft_laid lay161 (by kernel_rfl) s ⟨#[32, 9, 10, 13]⟩ w (by decide) (ascii_of_all (by decide))).mono fun e w' h => ⟨h.1.trans ?_, h.2⟩
  have hc : ∀ c : UInt8, ([32, 9, 10, 13] : List UInt8).contains c = Lx.blank c := fun c => by
    rw [Bool.eq_iff_iff]
    simp only [Lx.blank, List.contains_iff_mem, List.mem_cons, List.not_mem_nil, or_false, Bool.or_eq_true, decide_eq_true_eq, or_assoc, ← UInt8.toNat_inj]
    rfl
  have he : Lib.trimLeftS s.data.toList ([32, 9, 10, 13] : List UInt8) = s.data.toList.dropWhile Lx.blank := by unfold Lib.trimLeftS; congr 1; funext c; exact hc c
  exact ret_str' (congrArg Lx.S he)
theorem pre_any (s p : ByteArray) (w : World) :
    Calls Tryd.prog 21 #[.string s, .string p] w fun e w' => e = .returned (.bool (p.data.toList.isPrefixOf s.data.toList)) ∧ w' = w := Any.strings_HasPrefix lay99 s p w
theorem spre_any (s p : ByteArray) (w : World) :
    Calls Tryd.prog 40 #[.string s, .string p] w fun e w' => e = .returned (.bool (p.data.toList.isPrefixOf s.data.toList)) ∧ w' = w := Any.stringslite_HasPrefix lay206 s p w
theorem ixb_any (s : ByteArray) (c : UInt8) (w : World) :
    Calls Tryd.prog 56 #[.string s, .int .u8 c.toNat] w fun e w' => e = .returned (.int .i64 (Lib.indexByte s.data.toList c)) ∧ w' = w := by
  have h := Any.strings_IndexByte lay137 s (c.toNat : Int) w
  rwa [show ((c.toNat : Int).toNat).toUInt8 = c from by simp] at h
theorem sixb_any (s : ByteArray) (c : UInt8) (w : World) :
    Calls Tryd.prog 66 #[.string s, .int .u8 c.toNat] w fun e w' => e = .returned (.int .i64 (Lib.indexByte s.data.toList c)) ∧ w' = w := by
  have h := Any.stringslite_IndexByte lay217 s (c.toNat : Int) w
  rwa [show ((c.toNat : Int).toNat).toUInt8 = c from by simp] at h
theorem sclone_any (s : ByteArray) (w : World) (h : s.size ≤ 281474976710656) :
    Calls Tryd.prog 44 #[.string s] w fun e w' => e = .returned (.string s) ∧ Below w.heap.size w w' := Any.stringslite_Clone lay316 s w h
set_option maxHeartbeats 2000000 in
theorem clone_any (s : ByteArray) (w : World) (h : s.size ≤ 281474976710656) :
    Calls Tryd.prog 27 #[.string s] w fun e w' => e = .returned (.string s) ∧ Below w.heap.size w w' := by
  have C := Lib.hid fun w => sclone_any s w h
  clear h
  go_enter Tryd.func27, Tryd.ntmps27
  go_wp2_with (go_at_call 44; refine (C.out _).mono ?_; rintro e w1 ⟨rfl, hb1⟩)
  go_ret
  exact ⟨rfl, hb1⟩
end Go.Proofs.YtbnhegipdfkdgaaDoor
end
