/-
Plain mathematics of layer 12, sixth part: lists of tokens that agree as far as a reader comes are read alike, statements and functions.
What lex's words and token return.
-/
import Derived.Test.YtbnhegipdfkdgaaDoorP06a
import Derived.Maps.OwnOps
import Derived.Maps.OwnSet
section
set_option linter.unusedVariables false
set_option linter.unusedSimpArgs false
namespace Go.Proofs.YtbnhegipdfkdgaaDoor

theorem Sx.lo_lt {L L' : List Lx.Tok} {k i : Nat} (h : Sx.Lo L L' k) (hk : i ≤ k) (hi : i < L.length) : i < L'.length := by
  have h1 := h i hk
  rw [List.getElem?_eq_getElem hi] at h1
  exact (List.getElem?_eq_some_iff.1 h1).1
theorem Sx.lo_ex {L L' : List Lx.Tok} (hL : Sx.Ends L) (hL' : Sx.Ends L') {k : Nat} {σ : Sx.R} (hi : σ.at' < L.length) (h : Sx.Lo L L' k) (hk : (Sx.ex L σ).2.at' ≤ k) : Sx.ex L' σ = Sx.ex L σ := by
  have hi' := Sx.lo_lt h (((Sx.le_exprs hL _).1 0 σ).k hk) hi
  have hm := Sx.M_fuel L σ
  have hm' := Sx.M_fuel L' σ
  unfold Sx.ex at hk ⊢
  have e1 : Sx.expr L (Sx.fuel L) 0 σ = Sx.expr L (Sx.fuel L + Sx.fuel L') 0 σ := (Sx.enough hL _).1 _ 0 σ hi (by unfold Sx.fuel; omega) (by unfold Sx.fuel; omega)
  have e2 : Sx.expr L' (Sx.fuel L') 0 σ = Sx.expr L' (Sx.fuel L + Sx.fuel L') 0 σ := (Sx.enough hL' _).1 _ 0 σ hi' (by unfold Sx.fuel; omega) (by unfold Sx.fuel; omega)
  rw [e1] at hk ⊢
  rw [e2]
  exact (Sx.lo_exprs hL h _).1 0 σ hk
theorem Sx.lo_behind {L L' : List Lx.Tok} (hL : Sx.Ends L) (hL' : Sx.Ends L') {k : Nat} {σ : Sx.R} {t : Lx.Tok} (hi : σ.at' < L.length) (h : Sx.Lo L L' k) (hk : (Sx.behind L (Sx.fuel L) t σ).2.at' ≤ k) : Sx.behind L' (Sx.fuel L') t σ = Sx.behind L (Sx.fuel L) t σ := by
  have hi' := Sx.lo_lt h (((Sx.le_exprs hL _).2.2.2.2.2.1 t σ).k hk) hi
  have hm := Sx.M_fuel L σ
  have hm' := Sx.M_fuel L' σ
  have e1 : Sx.behind L (Sx.fuel L) t σ = Sx.behind L (Sx.fuel L + Sx.fuel L') t σ := (Sx.enough hL _).2.2.2.2.2.1 _ t σ hi (by unfold Sx.fuel; omega) (by unfold Sx.fuel; omega)
  have e2 : Sx.behind L' (Sx.fuel L') t σ = Sx.behind L' (Sx.fuel L + Sx.fuel L') t σ := (Sx.enough hL' _).2.2.2.2.2.1 _ t σ hi' (by unfold Sx.fuel; omega) (by unfold Sx.fuel; omega)
  rw [e1] at hk ⊢
  rw [e2]
  exact (Sx.lo_exprs hL h _).2.2.2.2.2.1 t σ hk
theorem Sx.lo_value {L L' : List Lx.Tok} (hL : Sx.Ends L) (hL' : Sx.Ends L') {k : Nat} {σ : Sx.R} {l : List Sx.E} (hi : σ.at' < L.length) (h : Sx.Lo L L' k) (hk : (Sx.value L l σ).2.at' ≤ k) : Sx.value L' l σ = Sx.value L l σ := by
  unfold Sx.value at hk ⊢
  simp only [] at hk ⊢
  have h1 := (Sx.le_eat hL [59] (by decide) _).k hk
  rw [Sx.lo_ex hL hL' hi h h1, Sx.lo_eat h h1]
theorem Sx.lo_named {L L' : List Lx.Tok} (hL : Sx.Ends L) (hL' : Sx.Ends L') {k : Nat} {σ : Sx.R} {p : Int} (hi : σ.at' < L.length) (h : Sx.Lo L L' k) (hk : (Sx.named L p σ).2.at' ≤ k) : Sx.named L' p σ = Sx.named L p σ := by
  have hσ := (Sx.le_named hL p σ).k hk
  have lB := fun t σ => (Sx.le_exprs hL (Sx.fuel L)).2.2.2.2.2.1 t σ
  have hi1 := (Sx.le_some hL 1 (by decide) σ).2.2.1 hi
  unfold Sx.named at hk ⊢
  simp only [] at hk ⊢
  have h1 : (Sx.some L 1 σ).2.at' ≤ k := by
    split at hk
    · exact ((lB _ _).trans (Sx.le_eat hL [59] (by decide) _)).k hk
    · split at hk
      · exact ((lB (Sx.some L 1 σ).1 (Sx.some L 1 σ).2).trans ((Sx.le_eat hL [61] (by decide) _).trans (Sx.le_value hL (Sx.behind L (Sx.fuel L) (Sx.some L 1 σ).1 (Sx.some L 1 σ).2).1.args _))).k hk
      · exact ((Sx.le_eat hL [61] (by decide) (Sx.some L 1 σ).2).trans (Sx.le_value hL [] _)).k hk
  rw [Sx.lo_some h hσ, Sx.lo_sees h h1, Sx.lo_sees h h1]
  split
  · rename_i h2
    rw [if_pos h2] at hk
    have h3 := (Sx.le_eat hL [59] (by decide) _).k hk
    rw [Sx.lo_behind hL hL' hi1 h h3, Sx.lo_eat h h3]
  · rename_i h2
    rw [if_neg h2] at hk
    split
    · rename_i h4
      rw [if_pos h4] at hk
      have h5 := (Sx.le_value hL (Sx.behind L (Sx.fuel L) (Sx.some L 1 σ).1 (Sx.some L 1 σ).2).1.args _).k hk
      have h6 := (Sx.le_eat hL [61] (by decide) _).k h5
      rw [Sx.lo_behind hL hL' hi1 h h6, Sx.lo_eat h h6, Sx.lo_value hL hL' (((lB _ _).trans (Sx.le_eat hL [61] (by decide) _)).2.2.1 hi1) h hk]
    · rename_i h4
      rw [if_neg h4] at hk
      rw [Sx.lo_eat h h1, Sx.lo_value hL hL' ((Sx.le_eat hL [61] (by decide) _).2.2.1 hi1) h hk]
theorem Sx.lo_stmts {L L' : List Lx.Tok} (hL : Sx.Ends L) (hL' : Sx.Ends L') {k : Nat} (h : Sx.Lo L L' k) (f : Nat) :
    (∀ σ, σ.at' < L.length → (Sx.block L f σ).2.at' ≤ k → Sx.block L' f σ = Sx.block L f σ) ∧
    (∀ σ, σ.at' < L.length → (Sx.stmts L f σ).2.at' ≤ k → Sx.stmts L' f σ = Sx.stmts L f σ) ∧
    (∀ σ, σ.at' < L.length → (Sx.stmt L f σ).2.at' ≤ k → Sx.stmt L' f σ = Sx.stmt L f σ) := by
  have hE : ∀ σ, Sx.Le L σ (Sx.ex L σ).2 := fun σ => (Sx.le_exprs hL _).1 0 σ
  have lB : ∀ f σ, Sx.Le L σ (Sx.block L f σ).2 := fun f => (Sx.le_stmts hL f).1
  have lL : ∀ f σ, Sx.Le L σ (Sx.stmts L f σ).2 := fun f => (Sx.le_stmts hL f).2.1
  have lS : ∀ f σ, Sx.Le L σ (Sx.stmt L f σ).2 := fun f => (Sx.le_stmts hL f).2.2
  induction f with
  | zero =>
    refine ⟨fun _ _ _ => ?_, fun _ _ _ => ?_, fun _ _ _ => ?_⟩
    · rw [Sx.block, Sx.block]
    · rw [Sx.stmts, Sx.stmts]
    · rw [Sx.stmt, Sx.stmt]
  | succ f ih =>
    obtain ⟨iB, iL, iS⟩ := ih
    refine ⟨fun σ hi hk => ?_, fun σ hi hk => ?_, fun σ hi hk => ?_⟩
    · have hσ := (lB (f + 1) σ).k hk
      rw [Sx.block] at hk
      rw [Sx.block, Sx.block]
      try simp only [] at hk ⊢
      have h1 := (Sx.le_unnest hL [125] (by decide) _).k hk
      rw [Sx.lo_nest h hσ, iL _ ((Sx.le_nest hL [123] (by decide) σ).2.2.1 hi) h1, Sx.lo_unnest h h1]
    · have hσ := (lL (f + 1) σ).k hk
      rw [Sx.stmts] at hk
      rw [Sx.stmts, Sx.stmts, Sx.lo_sees h hσ]
      split
      · rename_i h1
        rw [if_pos h1] at hk
        simp only [] at hk ⊢
        have h2 := (lL f _).k hk
        rw [iS _ hi h2, iL _ ((lS f σ).2.2.1 hi) hk]
      · rfl
    · have hσ := (lS (f + 1) σ).k hk
      rw [Sx.stmt] at hk
      rw [Sx.stmt, Sx.stmt]
      simp only [] at hk ⊢
      rw [Sx.lo_may h hσ, Sx.lo_may h hσ, Sx.lo_may h hσ, Sx.lo_may h hσ, Sx.lo_may h hσ, Sx.lo_tk h hσ]
      split
      · rename_i h1
        rw [if_pos h1] at hk
        have hi1 := (Sx.le_may hL Sx.wLet (by decide) σ).2.2.1 hi
        have q1 := (Sx.le_value hL [] _).k hk
        have q2 := (Sx.le_eat hL [61] (by decide) _).k q1
        have q3 := (Sx.le_some hL 1 (by decide) _).k q2
        rw [Sx.lo_some h q3, Sx.lo_eat h q2, Sx.lo_value hL hL' (((Sx.le_some hL 1 (by decide) _).trans (Sx.le_eat hL [61] (by decide) _)).2.2.1 hi1) h hk]
      · rename_i h1
        rw [if_neg h1] at hk
        split
        · rename_i h2
          rw [if_pos h2] at hk
          have q1 := (Sx.le_eat hL [59] (by decide) _).k hk
          have q2 := (Sx.le_type hL _ _ _).k q1
          have q3 := (Sx.le_eat hL [58] (by decide) _).k q2
          have q4 := (Sx.le_some hL 1 (by decide) _).k q3
          rw [Sx.lo_label hL h q4, Sx.lo_some h q4, Sx.lo_eat h q3, Sx.lo_type hL h q1, Sx.lo_eat h q1]
        · rename_i h2
          rw [if_neg h2] at hk
          split
          · rename_i h3
            rw [if_pos h3] at hk
            have hi1 := (Sx.le_may hL Sx.wIf (by decide) σ).2.2.1 hi
            have hi2 := (hE (Sx.may L Sx.wIf σ).2).2.2.1 hi1
            have q1 : (Sx.block L f (Sx.ex L (Sx.may L Sx.wIf σ).2).2).2.at' ≤ k := by
              split at hk
              · exact ((Sx.le_may hL Sx.wElse (by decide) _).trans (lB f _)).k hk
              · exact (Sx.le_may hL Sx.wElse (by decide) _).k hk
            have q2 := (lB f _).k q1
            rw [Sx.lo_ex hL hL' hi1 h q2, iB _ hi2 q1, Sx.lo_may h q1]
            split
            · rename_i h4
              rw [if_pos h4] at hk
              have hi3 := ((lB f (Sx.ex L (Sx.may L Sx.wIf σ).2).2).trans (Sx.le_may hL Sx.wElse (by decide) _)).2.2.1 hi2
              rw [iB _ hi3 hk]
            · rfl
          · rename_i h3
            rw [if_neg h3] at hk
            split
            · rename_i h4
              rw [if_pos h4] at hk
              have hi1 := (Sx.le_may hL Sx.wFor (by decide) σ).2.2.1 hi
              have hi2 := ((Sx.le_some hL 1 (by decide) (Sx.may L Sx.wFor σ).2).trans (Sx.le_eat hL [60] (by decide) _)).2.2.1 hi1
              have q1 := (lB f _).k hk
              have q2 := (Sx.le_some hL 2 (by decide) _).k q1
              have q3 := (Sx.le_eat hL Sx.wMax (by decide) _).k q2
              have q4 := (hE _).k q3
              have q5 := (Sx.le_eat hL [60] (by decide) _).k q4
              have q6 := (Sx.le_some hL 1 (by decide) _).k q5
              have hi3 := ((hE _).trans ((Sx.le_eat hL Sx.wMax (by decide) _).trans (Sx.le_some hL 2 (by decide) _))).2.2.1 hi2
              rw [Sx.lo_some h q6, Sx.lo_eat h q5, Sx.lo_ex hL hL' hi2 h q3, Sx.lo_eat h q3, Sx.lo_some h q2, iB _ hi3 hk]
            · rename_i h4
              rw [if_neg h4] at hk
              split
              · rename_i h5
                rw [if_pos h5] at hk
                rw [Sx.lo_value hL hL' ((Sx.le_may hL Sx.wRet (by decide) σ).2.2.1 hi) h hk]
              · rename_i h5
                rw [if_neg h5] at hk
                exact Sx.lo_named hL hL' hi h hk
theorem Sx.lo_params {L L' : List Lx.Tok} (hL : Sx.Ends L) {k : Nat} (h : Sx.Lo L L' k) (f : Nat) : ∀ σ, (Sx.params L f σ).2.at' ≤ k → Sx.params L' f σ = Sx.params L f σ := by
  induction f with
  | zero => intros; rw [Sx.params, Sx.params]
  | succ f ih =>
    intro σ hk
    have hσ := (Sx.le_params hL _ σ).k hk
    rw [Sx.params] at hk
    rw [Sx.params, Sx.params, Sx.lo_may h hσ]
    split
    · rename_i h1
      rw [if_pos h1] at hk
      simp only [] at hk ⊢
      have h2 := (Sx.le_params hL f _).k hk
      rw [Sx.lo_param hL h h2, ih _ hk]
    · rfl
theorem Sx.lo_plist {L L' : List Lx.Tok} (hL : Sx.Ends L) (hL' : Sx.Ends L') {k : Nat} {σ : Sx.R} (hi : σ.at' < L.length) (h : Sx.Lo L L' k) (hk : (Sx.plist L σ).2.at' ≤ k) : Sx.plist L' σ = Sx.plist L σ := by
  have hσ := (Sx.le_plist hL σ).k hk
  unfold Sx.plist at hk ⊢
  rw [Sx.lo_sees h hσ]
  split
  · rfl
  · rename_i h1
    rw [if_neg h1] at hk
    simp only [] at hk ⊢
    have h2 := (Sx.le_params hL _ _).k hk
    have hi1 := (Sx.le_param hL σ).2.2.1 hi
    have hi2 := Sx.lo_lt h h2 hi1
    have hm := Sx.M_fuel L (Sx.param L σ).2
    have hm' := Sx.M_fuel L' (Sx.param L σ).2
    have e1 : Sx.params L (Sx.fuel L) (Sx.param L σ).2 = Sx.params L (Sx.fuel L + Sx.fuel L') (Sx.param L σ).2 := Sx.enough_params hL _ _ _ hi1 (by unfold Sx.fuel; omega) (by unfold Sx.fuel; omega)
    have e2 : Sx.params L' (Sx.fuel L') (Sx.param L σ).2 = Sx.params L' (Sx.fuel L + Sx.fuel L') (Sx.param L σ).2 := Sx.enough_params hL' _ _ _ hi2 (by unfold Sx.fuel; omega) (by unfold Sx.fuel; omega)
    rw [Sx.lo_param hL h h2, e2]
    rw [e1] at hk ⊢
    rw [Sx.lo_params hL h _ _ hk]
theorem Sx.lo_res {L L' : List Lx.Tok} (hL : Sx.Ends L) {k : Nat} {c : Bool × Sx.R} (h : Sx.Lo L L' k) (hk : (Sx.res L c).2.at' ≤ k) : Sx.res L' c = Sx.res L c := by
  unfold Sx.res at hk ⊢
  split
  · rename_i h1
    rw [if_pos h1] at hk
    simp only [] at hk ⊢
    have h2 := (Sx.le_type hL _ _ _).k hk
    rw [Sx.lo_label hL h h2, Sx.lo_type hL h hk]
  · rfl
theorem Sx.lo_block {L L' : List Lx.Tok} (hL : Sx.Ends L) (hL' : Sx.Ends L') {k : Nat} {σ : Sx.R} (hi : σ.at' < L.length) (h : Sx.Lo L L' k) (hk : (Sx.block L (Sx.fuel L) σ).2.at' ≤ k) : Sx.block L' (Sx.fuel L') σ = Sx.block L (Sx.fuel L) σ := by
  have hi' := Sx.lo_lt h (((Sx.le_stmts hL _).1 σ).k hk) hi
  have hm := Sx.M_fuel L σ
  have hm' := Sx.M_fuel L' σ
  have e1 : Sx.block L (Sx.fuel L) σ = Sx.block L (Sx.fuel L + Sx.fuel L') σ := (Sx.enough_stmts hL _).1 _ σ hi (by unfold Sx.fuel; omega) (by unfold Sx.fuel; omega)
  have e2 : Sx.block L' (Sx.fuel L') σ = Sx.block L' (Sx.fuel L + Sx.fuel L') σ := (Sx.enough_stmts hL' _).1 _ σ hi' (by unfold Sx.fuel; omega) (by unfold Sx.fuel; omega)
  rw [e1] at hk ⊢
  rw [e2]
  exact (Sx.lo_stmts hL hL' h _).1 σ hi hk
theorem Sx.lo_function {L L' : List Lx.Tok} (hL : Sx.Ends L) (hL' : Sx.Ends L') {k : Nat} {σ : Sx.R} (hi : σ.at' < L.length) (h : Sx.Lo L L' k) (hk : (Sx.function L σ).2.at' ≤ k) : Sx.function L' σ = Sx.function L σ := by
  have hσ := (Sx.le_function hL σ).k hk
  unfold Sx.function at hk ⊢
  simp only [] at hk ⊢
  have q1 := ((Sx.le_stmts hL _).1 _).k hk
  have q2 := (Sx.le_res hL _).k q1
  have q3 := (Sx.le_may hL [58] (by decide) _).k q2
  have q4 := (Sx.le_eat hL [41] (by decide) _).k q3
  have q5 := (Sx.le_plist hL _).k q4
  have q6 := (Sx.le_eat hL [40] (by decide) _).k q5
  have q7 := (Sx.le_some hL 1 (by decide) _).k q6
  have i1 := ((Sx.le_eat hL Sx.wFn (by decide) σ).trans ((Sx.le_some hL 1 (by decide) _).trans (Sx.le_eat hL [40] (by decide) _))).2.2.1 hi
  have i2 := ((Sx.le_plist hL _).trans ((Sx.le_eat hL [41] (by decide) _).trans ((Sx.le_may hL [58] (by decide) _).trans (Sx.le_res hL _)))).2.2.1 i1
  rw [Sx.lo_eat h hσ, Sx.lo_some h q7, Sx.lo_eat h q6, Sx.lo_plist hL hL' i1 h q4, Sx.lo_eat h q4, Sx.lo_may h q3, Sx.lo_res hL h q1, Sx.lo_block hL hL' i2 h hk]
theorem Sx.lo_functions {L L' : List Lx.Tok} (hL : Sx.Ends L) (hL' : Sx.Ends L') {k : Nat} (h : Sx.Lo L L' k) (f : Nat) : ∀ σ, σ.at' < L.length → (Sx.functions L f σ).2.at' ≤ k → Sx.functions L' f σ = Sx.functions L f σ := by
  induction f with
  | zero => intros; rw [Sx.functions, Sx.functions]
  | succ f ih =>
    intro σ hi hk
    have hσ := (Sx.le_functions hL _ σ).k hk
    rw [Sx.functions] at hk
    rw [Sx.functions, Sx.functions, Sx.lo_tk h hσ]
    split
    · rename_i h1
      rw [if_pos h1] at hk
      simp only [] at hk ⊢
      have h2 := (Sx.le_functions hL f _).k hk
      rw [Sx.lo_function hL hL' hi h h2, ih _ ((Sx.le_function hL σ).2.2.1 hi) hk]
    · rfl
/-- tokens that agree up to where the first reader stops are read alike, whatever is behind -/
theorem Sx.lo_all {L L' : List Lx.Tok} (hL : Sx.Ends L) (hL' : Sx.Ends L') (h0 : 0 < L.length) (h : Sx.Lo L L' (Sx.functions L (Sx.fuel L) Sx.start).2.at') : Sx.functions L' (Sx.fuel L') Sx.start = Sx.functions L (Sx.fuel L) Sx.start := by
  have h0' := Sx.lo_lt h (Nat.zero_le _) h0
  have hm := Sx.M_fuel L Sx.start
  have hm' := Sx.M_fuel L' Sx.start
  have e1 : Sx.functions L (Sx.fuel L) Sx.start = Sx.functions L (Sx.fuel L + Sx.fuel L') Sx.start := Sx.enough_functions hL _ _ _ h0 (by unfold Sx.fuel; omega) (by unfold Sx.fuel; omega)
  have e2 : Sx.functions L' (Sx.fuel L') Sx.start = Sx.functions L' (Sx.fuel L + Sx.fuel L') Sx.start := Sx.enough_functions hL' _ _ _ h0' (by unfold Sx.fuel; omega) (by unfold Sx.fuel; omega)
  rw [e1] at h ⊢
  rw [e2]
  exact Sx.lo_functions hL hL' h _ _ h0 (Nat.le_refl _)
/-- an error is told at the token where the reader stops -/
theorem Sx.err_at {L : List Lx.Tok} (hL : Sx.Ends L) (h0 : 0 < L.length) (f : Nat) (he : (Sx.functions L f Sx.start).2.err ≠ 0) :
    (Sx.functions L f Sx.start).2.pos = (Sx.tk L (Sx.functions L f Sx.start).2).pos ∧ (Sx.functions L f Sx.start).2.at' < L.length := by
  have h := Sx.le_functions hL f Sx.start
  exact ⟨h.2.2.2.2.1 rfl he, h.2.2.1 h0⟩
end Go.Proofs.YtbnhegipdfkdgaaDoor
end
section
namespace Go.Proofs.YtbnhegipdfkdgaaDoor
open Go.ChangeShapes Go.WideShapes Go.ChangeAt Go.RowKit Go.WideMaps Go.Maps
set_option linter.unusedVariables false
set_option linter.unusedSimpArgs false

def Lx.wordV : Array Value := #[.string ⟨#[102, 110]⟩, .string ⟨#[112, 117, 98]⟩, .string ⟨#[115, 101, 99]⟩, .string ⟨#[111, 117, 116]⟩, .string ⟨#[108, 101, 116]⟩, .string ⟨#[118, 97, 114]⟩, .string ⟨#[105, 102]⟩, .string ⟨#[101, 108, 115, 101]⟩, .string ⟨#[102, 111, 114]⟩, .string ⟨#[109, 97, 120]⟩, .string ⟨#[114, 101, 116, 117, 114, 110]⟩, .string ⟨#[117, 51, 50]⟩, .string ⟨#[117, 56]⟩, .string ⟨#[109, 97, 115, 107]⟩, .string ⟨#[109, 117, 108, 104, 105]⟩, .string ⟨#[99, 97, 114, 114, 121]⟩, .string ⟨#[115, 101, 108, 101, 99, 116]⟩, .string ⟨#[119, 111, 114, 100]⟩, .string ⟨#[114, 111, 114]⟩]
theorem Lx.wordV_get : ∀ k, k < 19 → Lx.wordV[k]? = (Lx.words[k]?).map fun x => .string (Lx.S x) := by
  intro k hk
  rcases (by omega : k = 0 ∨ k = 1 ∨ k = 2 ∨ k = 3 ∨ k = 4 ∨ k = 5 ∨ k = 6 ∨ k = 7 ∨ k = 8 ∨ k = 9 ∨ k = 10 ∨ k = 11 ∨ k = 12 ∨ k = 13 ∨ k = 14 ∨ k = 15 ∨ k = 16 ∨ k = 17 ∨ k = 18) with rfl | rfl | rfl | rfl | rfl | rfl | rfl | rfl | rfl | rfl | rfl | rfl | rfl | rfl | rfl | rfl | rfl | rfl | rfl <;> rfl
theorem Lx.words_len : Lx.words.length = 19 := by decide
theorem Lx.words_short : ∀ x ∈ Lx.words, x.length ≤ 40 := by decide
theorem lawS : Keyed Tryd.prog 9 := string_keyed Tryd.underlying9
theorem zeroI (w : World) : (zeroValue 3).run Tryd.prog w = .ok (.int .i64 0) w := by kernel_rfl
abbrev Lx.u3 : DataW Unit := .lit (.int .i64 3)
/-- the first words, as a map -/
def Lx.known (k : Nat) : DataW Unit := setOf Lx.u3 ((Lx.words.take k).map fun t => .string t)
/-- block b is the map of the words -/
def KnownAt (W : World) (b : Nat) : Prop := W.ownsMap Tryd.prog 9 (plainElem (H := Unit) Tryd.prog 3) b 19 (Lx.known 19)
theorem KnownAt.kept {W W' : World} {b : Nat} (h : KnownAt W b) (hb : Below W.heap.size W W') : KnownAt W' b :=
  World.ownsMap.kept (row := none) h ⟨hb.os, hb.tape, hb.output, hb.size, fun j hj _ => hb.block j hj⟩ (by simp)
theorem Lx.keyed (L : List (List UInt8)) : ∀ x ∈ L.map (fun t => Lit.string t), WideAt.IsKeyLit x := by
  intro x hx
  obtain ⟨t, _, rfl⟩ := List.mem_map.1 hx
  exact trivial
theorem Lx.any_key (L : List (List UInt8)) (t : List UInt8) : (L.map (fun t => Lit.string t)).any (fun x => x.sameKey (.string t)) = L.contains t := by
  induction L with
  | nil => rfl
  | cons x L ih =>
    rw [List.map_cons, List.any_cons, ih, List.contains_cons]
    congr 1
    by_cases h : t = x
    · subst h; rw [WideAt.sameKey_self (show WideAt.IsKeyLit (Lit.string t) from trivial)]; simp
    · rw [sameKey_ne (fun e => h (by injection e with e; exact e.symm))]; simp [h]
theorem Lx.known_step (k : Nat) (x : List UInt8) (h : Lx.words[k]? = some x) : (Lx.known k).put (.string x) Lx.u3 = Lx.known (k + 1) := by
  unfold Lx.known
  rw [List.take_add_one, h, List.map_append]
  exact (setOf_snoc _ _ _).symm
theorem Lx.known_has (t : List UInt8) : Maps.has (Lx.known 19) (.string t) = Lx.words.contains t := by
  unfold Lx.known
  rw [has_setOf _ _ _ (Lx.keyed _), Lx.any_key, List.take_of_length_le (by rw [Lx.words_len]; exact Nat.le_refl _)]
theorem Lx.known_fold (t : List UInt8) (z : DataW Unit) : ∀ (L : List (List UInt8)) (m : DataW Unit), IsMap m → ((L.map fun t => Lit.string t).foldl (fun m x => m.put x Lx.u3) m).atKey (.string t) z = if L.contains t then Lx.u3 else m.atKey (.string t) z := by
  intro L
  induction L with
  | nil => intro m hm; rfl
  | cons x L ih =>
    intro m hm
    rw [List.map_cons, List.foldl_cons, ih _ (hm.put _ _), List.contains_cons]
    by_cases h : t = x
    · subst h
      rw [atKey_put_same hm (show WideAt.IsKeyLit (Lit.string t) from trivial)]; simp
    · rw [atKey_put_other (fun e => h (by injection e))]; simp [h]
theorem Lx.known_at (t : List UInt8) (z : DataW Unit) (h : Lx.words.contains t = true) : (Lx.known 19).atKey (.string t) z = Lx.u3 := by
  unfold Lx.known setOf
  rw [Lx.known_fold t z _ _ isMap_empty, List.take_of_length_le (by rw [Lx.words_len]; exact Nat.le_refl _), if_pos h]
set_option maxHeartbeats 4000000 in
set_option maxRecDepth 100000 in
theorem words_any (w : World) :
    Calls Tryd.prog 13 #[] w fun e w' => e = .returned (.map (some w.heap.size)) ∧ KnownAt w' w.heap.size ∧ Below w.heap.size w w' := by
  have hmm := @run_makeMap Tryd.prog
  go_enter Tryd.func13, Tryd.ntmps13
  go_wp2
  go_loopw [6] (fun K wr => ∃ k : Nat, k ≤ 19 ∧ K = .int .i64 (k : Int) ∧ wr.ownsMap Tryd.prog 9 (plainElem (H := Unit) Tryd.prog 3) w.heap.size k (Lx.known k) ∧ Below w.heap.size w wr) (fun K _ => 19 - (intOf K).toNat)
  case atStart => exact ⟨0, Nat.zero_le _, rfl, World.ownsMap_made _ _ _ _, (Below.refl _ _).alloc (Nat.le_refl _) _⟩
  case round =>
    obtain ⟨k, hk, rfl, hown, hB⟩ := hrel
    by_cases hlt : k < 19
    · have hlt' : (k : Int) < 19 := by omega
      obtain ⟨x, hx⟩ : ∃ x, Lx.words[k]? = some x := ⟨Lx.words[k]'(by rw [Lx.words_len]; exact hlt), List.getElem?_eq_getElem _⟩
      have hv : Lx.wordV[k]? = some (.string (Lx.S x)) := by rw [Lx.wordV_get k hlt, hx]; rfl
      have E : ∀ w, (Instr.index 65 (.agg #[.string ⟨#[102, 110]⟩, .string ⟨#[112, 117, 98]⟩, .string ⟨#[115, 101, 99]⟩, .string ⟨#[111, 117, 116]⟩, .string ⟨#[108, 101, 116]⟩, .string ⟨#[118, 97, 114]⟩, .string ⟨#[105, 102]⟩, .string ⟨#[101, 108, 115, 101]⟩, .string ⟨#[102, 111, 114]⟩, .string ⟨#[109, 97, 120]⟩, .string ⟨#[114, 101, 116, 117, 114, 110]⟩, .string ⟨#[117, 51, 50]⟩, .string ⟨#[117, 56]⟩, .string ⟨#[109, 97, 115, 107]⟩, .string ⟨#[109, 117, 108, 104, 105]⟩, .string ⟨#[99, 97, 114, 114, 121]⟩, .string ⟨#[115, 101, 108, 101, 99, 116]⟩, .string ⟨#[119, 111, 114, 100]⟩, .string ⟨#[114, 111, 114]⟩]) (.int .i64 (k : Int))).run Tryd.prog w = .ok (.string (Lx.S x)) w :=
        run_index_arr (P := Tryd.prog) (n := 19) Tryd.underlying65 Tryd.sizeOf9 Tryd.isAgg9 hlt hv
      have hxl : x.length ≤ 40 := Lx.words_short x (List.mem_of_getElem? hx)
      have hkey : keyOf Tryd.prog 9 (.string (Lx.S x)) = some (.string x) := keyOf_string_mk Tryd.underlying9 (by rw [Lx.S_size]; unfold maxLen; omega)
      have HX := Lib.hid hx
      clear hx hv hxl
      go_wp2_with (first
        | (at_mapUpdate; refine wpList_mapUpdate_own _ rfl _ _ _ 55 rfl 9 3 lawS Tryd.underlying55 _ w.heap.size k _ rfl hown (by unfold maxLen; omega) _ _ _ rfl rfl hkey _ [] (plainElem_int Tryd.underlying3 (by decide)) ?_))
      intro w1 hown1 hgrow1
      have R1 := (Lx.known_step k x HX.out) ▸ hown1
      have R2 := hB.grown hgrow1 hB.size (fun j hj => by cases hj; exact Nat.le_refl _)
      clear hown1 hgrow1 hown hkey E HX
      go_wp2
      go_roundw
      case rel => exact ⟨k + 1, by omega, by go_num, R1, R2⟩
      case measure => simp [intOf]; omega
    · have hge : ¬ (k : Int) < 19 := by omega
      obtain rfl : k = 19 := by omega
      go_wp2
      go_ret
      exact ⟨rfl, hown, hB⟩
end Go.Proofs.YtbnhegipdfkdgaaDoor
end
