/-
Plain mathematics of layer 12, eleventh part: the same tokens, so many further on: statements and functions; two texts as one.
What package lex's Lex returns.
Tokens and errors compared, by value (layer 11).
-/
import Derived.Test.YtbnhegipdfkdgaaDoorP11a
import Derived.DeepKeys
section
set_option linter.unusedVariables false
set_option linter.unusedSimpArgs false
namespace Go.Proofs.YtbnhegipdfkdgaaDoor

mutual
/-- a statement so much further on -/
def Sx.S.on (d : Nat) : Sx.S → Sx.S
  | .mk k p n s t a b e z => .mk k (p + d) n s t (Sx.E.onL d a) (Sx.S.onL d b) (Sx.S.onL d e) z
def Sx.S.onL (d : Nat) : List Sx.S → List Sx.S
  | [] => []
  | e :: l => Sx.S.on d e :: Sx.S.onL d l
end
theorem Sx.onS_mk (d : Nat) (k p n : Int) (s : List UInt8) (t : Sx.Ty) (a : List Sx.E) (b e : List Sx.S) (z : Bool) : Sx.S.on d (.mk k p n s t a b e z) = .mk k (p + d) n s t (Sx.E.onL d a) (Sx.S.onL d b) (Sx.S.onL d e) z := by rw [Sx.S.on]
theorem Sx.onSL_nil (d : Nat) : Sx.S.onL d [] = [] := by rw [Sx.S.onL]
theorem Sx.onSL_cons (d : Nat) (e : Sx.S) (l : List Sx.S) : Sx.S.onL d (e :: l) = Sx.S.on d e :: Sx.S.onL d l := by rw [Sx.S.onL]
theorem Sx.onL_append (d : Nat) (a b : List Sx.E) : Sx.E.onL d (a ++ b) = Sx.E.onL d a ++ Sx.E.onL d b := by
  induction a with
  | nil => rw [Sx.onL_nil]; rfl
  | cons x a ih => rw [List.cons_append, Sx.onL_cons, Sx.onL_cons, ih]; rfl
theorem Sx.args_on (d : Nat) (e : Sx.E) : (Sx.E.on d e).args = Sx.E.onL d e.args := by cases e; rw [Sx.on_mk]; rfl
def Sx.F.on (d : Nat) (x : Sx.F) : Sx.F := { x with pos := x.pos + d, params := x.params.map (Sx.Pa.on d), body := Sx.S.onL d x.body }
section
variable {K J : List Lx.Tok} {m d : Nat}
theorem Sx.sh_lt {i : Nat} (h : Sx.Sh K J m d) (hi : i < K.length) : i + m < J.length := by
  have h1 := h i hi
  rw [List.getElem?_eq_getElem hi] at h1
  exact (List.getElem?_eq_some_iff.1 h1).1
theorem Sx.sh_ex {σ : Sx.R} (hK : Sx.Ends K) (hJ : Sx.Ends J) (h : Sx.Sh K J m d) (hi : σ.at' < K.length) (he : (Sx.ex K σ).2.err = 0) : Sx.ex J (σ.up m) = ((Sx.ex K σ).1.on d, (Sx.ex K σ).2.up m) := by
  have hm := Sx.M_fuel K σ
  have hm' := Sx.M_fuel J (σ.up m)
  unfold Sx.ex at he ⊢
  have e1 : Sx.expr K (Sx.fuel K) 0 σ = Sx.expr K (Sx.fuel K + Sx.fuel J) 0 σ := (Sx.enough hK _).1 _ 0 σ hi (by unfold Sx.fuel; omega) (by unfold Sx.fuel; omega)
  have e2 : Sx.expr J (Sx.fuel J) 0 (σ.up m) = Sx.expr J (Sx.fuel K + Sx.fuel J) 0 (σ.up m) := (Sx.enough hJ _).1 _ 0 _ (Sx.sh_lt h hi) (by unfold Sx.fuel; omega) (by unfold Sx.fuel; omega)
  rw [e1] at he ⊢
  rw [e2]
  exact (Sx.sh_exprs hK h _).1 0 σ hi (by unfold Sx.fuel; omega) he
theorem Sx.sh_behind {σ : Sx.R} {t : Lx.Tok} (hK : Sx.Ends K) (hJ : Sx.Ends J) (h : Sx.Sh K J m d) (hi : σ.at' < K.length) (he : (Sx.behind K (Sx.fuel K) t σ).2.err = 0) : Sx.behind J (Sx.fuel J) (t.on d) (σ.up m) = ((Sx.behind K (Sx.fuel K) t σ).1.on d, (Sx.behind K (Sx.fuel K) t σ).2.up m) := by
  have hm := Sx.M_fuel K σ
  have hm' := Sx.M_fuel J (σ.up m)
  have e1 : Sx.behind K (Sx.fuel K) t σ = Sx.behind K (Sx.fuel K + Sx.fuel J) t σ := (Sx.enough hK _).2.2.2.2.2.1 _ t σ hi (by unfold Sx.fuel; omega) (by unfold Sx.fuel; omega)
  have e2 : Sx.behind J (Sx.fuel J) (t.on d) (σ.up m) = Sx.behind J (Sx.fuel K + Sx.fuel J) (t.on d) (σ.up m) := (Sx.enough hJ _).2.2.2.2.2.1 _ _ _ (Sx.sh_lt h hi) (by unfold Sx.fuel; omega) (by unfold Sx.fuel; omega)
  rw [e1] at he ⊢
  rw [e2]
  exact (Sx.sh_exprs hK h _).2.2.2.2.2.1 t σ hi (by unfold Sx.fuel; omega) he
theorem Sx.sh_value {σ : Sx.R} {l : List Sx.E} (hK : Sx.Ends K) (hJ : Sx.Ends J) (h : Sx.Sh K J m d) (hi : σ.at' < K.length) (he : (Sx.value K l σ).2.err = 0) : Sx.value J (Sx.E.onL d l) (σ.up m) = (Sx.E.onL d (Sx.value K l σ).1, (Sx.value K l σ).2.up m) := by
  unfold Sx.value at he ⊢
  simp only [] at he ⊢
  have e1 := (Sx.le_eat hK [59] (by decide) _).ok he
  have i1 : (Sx.ex K σ).2.at' < K.length := ((Sx.le_exprs hK (Sx.fuel K)).1 0 σ).2.2.1 hi
  rw [Sx.sh_ex hK hJ h hi e1]
  simp only []
  rw [Sx.sh_eat h i1 he, Sx.onL_append, Sx.onL_cons, Sx.onL_nil]
theorem Sx.sh_value0 {σ : Sx.R} (hK : Sx.Ends K) (hJ : Sx.Ends J) (h : Sx.Sh K J m d) (hi : σ.at' < K.length) (he : (Sx.value K [] σ).2.err = 0) : Sx.value J [] (σ.up m) = (Sx.E.onL d (Sx.value K [] σ).1, (Sx.value K [] σ).2.up m) := by
  have r := Sx.sh_value (l := []) hK hJ h hi he
  rwa [Sx.onL_nil] at r
theorem Sx.sh_named {σ : Sx.R} {p : Int} (hK : Sx.Ends K) (hJ : Sx.Ends J) (h : Sx.Sh K J m d) (hi : σ.at' < K.length) (he : (Sx.named K p σ).2.err = 0) : Sx.named J (p + d) (σ.up m) = ((Sx.named K p σ).1.on d, (Sx.named K p σ).2.up m) := by
  have lB := fun t σ => (Sx.le_exprs hK (Sx.fuel K)).2.2.2.2.2.1 t σ
  have i1 := (Sx.le_some hK 1 (by decide) σ).2.2.1 hi
  unfold Sx.named at he ⊢
  simp only [] at he ⊢
  have e1 : (Sx.some K 1 σ).2.err = 0 := by
    split at he
    · exact ((lB _ _).trans (Sx.le_eat hK [59] (by decide) _)).ok he
    · split at he
      · exact ((lB (Sx.some K 1 σ).1 (Sx.some K 1 σ).2).trans ((Sx.le_eat hK [61] (by decide) _).trans (Sx.le_value hK (Sx.behind K (Sx.fuel K) (Sx.some K 1 σ).1 (Sx.some K 1 σ).2).1.args _))).ok he
      · exact ((Sx.le_eat hK [61] (by decide) (Sx.some K 1 σ).2).trans (Sx.le_value hK [] _)).ok he
  rw [Sx.sh_some h hi e1]
  simp only []
  rw [Sx.sh_sees h i1, Sx.sh_sees h i1]
  by_cases h2 : Sx.sees K [40] (Sx.some K 1 σ).2 = true
  · rw [if_pos h2] at he ⊢
    rw [if_pos h2]
    have e2 := (Sx.le_eat hK [59] (by decide) _).ok he
    have i2 := (lB (Sx.some K 1 σ).1 (Sx.some K 1 σ).2).2.2.1 i1
    rw [Sx.sh_behind hK hJ h i1 e2]
    simp only []
    rw [Sx.sh_eat h i2 he, Sx.onS_mk, Sx.onL_cons, Sx.onL_nil, Sx.onSL_nil]
  · rw [if_neg h2] at he ⊢
    rw [if_neg h2]
    by_cases h4 : Sx.sees K [91] (Sx.some K 1 σ).2 = true
    · rw [if_pos h4] at he ⊢
      rw [if_pos h4]
      have e2 := (Sx.le_value hK (Sx.behind K (Sx.fuel K) (Sx.some K 1 σ).1 (Sx.some K 1 σ).2).1.args _).ok he
      have e3 := (Sx.le_eat hK [61] (by decide) _).ok e2
      have i2 := (lB (Sx.some K 1 σ).1 (Sx.some K 1 σ).2).2.2.1 i1
      have i3 := (Sx.le_eat hK [61] (by decide) _).2.2.1 i2
      rw [Sx.sh_behind hK hJ h i1 e3]
      simp only []
      rw [Sx.args_on, Sx.sh_eat h i2 e2, Sx.sh_value hK hJ h i3 he, Sx.onS_mk, Sx.onSL_nil]
      rfl
    · rw [if_neg h4] at he ⊢
      rw [if_neg h4]
      have e2 := (Sx.le_value hK [] _).ok he
      have i2 := (Sx.le_eat hK [61] (by decide) _).2.2.1 i1
      rw [Sx.sh_eat h i1 e2, Sx.sh_value0 hK hJ h i2 he, Sx.onS_mk, Sx.onSL_nil]
      rfl
theorem Sx.sh_stmts (hK : Sx.Ends K) (hJ : Sx.Ends J) (h : Sx.Sh K J m d) (f : Nat) :
    (∀ σ, σ.at' < K.length → Sx.M K σ + 6 ≤ f → (Sx.block K f σ).2.err = 0 → Sx.block J f (σ.up m) = (Sx.S.onL d (Sx.block K f σ).1, (Sx.block K f σ).2.up m)) ∧
    (∀ σ, σ.at' < K.length → Sx.M K σ + 5 ≤ f → (Sx.stmts K f σ).2.err = 0 → Sx.stmts J f (σ.up m) = (Sx.S.onL d (Sx.stmts K f σ).1, (Sx.stmts K f σ).2.up m)) ∧
    (∀ σ, σ.at' < K.length → Sx.M K σ + 4 ≤ f → (Sx.stmt K f σ).2.err = 0 → Sx.stmt J f (σ.up m) = ((Sx.stmt K f σ).1.on d, (Sx.stmt K f σ).2.up m)) := by
  have hE : ∀ σ, Sx.Le K σ (Sx.ex K σ).2 := fun σ => (Sx.le_exprs hK _).1 0 σ
  have lB : ∀ f σ, Sx.Le K σ (Sx.block K f σ).2 := fun f => (Sx.le_stmts hK f).1
  have lL : ∀ f σ, Sx.Le K σ (Sx.stmts K f σ).2 := fun f => (Sx.le_stmts hK f).2.1
  have lS : ∀ f σ, Sx.Le K σ (Sx.stmt K f σ).2 := fun f => (Sx.le_stmts hK f).2.2
  induction f with
  | zero => refine ⟨?_, ?_, ?_⟩ <;> intros <;> omega
  | succ f ih =>
    obtain ⟨iB, iL, iS⟩ := ih
    refine ⟨fun σ hi hf he => ?_, fun σ hi hf he => ?_, fun σ hi hf he => ?_⟩
    · rw [Sx.block] at he
      rw [Sx.block, Sx.block]
      try simp only [] at he ⊢
      have e1 := (Sx.le_unnest hK [125] (by decide) _).ok he
      have e2 := (lL f _).ok e1
      have h1 := Sx.le_nest hK [123] (by decide) σ
      have h2 := Sx.M_le h1
      have i1 := h1.2.2.1 hi
      have i2 := (lL f (Sx.nest K [123] σ)).2.2.1 i1
      rw [Sx.sh_nest h hi e2, iL _ i1 (by omega) e1]
      simp only []
      rw [Sx.sh_unnest h i2 he]
    · rw [Sx.stmts] at he
      rw [Sx.stmts, Sx.stmts, Sx.sh_sees h hi, Sx.up_err]
      by_cases h1 : (decide (σ.err = 0) && !Sx.sees K [125] σ) = true
      · rw [if_pos h1] at he ⊢
        rw [if_pos h1]
        simp only [] at he ⊢
        have he0 : σ.err = 0 := by
          rw [Bool.and_eq_true] at h1; exact of_decide_eq_true h1.1
        obtain ⟨k, hk⟩ : ∃ k, f = k + 1 := ⟨f - 1, by have := Sx.M_pos he0 hi; omega⟩
        have h4 : Sx.M K (Sx.stmt K f σ).2 + 16 ≤ Sx.M K σ := by rw [hk]; exact Sx.M_stmt hK he0 hi
        have e1 := (lL f _).ok he
        have i1 := (lS f σ).2.2.1 hi
        rw [iS σ hi (by omega) e1]
        simp only []
        rw [iL _ i1 (by omega) he, Sx.onSL_cons]
      · rw [if_neg h1, if_neg h1, Sx.onSL_nil]
    · rw [Sx.stmt] at he
      rw [Sx.stmt, Sx.stmt]
      simp only [] at he ⊢
      rw [Sx.sh_may h hi, Sx.sh_may h hi, Sx.sh_may h hi, Sx.sh_may h hi, Sx.sh_may h hi, Sx.sh_tk h hi]
      simp only [Sx.on_pos]
      by_cases h1 : (Sx.may K Sx.wLet σ).1 = true
      · rw [if_pos h1] at he ⊢
        rw [if_pos h1]
        have i1 := (Sx.le_may hK Sx.wLet (by decide) σ).2.2.1 hi
        have i2 := (Sx.le_some hK 1 (by decide) _).2.2.1 i1
        have i3 := (Sx.le_eat hK [61] (by decide) _).2.2.1 i2
        have e1 := (Sx.le_value hK [] _).ok he
        have e2 := (Sx.le_eat hK [61] (by decide) _).ok e1
        rw [Sx.sh_some h i1 e2]
        simp only []
        rw [Sx.sh_eat h i2 e1, Sx.sh_value0 hK hJ h i3 he, Sx.onS_mk, Sx.onSL_nil]
        rfl
      · rw [if_neg h1] at he ⊢
        rw [if_neg h1]
        by_cases h2 : (Sx.may K Sx.wVar σ).1 = true
        · rw [if_pos h2] at he ⊢
          rw [if_pos h2]
          have i1 := (Sx.le_may hK Sx.wVar (by decide) σ).2.2.1 hi
          have i2 := (Sx.le_label hK _).2.2.1 i1
          have i3 := (Sx.le_some hK 1 (by decide) _).2.2.1 i2
          have i4 := (Sx.le_eat hK [58] (by decide) _).2.2.1 i3
          have i5 := (Sx.le_type hK false (Sx.label K (Sx.may K Sx.wVar σ).2).1 _).2.2.1 i4
          have e1 := (Sx.le_eat hK [59] (by decide) _).ok he
          have e2 := (Sx.le_type hK _ _ _).ok e1
          have e3 := (Sx.le_eat hK [58] (by decide) _).ok e2
          have e4 := (Sx.le_some hK 1 (by decide) _).ok e3
          rw [Sx.sh_label hK h i1 e4]
          simp only []
          rw [Sx.sh_some h i2 e3]
          simp only []
          rw [Sx.sh_eat h i3 e2, Sx.sh_type hK h i4 e1]
          simp only []
          rw [Sx.sh_eat h i5 he, Sx.onS_mk, Sx.onSL_nil, Sx.onL_nil]
          rfl
        · rw [if_neg h2] at he ⊢
          rw [if_neg h2]
          by_cases h3 : (Sx.may K Sx.wIf σ).1 = true
          · rw [if_pos h3] at he ⊢
            rw [if_pos h3]
            have hm := Sx.M_may h3 hi
            have i1 := (Sx.le_may hK Sx.wIf (by decide) σ).2.2.1 hi
            have h4 := hE (Sx.may K Sx.wIf σ).2
            have hm2 := Sx.M_le h4
            have i2 := h4.2.2.1 i1
            have h5 := lB f (Sx.ex K (Sx.may K Sx.wIf σ).2).2
            have hm3 := Sx.M_le h5
            have i3 := h5.2.2.1 i2
            have h6 := Sx.le_may hK Sx.wElse (by decide) (Sx.block K f (Sx.ex K (Sx.may K Sx.wIf σ).2).2).2
            have hm4 := Sx.M_le h6
            have i4 := h6.2.2.1 i3
            have e1 : (Sx.block K f (Sx.ex K (Sx.may K Sx.wIf σ).2).2).2.err = 0 := by
              split at he
              · exact (h6.trans (lB f _)).ok he
              · exact h6.ok he
            have e2 := h5.ok e1
            rw [Sx.sh_ex hK hJ h i1 e2]
            simp only []
            rw [iB _ i2 (by omega) e1]
            simp only []
            rw [Sx.sh_may h i3]
            simp only []
            by_cases h7 : (Sx.may K Sx.wElse (Sx.block K f (Sx.ex K (Sx.may K Sx.wIf σ).2).2).2).1 = true
            · rw [if_pos h7] at he ⊢
              rw [if_pos h7, iB _ i4 (by omega) he, Sx.onS_mk, Sx.onL_cons, Sx.onL_nil]
            · rw [if_neg h7] at he ⊢
              rw [if_neg h7, Sx.onS_mk, Sx.onL_cons, Sx.onL_nil, Sx.onSL_nil]
          · rw [if_neg h3] at he ⊢
            rw [if_neg h3]
            by_cases h4 : (Sx.may K Sx.wFor σ).1 = true
            · rw [if_pos h4] at he ⊢
              rw [if_pos h4]
              have hm := Sx.M_may h4 hi
              have i1 := (Sx.le_may hK Sx.wFor (by decide) σ).2.2.1 hi
              have q2 := Sx.le_some hK 1 (by decide) (Sx.may K Sx.wFor σ).2
              have i2 := q2.2.2.1 i1
              have q3 := Sx.le_eat hK [60] (by decide) (Sx.some K 1 (Sx.may K Sx.wFor σ).2).2
              have i3 := q3.2.2.1 i2
              have q4 := hE (Sx.eat K [60] (Sx.some K 1 (Sx.may K Sx.wFor σ).2).2)
              have i4 := q4.2.2.1 i3
              have q5 := Sx.le_eat hK Sx.wMax (by decide) (Sx.ex K (Sx.eat K [60] (Sx.some K 1 (Sx.may K Sx.wFor σ).2).2)).2
              have i5 := q5.2.2.1 i4
              have q6 := Sx.le_some hK 2 (by decide) (Sx.eat K Sx.wMax (Sx.ex K (Sx.eat K [60] (Sx.some K 1 (Sx.may K Sx.wFor σ).2).2)).2)
              have i6 := q6.2.2.1 i5
              have hm2 := Sx.M_le (q2.trans (q3.trans (q4.trans (q5.trans q6))))
              have e1 := (lB f _).ok he
              have e2 := q6.ok e1
              have e3 := q5.ok e2
              have e4 := q4.ok e3
              have e5 := q3.ok e4
              rw [Sx.sh_some h i1 e5]
              simp only []
              rw [Sx.sh_eat h i2 e4, Sx.sh_ex hK hJ h i3 e3]
              simp only []
              rw [Sx.sh_eat h i4 e2, Sx.sh_some h i5 e1]
              simp only []
              rw [iB _ i6 (by omega) he, Sx.onS_mk, Sx.onL_cons, Sx.onL_nil, Sx.onSL_nil]
              rfl
            · rw [if_neg h4] at he ⊢
              rw [if_neg h4]
              by_cases h5 : (Sx.may K Sx.wRet σ).1 = true
              · rw [if_pos h5] at he ⊢
                rw [if_pos h5]
                have i1 := (Sx.le_may hK Sx.wRet (by decide) σ).2.2.1 hi
                rw [Sx.sh_value0 hK hJ h i1 he, Sx.onS_mk, Sx.onSL_nil]
              · rw [if_neg h5] at he ⊢
                rw [if_neg h5]
                exact Sx.sh_named hK hJ h hi he
end
end Go.Proofs.YtbnhegipdfkdgaaDoor
end
section
namespace Go.Proofs.YtbnhegipdfkdgaaDoor
open Go.ChangeShapes Go.WideShapes Go.ChangeAt Go.RowKit
set_option linter.unusedVariables false
set_option linter.unusedSimpArgs false

/-- an answer of tokens, or an error and its place -/
def LexR (W : World) (r : Except (Int × Nat) (List Lx.Tok)) (v : Value) (e p : Int) : Prop :=
  match r with
  | .error (q, n) => v = .slice none 0 0 ∧ e = q ∧ p = n
  | .ok ts => e = 0 ∧ p = 0 ∧ SliceC tkC 4 W v ts
theorem LexR.kept {W W' : World} {r : Except (Int × Nat) (List Lx.Tok)} {v : Value} {e p : Int} (h : LexR W r v e p) (hb : Below W.heap.size W W') : LexR W' r v e p := by
  rcases r with ⟨q, n⟩ | ts
  · exact h
  · exact ⟨h.1, h.2.1, h.2.2.kept hb⟩
theorem bp_tmp_blk {a : Act} {w : World} {b n : Nat} {t : TypeId} {cs : Array Value} {fn : Func} {R : Ending → World → Prop} {p q : Tmp} (T : StructT t n) (hr : fn.results = #[.tmp q, .cell p t]) (hp : a.tmps.getD p undef = .pointer (some ⟨b, 0, none⟩)) (h : Blk w b t n cs) (hd : a.defers = []) (hR : R (.returned (.tuple #[a.tmps.getD q undef, .agg cs])) w) : bodyPost Tryd.prog fn R .ret a w := by
  obtain ⟨fs, hu⟩ := T.und
  have hp' : a.tmps[p]?.getD undef = .pointer (some ⟨b, 0, none⟩) := by simpa using hp
  refine bodyPost_ret ?_ hd hR
  simp [results, hr, hp', asAddr, run_loadVar_row w b _ _ _ _ _ h.at' hu rfl (by rw [h.size]; exact T.info)]
theorem Lx.lex_big (l : List UInt8) (h : 65536 < l.length) : Lx.lex l = .error (5, 0) := by unfold Lx.lex; rw [if_pos h]
theorem Lx.lex_Tk (l : List UInt8) (h : ¬ 65536 < l.length) : Lx.lex l = match Lx.Tk l.length l with | .error q => .error (9, q) | .ok ts => .ok (ts ++ [⟨0, l.length, 0, []⟩]) := by
  unfold Lx.lex Lx.Tk; rw [if_neg h, Nat.sub_self]
  cases Lx.toks (l.length + 1) 0 l <;> rfl
set_option maxHeartbeats 8000000 in
set_option maxRecDepth 100000 in
theorem lex_any (s : ByteArray) (hs : s.size ≤ 281474976710656) (w : World) :
    Calls Tryd.prog 9 #[.string s] w fun e w' => ∃ (v : Value) (x p : Int), e = .returned (.tuple #[v, .agg (bdA x p)]) ∧ LexR w' (Lx.lex s.data.toList) v x p ∧ Below w.heap.size w w' := by
  obtain ⟨i0, hi, hz0, hz1, hz2⟩ := info_parts Tryd.infoTok
  have HB0 := Lib.hid (Blk.new w 28 (bdA 0 0))
  have HZ := Lib.hid (Lib.size_eq s)
  by_cases hbig : 65536 < s.size
  · have hbig' : (65536 : Int) < (s.size : Int) := by omega
    have HL := Lib.hid (Lx.lex_big s.data.toList (by rw [← HZ.out]; exact hbig))
    clear hz0 hz1 hz2 hi
    go_enter Tryd.func9, Tryd.ntmps9
    go_wp2_with (first
      | ((with_reducible refine wpList_store_blk badT HB0.out (fitsB 5 0) ?_ ?_); exact rfl))
    try simp only [Exit.inBlock, Exit.then]
    refine bp_tmp_blk badT rfl rfl (HB0.out.row (ds := bdA 5 0) rfl) rfl ⟨_, _, _, rfl, ?_, below_setRow ((Below.refl _ _).alloc (Nat.le_refl _) _) (Nat.le_refl _) _⟩
    rw [HL.out]; exact ⟨rfl, rfl, rfl⟩
  · have hbig' : ¬ (65536 : Int) < (s.size : Int) := by omega
    have HL := Lib.hid (Lx.lex_Tk s.data.toList (by rw [← HZ.out]; exact hbig))
    obtain ⟨N, hN⟩ : ∃ N, s.data.toList.length = N := ⟨_, rfl⟩
    rw [hN] at HL
    have hsN : s.size = N := by rw [Lib.size_eq]; exact hN
    have HSN := Lib.hid hsN
    obtain ⟨l, hl⟩ : ∃ l, s.data.toList = l := ⟨_, rfl⟩
    have C1 := Lib.hid words_any
    have C2 := Lib.hid fun w => unparted_any s hs w
    rw [hl] at C2 HL hN ⊢
    have HN := Lib.hid hN
    clear hl hN hsN
    go_enter Tryd.func9, Tryd.ntmps9
    go_wp2_with (first
      | (go_at_call 13; refine (C1.out _).mono ?_; rintro e w1 ⟨rfl, hk1, hb1⟩; have HK1 := Lib.hid hk1; have HB1 := Lib.hid (HB0.out.kept hb1); have HC1 := Lib.hid (bel_new hb1); clear hk1 hb1)
      | (go_at_call 14; refine (C2.out _).mono ?_; rintro e w2 ⟨rfl, hb2⟩; have HK2 := Lib.hid (HK1.out.kept hb2); have HB2 := Lib.hid (HB1.out.kept hb2); have HC2 := Lib.hid (HC1.out.trans (hb2.mono HC1.out.size)); clear hb2))
    have HK3 : Hid (KnownAt w2 (w.heap.size + 1)) := Lib.hid (by
      have h := HK2.out
      rwa [show (w.alloc (Obj.cells #[.int .i64 0, .int .i64 0] 28)).heap.size = w.heap.size + 1 from Array.size_push _] at h)
    clear HK1 HK2
    go_loopw [5, 6] (fun L6 R wr => ∃ (done : List Lx.Tok) (m : List UInt8), R = .string (Lx.S (Lx.left m)) ∧ Hid (m.length ≤ N ∧ done.length + m.length ≤ N ∧ Lx.join (.ok done) (Lx.Tk N m) = Lx.Tk N l) ∧ wr.ownsRow w2.heap.size 59 4 L6 done.length (done.flatMap tkC) ∧ Below w2.heap.size w2 wr) (fun _ R _ => Lib.strSize R)
    case atStart => exact ⟨[], l, rfl, Lib.hid ⟨by rw [HN.out]; exact Nat.le_refl _, by rw [HN.out]; simp, by cases Lx.Tk N l <;> rfl⟩, World.ownsRow_nil _ _ _ _, Below.refl _ _⟩
    case round =>
      obtain ⟨done, m, rfl, HM, hrow, hB⟩ := hrel
      rcases hu : Lx.left m with _ | ⟨c, r⟩
      · have hE : (Lx.S ([] : List UInt8)).toList.isEmpty = true := by rw [Lib.toList_data]; rfl
        have hN0 : N ≤ 65536 := by have := HSN.out; omega
        have HNS := Lib.hid hN0
        have Hu := Lib.hid hu
        have HRW := Lib.hid hrow
        have HBW := Lib.hid hB
        clear hu hN0 hrow hB
        go_wp2_with (first
          | (at_builtin; refine wpList_append_own _ rfl _ _ 45 rfl w2.heap.size 59 i0 (.agg #[.int .i64 0, .int .i64 0, .int .i64 0, .string ⟨#[]⟩]) 4 40 Tryd.underlying45 hi hz0 hz1 hz2 rfl (by decide) _ _ _ rfl (HRW.out.alloc _) ⟨wr.heap.size, 0, none⟩ 1 1 (tkC ⟨0, s.size, 0, []⟩) rfl rfl (cell4_new wr ⟨0, s.size, 0, []⟩ 59) (by simp [tkC, Value.oneCell']) (by have h1 := HM.out.2.1; have h2 := HNS.out; unfold maxLen; omega) (by have h1 := HM.out.2.1; have h2 := HNS.out; omega) (by have := HBW.out.size; simp; omega) ?_; intro v' w7 hown' hgrow' hnil'; have HO7 := Lib.hid hown'; have HB7 := Lib.hid ((HBW.out.alloc HBW.out.size _).grown hgrow' (by have := HBW.out.size; simp; omega) (own_ge HRW.out)); clear hown' hgrow' hnil')
          | ((with_reducible refine wpList_store_blk badT (HB2.out.kept HB7.out) (fitsB 0 0) ?_ ?_); exact rfl))
        try simp only [Exit.inBlock, Exit.then]
        refine bp_tmp_blk badT rfl rfl ((HB2.out.kept HB7.out).row (ds := bdA 0 0) rfl) rfl ⟨_, _, _, rfl, ?_, below_setRow (HC2.out.trans (HB7.out.mono HC2.out.size)) (Nat.le_refl _) _⟩
        have h1 := HM.out.2.2
        rw [Lx.Tk_end N m Hu.out] at h1
        rw [HL.out, ← h1]
        have h4 := HO7.out
        have h5 : (done ++ [(⟨0, N, 0, []⟩ : Lx.Tok)]).flatMap tkC = done.flatMap tkC ++ tkC ⟨0, s.size, 0, []⟩ := by
          rw [List.flatMap_append, HSN.out]; simp
        have h6 : (done ++ [(⟨0, N, 0, []⟩ : Lx.Tok)]).length = done.length + 1 := by simp
        rw [← h5, ← h6] at h4
        have h7 := own_setRow h4 (b := w.heap.size) (by have := (HB2.out).lt; exact this) (bdA 0 0)
        show _ ∧ _ ∧ SliceC tkC 4 _ _ ((done ++ []) ++ [_])
        rw [List.append_nil]
        exact ⟨rfl, rfl, sliceC_own tkC_len h7⟩
      · have hul : (c :: r).length ≤ m.length := by rw [← hu]; exact Lx.left_le m
        have hN0 : N ≤ 65536 := by have := HSN.out; omega
        have hmN := HM.out.1
        obtain ⟨U, hU⟩ : ∃ U, Lx.S (c :: r) = U := ⟨_, rfl⟩
        have hUs : U.size = (c :: r).length := by rw [← hU, Lx.S_size]
        have hUl : U.data.toList = c :: r := by rw [← hU]; rfl
        have hUp : 0 < U.size := by rw [hUs]; simp
        have hUe := Lx.isEmpty U hUp
        have CF := Lib.hid fun w => first_any U (by omega) w
        rw [hUl] at CF
        have CT := Lib.hid fun w' hk => token_any c r (by omega) (w.heap.size + 1) w' hk
        have hfl := Lx.fst_le (c :: r)
        obtain ⟨V, hV⟩ : ∃ V, Lx.S (Lx.fst (c :: r)) = V := ⟨_, rfl⟩
        have hVs : V.size = (Lx.fst (c :: r)).length := by rw [← hV, Lx.S_size]
        rw [hV] at CF CT
        have hVU : V.size ≤ U.size := by omega
        have hUN : U.size ≤ N := by omega
        have hUs2 : (U.size : Int) ≤ (s.size : Int) := by have := HSN.out; omega
        have HU := Lib.hid hU
        have HV := Lib.hid hV
        have HUS := Lib.hid hUs
        have HUL := Lib.hid hUl
        have HVS := Lib.hid hVs
        have Hu := Lib.hid hu
        have HNS := Lib.hid hN0
        rw [hU]
        have CU := Lib.hid fun w => unparted_any (U.extract V.size U.size) (by rw [Lx.S_ext, Lx.S_size]; simp; omega) w
        clear hU hV hUs hUl hVs hu hfl hmN hul hN0
        by_cases h0 : Lx.cnt (c :: r) = 0
        · have hdec : decide (Lx.cnt (c :: r) ≠ 0) = false := by rw [h0]; rfl
          rw [hdec] at CT
          have H0 := Lib.hid h0
          clear h0 hdec
          go_wp2_with (first
            | (go_at_call 15; refine (CF.out _).mono ?_; rintro e w4 ⟨rfl, rfl⟩)
            | (go_at_call 16; refine (CT.out _ (HK3.out.kept hB)).mono ?_; rintro e w5 ⟨⟨k, n, t, rfl, _⟩, hb5⟩; have HB5 := Lib.hid (hB.trans (hb5.mono hB.size)); clear hb5)
            | ((with_reducible refine wpList_store_blk badT ((HB2.out.kept HB5.out).alloc _) (fitsB 9 ((s.size : Int) - (U.size : Int))) ?_ ?_); exact rfl))
          try simp only [Exit.inBlock, Exit.then]
          refine bp_tmp_blk badT rfl rfl (((HB2.out.kept HB5.out).alloc _).row (ds := bdA 9 ((s.size : Int) - (U.size : Int))) rfl) rfl ⟨_, _, _, rfl, ?_, below_setRow (((HC2.out.trans (HB5.out.mono HC2.out.size))).alloc (by have := HC2.out.size; have := HB5.out.size; omega) _) (Nat.le_refl _) _⟩
          have h1 := HM.out.2.2
          rw [Lx.Tk_bad N m HM.out.1 (by rw [Hu.out]; simp) (by rw [Hu.out]; exact H0.out), Hu.out] at h1
          rw [HL.out, ← h1]
          refine ⟨rfl, rfl, ?_⟩
          have h2 := HSN.out
          have h3 := HUS.out
          have h4 := HNS.out
          omega
        · have hdec : decide (Lx.cnt (c :: r) ≠ 0) = true := decide_eq_true h0
          rw [hdec] at CT
          have H0 := Lib.hid h0
          obtain ⟨P, hP⟩ : ∃ P : Nat, s.size = P + U.size := ⟨s.size - U.size, by omega⟩
          have hPe : (s.size : Int) - (U.size : Int) = (P : Int) := by omega
          have HP := Lib.hid hP
          clear h0 hdec hP
          go_wp2_with (first
            | (go_at_call 15; refine (CF.out _).mono ?_; rintro e w4 ⟨rfl, rfl⟩)
            | (go_at_call 16; refine (CT.out _ (HK3.out.kept hB)).mono ?_; rintro e w5 ⟨⟨k, n, t, rfl, hkn⟩, hb5⟩; have HKN := Lib.hid hkn; have HB5 := Lib.hid (hB.trans (hb5.mono hB.size)); have HR5 := Lib.hid (own_below hrow hb5); clear hb5 hkn hrow)
            | (at_builtin; refine wpList_append_own _ rfl _ _ 45 rfl w2.heap.size 59 i0 (.agg #[.int .i64 0, .int .i64 0, .int .i64 0, .string ⟨#[]⟩]) 4 40 Tryd.underlying45 hi hz0 hz1 hz2 rfl (by decide) _ _ _ rfl ((HR5.out.alloc _).alloc _) ⟨w5.heap.size + 1, 0, none⟩ 1 1 (tkC ⟨k, P, n, t⟩) rfl rfl (by have h := cell4_new (w5.alloc (.cells #[.int .i64 k, .int .i64 (P : Int), .int .i64 n, .string (Lx.S t)] 59)) ⟨k, P, n, t⟩ 59; rw [World.size_alloc] at h; exact h) (by simp [tkC, Value.oneCell']) (by have h1 := HM.out.2.1; have h2 := HNS.out; unfold maxLen; omega) (by have h1 := HM.out.2.1; have h2 := HNS.out; omega) (by have := HB5.out.size; simp; omega) ?_; intro v' w7 hown' hgrow' hnil'; have HO7 := Lib.hid hown'; have HB7 := Lib.hid (((HB5.out.alloc HB5.out.size _).alloc (by have := HB5.out.size; simp; omega) _).grown hgrow' (by have := HB5.out.size; simp; omega) (own_ge HR5.out)); clear hown' hgrow' hnil')
            | (go_at_call 14; refine (CU.out _).mono ?_; rintro e w8 ⟨rfl, hb8⟩; have HO8 := Lib.hid (own_below HO7.out hb8); have HB8 := Lib.hid (HB7.out.trans (hb8.mono HB7.out.size)); clear hb8))
          have hc1 := Lx.cnt_fst c r H0.out
          have hcl := Lx.one_le 0 (c :: r)
          have hD : List.take (U.size - V.size) (List.drop V.size U.data.toList) = (c :: r).drop (Lx.cnt (c :: r)) := by
            rw [HUL.out, List.take_of_length_le (by rw [List.length_drop, HUS.out]; exact Nat.le_refl _), HVS.out, ← hc1]
          have hml : (c :: r).length ≤ m.length := by rw [← Hu.out]; exact Lx.left_le m
          have hdl : ((c :: r).drop (Lx.cnt (c :: r))).length = (c :: r).length - Lx.cnt (c :: r) := List.length_drop
          have hpos : 0 < Lx.cnt (c :: r) := Nat.pos_of_ne_zero H0.out
          have h1 := HM.out.1
          have h2 := HM.out.2.1
          have h3 := HM.out.2.2
          have hlen : 0 < (c :: r).length := by simp
          rw [hD]
          refine ⟨⟨done ++ [⟨k, P, n, t⟩], (c :: r).drop (Lx.cnt (c :: r)), rfl, Lib.hid ⟨by omega, by rw [List.length_append, List.length_singleton]; omega, ?_⟩, ?_, HB8.out⟩, ?_⟩
          · rw [Lx.Tk_good N m h1 (by rw [Hu.out]; simp) (by rw [Hu.out]; exact H0.out), Hu.out, Lx.join_step, HKN.out H0.out] at h3
            have hon : (⟨k, 0, n, t⟩ : Lx.Tok).on (N - (c :: r).length) = ⟨k, P, n, t⟩ := by
              unfold Lx.Tok.on
              have h4 := HSN.out
              have h5 := HP.out
              have h6 := HUS.out
              rw [show (0 + (N - (c :: r).length) : Nat) = P from by omega]
            rw [hon] at h3
            exact h3
          · have h4 := HO8.out
            rw [List.length_append, List.flatMap_append]
            simpa using h4
          · rw [Lib.strSize_string, Lib.strSize_string, Lx.S_size, HUS.out]
            have := Lx.left_le ((c :: r).drop (Lx.cnt (c :: r)))
            omega
end Go.Proofs.YtbnhegipdfkdgaaDoor
end
section
namespace Go.Proofs.YtbnhegipdfkdgaaDoor
open Go.ChangeShapes Go.WideShapes Go.ChangeAt Go.RowKit
set_option linter.unusedVariables false
set_option linter.unusedSimpArgs false

theorem eqF_cons {d : Nat} {xs ys : Array Value} {w : World} {f : Field} {fs : List Field} {a b : Value} {r : Bool} (hn : f.name ≠ "_") (h1 : (part f.type xs f.offset).run Tryd.prog w = .ok a w) (h2 : (part f.type ys f.offset).run Tryd.prog w = .ok b w) (h3 : (Op.equalIn d f.type a b).run Tryd.prog w = .ok r w) :
    (Op.eqFields d xs ys (f :: fs)).run Tryd.prog w = if r then (Op.eqFields d xs ys fs).run Tryd.prog w else .ok false w := by
  rw [Op.eqFields]
  split
  · simp only [Sem.run_bind, h1, h2, h3, Result.andThen_ok]
    cases r <;> rfl
  · simp_all
theorem part_int {cs : Array Value} {k : Nat} {a : Int} (h : cs[k]? = some (.int .i64 a)) (w : World) : (part 3 cs k).run Tryd.prog w = .ok (.int .i64 a) w :=
  run_part_plain w (by kernel_rfl) h
theorem part_err {cs : Array Value} {k : Nat} {a : Int} (h : cs[k]? = some (.int .i64 a)) (w : World) : (part 26 cs k).run Tryd.prog w = .ok (.int .i64 a) w :=
  run_part_plain w (by kernel_rfl) h
theorem part_str {cs : Array Value} {k : Nat} {s : ByteArray} (h : cs[k]? = some (.string s)) (w : World) : (part 9 cs k).run Tryd.prog w = .ok (.string s) w :=
  run_part_plain w (by kernel_rfl) h
set_option maxRecDepth 100000 in
theorem tok_eq (k p n k' p' n' : Int) (t t' : ByteArray) (w : World) : (Op.equalIn 10000 59 (.agg (tkA k p n t)) (.agg (tkA k' p' n' t'))).run Tryd.prog w = .ok (k == k' && (p == p' && (n == n' && (t.toList == t'.toList)))) w := by
  have hp : Tryd.prog.stoodInHeld 59 = false := by kernel_rfl
  have hu : Tryd.prog.underlying 59 = some (.struct (Tryd.prog.fieldsOf 59)) := by kernel_rfl
  have hf : ∃ f0 f1 f2 f3 : Field, (Tryd.prog.fieldsOf 59).toList = [f0, f1, f2, f3] ∧ (f0.name ≠ "_" ∧ f0.type = 3 ∧ f0.offset = 0) ∧ (f1.name ≠ "_" ∧ f1.type = 3 ∧ f1.offset = 1) ∧ (f2.name ≠ "_" ∧ f2.type = 3 ∧ f2.offset = 2) ∧ (f3.name ≠ "_" ∧ f3.type = 9 ∧ f3.offset = 3) :=
    ⟨_, _, _, _, rfl, ⟨by decide, rfl, rfl⟩, ⟨by decide, rfl, rfl⟩, ⟨by decide, rfl, rfl⟩, ⟨by decide, rfl, rfl⟩⟩
  obtain ⟨f0, f1, f2, f3, hl, ⟨n0, t0, o0⟩, ⟨n1, t1, o1⟩, ⟨n2, t2, o2⟩, ⟨n3, t3, o3⟩⟩ := hf
  rw [run_equalIn_struct w 9999 _ _ _ hu hp, hl]
  rw [eqF_cons n0 (by rw [t0, o0]; exact part_int rfl w) (by rw [t0, o0]; exact part_int rfl w) (by rw [t0]; exact run_equalIn_int w 9998 _ .i64 .i64 k k' Tryd.underlying3)]
  rw [eqF_cons n1 (by rw [t1, o1]; exact part_int rfl w) (by rw [t1, o1]; exact part_int rfl w) (by rw [t1]; exact run_equalIn_int w 9998 _ .i64 .i64 p p' Tryd.underlying3)]
  rw [eqF_cons n2 (by rw [t2, o2]; exact part_int rfl w) (by rw [t2, o2]; exact part_int rfl w) (by rw [t2]; exact run_equalIn_int w 9998 _ .i64 .i64 n n' Tryd.underlying3)]
  rw [eqF_cons n3 (by rw [t3, o3]; exact part_str rfl w) (by rw [t3, o3]; exact part_str rfl w) (by rw [t3]; exact run_equalIn_string w 9998 _ t t' Tryd.underlying9)]
  cases (k == k') <;> cases (p == p') <;> cases (n == n') <;> cases (t.toList == t'.toList) <;> rfl
set_option maxRecDepth 100000 in
theorem bad_eq (k p k' p' : Int) (w : World) : (Op.equalIn 10000 28 (.agg (bdA k p)) (.agg (bdA k' p'))).run Tryd.prog w = .ok (k == k' && p == p') w := by
  have hp : Tryd.prog.stoodInHeld 28 = false := by kernel_rfl
  have hu : Tryd.prog.underlying 28 = some (.struct (Tryd.prog.fieldsOf 28)) := by kernel_rfl
  have hf : ∃ f0 f1 : Field, (Tryd.prog.fieldsOf 28).toList = [f0, f1] ∧ (f0.name ≠ "_" ∧ f0.type = 26 ∧ f0.offset = 0) ∧ (f1.name ≠ "_" ∧ f1.type = 3 ∧ f1.offset = 1) :=
    ⟨_, _, rfl, ⟨by decide, rfl, rfl⟩, ⟨by decide, rfl, rfl⟩⟩
  obtain ⟨f0, f1, hl, ⟨n0, t0, o0⟩, ⟨n1, t1, o1⟩⟩ := hf
  rw [run_equalIn_struct w 9999 _ _ _ hu hp, hl]
  rw [eqF_cons n0 (by rw [t0, o0]; exact part_err rfl w) (by rw [t0, o0]; exact part_err rfl w) (by rw [t0]; exact run_equalIn_int w 9998 _ .i64 .i64 k k' Tryd.underlying26)]
  rw [eqF_cons n1 (by rw [t1, o1]; exact part_int rfl w) (by rw [t1, o1]; exact part_int rfl w) (by rw [t1]; exact run_equalIn_int w 9998 _ .i64 .i64 p p' Tryd.underlying3)]
  cases (k == k') <;> cases (p == p') <;> rfl
end Go.Proofs.YtbnhegipdfkdgaaDoor
end
