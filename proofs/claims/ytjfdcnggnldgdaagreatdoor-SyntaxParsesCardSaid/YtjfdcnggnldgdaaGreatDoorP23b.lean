/-
The parameters of a function: plain mathematics; parameters as cells.
-/
import Derived.Test.YtjfdcnggnldgdaaGreatDoorP21a
namespace Go.Proofs.YtjfdcnggnldgdaaGreatDoor
open Go.ChangeShapes Go.WideShapes Go.ChangeAt Go.RowKit
set_option linter.unusedVariables false
set_option linter.unusedSimpArgs false

def Sx.R.o (c : Int) (σ : Sx.R) : Sx.R := { σ with opn := c }
section
variable {L : List Lx.Tok} {σ : Sx.R} {c : Int}
theorem Sx.wrong_o (e : Int) : Sx.wrong L e (σ.o c) = (Sx.wrong L e σ).o c := by
  show (if σ.err = 0 then _ else _) = Sx.R.o c (if σ.err = 0 then _ else _)
  split <;> rfl
theorem Sx.sees_o (s : List UInt8) : Sx.sees L s (σ.o c) = Sx.sees L s σ := rfl
theorem Sx.eat_o (s : List UInt8) : Sx.eat L s (σ.o c) = (Sx.eat L s σ).o c := by
  show (if σ.err ≠ 0 then _ else if Sx.text L σ ≠ s then _ else _) = Sx.R.o c (if σ.err ≠ 0 then _ else if Sx.text L σ ≠ s then _ else _)
  split
  · rfl
  · split
    · exact Sx.wrong_o 10
    · rfl
theorem Sx.may_o (s : List UInt8) : Sx.may L s (σ.o c) = ((Sx.may L s σ).1, (Sx.may L s σ).2.o c) := by
  unfold Sx.may
  rw [Sx.sees_o]
  split <;> rfl
theorem Sx.some_o (k : Int) : Sx.some L k (σ.o c) = ((Sx.some L k σ).1, (Sx.some L k σ).2.o c) := by
  unfold Sx.some
  show (if σ.err ≠ 0 then _ else if (Sx.tk L σ).kind ≠ k then _ else _) = _
  split
  · rfl
  · split
    · rw [Sx.wrong_o]
    · rfl
theorem Sx.label_o : Sx.label L (σ.o c) = ((Sx.label L σ).1, (Sx.label L σ).2.o c) := by
  unfold Sx.label
  rw [Sx.may_o]
  simp only []
  split
  · rfl
  · rw [Sx.eat_o]
theorem Sx.brackets_o : Sx.brackets L (σ.o c) = ((Sx.brackets L σ).1, (Sx.brackets L σ).2.o c) := by
  unfold Sx.brackets
  rw [Sx.eat_o]
  simp only []
  show (_, Sx.eat L [93] (Sx.some L 2 (if (Sx.tk L (Sx.eat L [91] σ)).num = 0 then Sx.wrong L 10 ((Sx.eat L [91] σ).o c) else (Sx.eat L [91] σ).o c)).2) = _
  have h : (if (Sx.tk L (Sx.eat L [91] σ)).num = 0 then Sx.wrong L 10 ((Sx.eat L [91] σ).o c) else (Sx.eat L [91] σ).o c) = (if (Sx.tk L (Sx.eat L [91] σ)).num = 0 then Sx.wrong L 10 (Sx.eat L [91] σ) else Sx.eat L [91] σ).o c := by
    split
    · exact Sx.wrong_o 10
    · rfl
  rw [h, Sx.some_o]
  simp only []
  rw [Sx.eat_o]
  show ((Sx.some L 2 (if (Sx.tk L (Sx.eat L [91] σ)).num = 0 then Sx.wrong L 10 ((Sx.eat L [91] σ).o c) else (Sx.eat L [91] σ).o c)).1.num, _) = _
  rw [h, Sx.some_o]
theorem Sx.type_o (b : Bool) (l : Int) : Sx.type L b l (σ.o c) = ((Sx.type L b l σ).1, (Sx.type L b l σ).2.o c) := by
  unfold Sx.type
  simp only [Sx.may_o, Sx.eat_o, Sx.brackets_o, Sx.sees_o]
  split
  · rfl
  · split
    · rfl
    · split <;> rfl
theorem Sx.param_o : Sx.param L (σ.o c) = ((Sx.param L σ).1, (Sx.param L σ).2.o c) := by
  unfold Sx.param
  simp only [Sx.may_o, Sx.label_o, Sx.some_o, Sx.eat_o, Sx.type_o]
end
theorem Sx.params_o {L : List Lx.Tok} {c : Int} (f : Nat) : ∀ σ : Sx.R, Sx.params L f (σ.o c) = ((Sx.params L f σ).1, (Sx.params L f σ).2.o c) := by
  induction f with
  | zero => intro σ; rw [Sx.params, Sx.params]
  | succ f ih =>
    intro σ
    rw [Sx.params, Sx.params]
    simp only [Sx.may_o, Sx.param_o, ih]
    split <;> rfl
theorem Sx.plist_o {L : List Lx.Tok} {c : Int} (σ : Sx.R) : Sx.plist L (σ.o c) = ((Sx.plist L σ).1, (Sx.plist L σ).2.o c) := by
  unfold Sx.plist
  simp only [Sx.sees_o, Sx.param_o, Sx.params_o]
  split <;> rfl
def Sx.PA (L : List Lx.Tok) (k : Nat) (σ : Sx.R) : List Sx.Pa × Sx.R := if k = 0 then Sx.plist L σ else Sx.Ps L σ
section
variable {L : List Lx.Tok} (hL : Sx.Ends L)
include hL
theorem Sx.Ps_go {σ : Sx.R} (hi : σ.at' < L.length) (hs : Sx.sees L [44] σ = true) :
    Sx.Ps L σ = ((Sx.param L (Sx.eat L [44] σ)).1 :: (Sx.Ps L (Sx.param L (Sx.eat L [44] σ)).2).1, (Sx.Ps L (Sx.param L (Sx.eat L [44] σ)).2).2) := by
  have h := Sx.fuel_M L σ
  obtain ⟨he, ht⟩ := Sx.sees_text hs
  have hea : Sx.eat L [44] σ = { σ with at' := σ.at' + 1 } := by unfold Sx.eat; rw [if_neg (by simpa using he), if_neg (by simpa using ht)]
  unfold Sx.Ps
  rw [Sx.enough_params hL _ (Sx.fuel L + 1) σ hi (by omega) (by omega), Sx.params, Sx.may_is hs, hea]
  rfl
theorem Sx.Ps_stop {σ : Sx.R} (hi : σ.at' < L.length) (hs : Sx.sees L [44] σ = false) : Sx.Ps L σ = ([], σ) := by
  have h := Sx.fuel_M L σ
  unfold Sx.Ps
  rw [Sx.enough_params hL _ (Sx.fuel L + 1) σ hi (by omega) (by omega), Sx.params, Sx.may_no hs]
  rfl
theorem Sx.param_err {σ : Sx.R} (he : σ.err ≠ 0) : (Sx.param L σ).2 = σ := by
  have h := (Sx.le_param hL σ).2.1 he
  have h2 := Sx.op_param L σ
  obtain ⟨a, o, e, p⟩ := σ
  generalize (Sx.param L _).2 = τ at h h2 ⊢
  obtain ⟨a', o', e', p'⟩ := τ
  simp only [Sx.R.mk.injEq] at h h2 ⊢
  exact ⟨by omega, h2, by omega, by omega⟩
theorem Sx.param_at {σ : Sx.R} (hi : σ.at' < L.length) (h : (Sx.param L σ).2.err = 0) : σ.at' + 1 ≤ (Sx.param L σ).2.at' := by
  unfold Sx.param at h ⊢
  simp only [] at h ⊢
  have l1 := (Sx.le_may hL Sx.wOut (by decide) σ).trans (Sx.le_label hL _)
  have l2 := Sx.le_some hL 1 (by decide) (Sx.label L (Sx.may L Sx.wOut σ).2).2
  have l3 := (Sx.le_eat hL [58] (by decide) (Sx.some L 1 (Sx.label L (Sx.may L Sx.wOut σ).2).2).2).trans (Sx.le_type hL false (Sx.label L (Sx.may L Sx.wOut σ).2).1 _)
  have h2 := Sx.Le.ok l3 h
  have h1 := Sx.Le.ok l2 h2
  have h4 := Sx.M_some (L := L) (k := 1) h1 (l1.2.2.1 hi)
  unfold Sx.M at h4
  rw [if_neg (by simpa using h2), if_neg (by simpa using h1)] at h4
  have h5 := l2.2.2.1 (l1.2.2.1 hi)
  have h6 := l1.1
  have h7 := l3.1
  omega
end
theorem Sx.PA_step {L : List Lx.Tok} (hL : Sx.Ends L) (k : Nat) {τ : Sx.R} (hi : τ.at' < L.length) (he : τ.err = 0) (hs : Sx.sees L [41] τ = false) :
    Sx.unnest L [41] (Sx.PA L k τ).2 = Sx.unnest L [41] (Sx.PA L (k + 1) (Sx.param L (if decide (k = 0) = true then τ else Sx.eat L [44] τ)).2).2 ∧
    ((Sx.unnest L [41] (Sx.PA L (k + 1) (Sx.param L (if decide (k = 0) = true then τ else Sx.eat L [44] τ)).2).2).err = 0 → (Sx.PA L k τ).1 = (Sx.param L (if decide (k = 0) = true then τ else Sx.eat L [44] τ)).1 :: (Sx.PA L (k + 1) (Sx.param L (if decide (k = 0) = true then τ else Sx.eat L [44] τ)).2).1) := by
  by_cases hk : k = 0
  · subst hk
    rw [if_pos (by decide)]
    unfold Sx.PA Sx.plist
    rw [if_pos rfl, if_neg (by rw [hs]; decide), if_neg (by decide)]
    exact ⟨rfl, fun _ => rfl⟩
  · rw [if_neg (by simpa using hk)]
    unfold Sx.PA
    rw [if_neg hk, if_neg (by omega)]
    cases hc : Sx.sees L [44] τ
    · have h1 := Sx.eat_else he hc
      have h2 : (Sx.wrong L 10 τ).err ≠ 0 := Sx.wrong_err (by decide)
      have hi2 : (Sx.wrong L 10 τ).at' < L.length := (Sx.le_wrong L 10 τ (Or.inl rfl)).2.2.1 hi
      have h3 := Sx.eat_else he hs
      have h4 : Sx.eat L [41] (Sx.wrong L 10 τ) = Sx.wrong L 10 τ := Sx.eat_no h2
      rw [h1, Sx.param_err hL h2, Sx.Ps_stop hL hi hc, Sx.Ps_stop hL hi2 (Sx.sees_err h2)]
      unfold Sx.unnest
      simp only []
      rw [h3, h4]
      exact ⟨rfl, fun h => absurd h h2⟩
    · rw [Sx.Ps_go hL hi hc]
      exact ⟨rfl, fun _ => rfl⟩
theorem Sx.PA_exit {L : List Lx.Tok} (hL : Sx.Ends L) (k : Nat) {τ : Sx.R} (hi : τ.at' < L.length) (h : τ.err ≠ 0 ∨ Sx.sees L [41] τ = true) : Sx.unnest L [41] (Sx.PA L k τ).2 = Sx.unnest L [41] τ ∧ (τ.err = 0 → (Sx.PA L k τ).1 = []) := by
  rcases h with h | h
  · have hc := Sx.sees_err (L := L) (s := [44]) h
    unfold Sx.PA
    by_cases hk : k = 0
    · rw [if_pos hk]
      unfold Sx.plist
      rw [Sx.sees_err h, if_neg (by decide)]
      simp only []
      rw [Sx.param_err hL h]
      have h5 : Sx.params L (Sx.fuel L) τ = ([], τ) := Sx.Ps_stop hL hi hc
      rw [h5]
      exact ⟨rfl, fun h0 => absurd h0 h⟩
    · rw [if_neg hk, Sx.Ps_stop hL hi hc]; exact ⟨rfl, fun _ => rfl⟩
  · have hc : Sx.sees L [44] τ = false := Sx.sees_two h (by decide)
    unfold Sx.PA
    by_cases hk : k = 0
    · rw [if_pos hk]
      unfold Sx.plist
      rw [if_pos h]; exact ⟨rfl, fun _ => rfl⟩
    · rw [if_neg hk, Sx.Ps_stop hL hi hc]; exact ⟨rfl, fun _ => rfl⟩
/-- in parentheses, outside all nests -/
theorem Sx.PA_all {L : List Lx.Tok} (σ : Sx.R) (ho : σ.opn = 0) : Sx.unnest L [41] (Sx.PA L 0 (Sx.nest L [40] σ)).2 = Sx.eat L [41] (Sx.plist L (Sx.eat L [40] σ)).2 ∧ (Sx.PA L 0 (Sx.nest L [40] σ)).1 = (Sx.plist L (Sx.eat L [40] σ)).1 := by
  have h1 : Sx.nest L [40] σ = (Sx.eat L [40] σ).o 1 := by
    unfold Sx.nest
    rw [ho]
    rw [show (decide ((64 : Int) ≤ 0)) = false from rfl, Bool.and_false, if_neg (by decide)]
    simp only []
    rw [Sx.op_eat, ho]
    rfl
  rw [h1]
  unfold Sx.PA
  rw [if_pos rfl, Sx.plist_o]
  refine ⟨?_, rfl⟩
  unfold Sx.unnest
  simp only []
  rw [Sx.eat_o]
  have h2 : (Sx.eat L [41] (Sx.plist L (Sx.eat L [40] σ)).2).opn = 0 := by rw [Sx.op_eat, Sx.op_plist, Sx.op_eat, ho]
  generalize Sx.eat L [41] (Sx.plist L (Sx.eat L [40] σ)).2 = ρ at h2 ⊢
  obtain ⟨a, o, e, p⟩ := ρ
  simp only [] at h2
  subst h2
  rfl
def paL (p : Sx.Pa) : List Value := (paA p.pos (Lx.S p.name) p.ty.elem p.ty.len p.ty.label p.out).toList
/-- a slice of parameters -/
def psI (v : Value) (ps : List Sx.Pa) : It := ownI 81 6 v ps.length (ps.flatMap paL)
theorem paB (p : Int) (n : ByteArray) (e l b : Int) (o : Bool) : Tryz.prog.builtSlice 81 1 [(0, .agg (paA p n e l b o))] = some (paA p n e l b o) := by kernel_rfl
theorem paEl : Elem 81 6 := ⟨by decide, ⟨.agg (paA 0 ⟨#[]⟩ 0 0 0 false), by kernel_rfl, rfl⟩⟩
theorem paOne (p : Int) (n : ByteArray) (e l b : Int) (o : Bool) : (paA p n e l b o).all (·.oneCell') = true := by simp [Value.oneCell']
theorem St.pushP {X : Nat → Prop} {w0 w : World} {x r : It} {m : Nat} {v' : Value} {ps : List Sx.Pa} {p : Sx.Pa} (h : St X w0 w [x, r, ownI 81 6 v' m (ps.flatMap paL ++ (paA p.pos (Lx.S p.name) p.ty.elem p.ty.len p.ty.label p.out).toList)]) : St X w0 w [x, ownI 81 6 v' m ((ps ++ [p]).flatMap paL)] := by
  have h2 := h.sel [0, 1] rfl
  rw [List.flatMap_append, List.flatMap_cons, List.flatMap_nil, List.append_nil]
  exact h2
end Go.Proofs.YtjfdcnggnldgdaaGreatDoor
