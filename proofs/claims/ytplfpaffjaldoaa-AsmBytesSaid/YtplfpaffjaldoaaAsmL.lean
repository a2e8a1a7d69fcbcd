/-
  Package asm: what lengthen returns, and what it makes of the ways.
-/
import Derived.Lib.BufferWrite
import Derived.Lib.BufferOwn
import Derived.Test.YtplfpaffjaldoaaAsmW
namespace Go.Proofs.Ytplfpaffjaldoaa
open Go.ChangeShapes Go.WideShapes Go.ChangeAt Go.RowKit
set_option linter.unusedVariables false
set_option linter.unusedSimpArgs false

/-- the ways lie in a block of their own -/
def WaysAt (W : World) (a : Addr) (g : Nat) (ws : List As.Way) : Prop := a = ⟨g, 0, none⟩ ∧ ∃ cur, W.heap[g]? = some (.cells cur 82 (0, 0)) ∧ cur.toList.take (ws.length * 4) = ws.flatMap wayC
theorem addr_mul (g k : Nat) : ((⟨g, 0, none⟩ : Addr).add k) = ⟨g, k, none⟩ := by unfold Addr.add; split <;> simp_all
theorem WaysAt.at {W : World} {a : Addr} {g : Nat} {ws : List As.Way} (h : WaysAt W a g ws) (j : Nat) (hj : j < ws.length) : OnC W (a.add (j * 4)) (wayC ws[j]) := by
  obtain ⟨rfl, cur, hg, ht⟩ := h
  intro i u hi
  have h1 := flatC_get wayC 4 wayC_len ws j hj i u hi
  rw [Go.Deep.add_add, addr_mul]
  simp only [World.cell?, hg]
  rw [← ht, List.getElem?_take] at h1
  split at h1
  · simpa using h1
  · cases h1
theorem WaysAt.open' {W : World} {a : Addr} {g : Nat} {ws : List As.Way} (h : WaysAt W a g ws) (j : Nat) : W.frozen? ⟨(a.add (j * 4)).block, (a.add (j * 4)).off + 3, none⟩ = false := by
  obtain ⟨rfl, cur, hg, ht⟩ := h
  rw [addr_mul]
  simp [World.frozen?, hg]
theorem flat_set (ws : List As.Way) : ∀ (j : Nat) (hj : j < ws.length) (s : Int), (ws.flatMap wayC).set (j * 4 + 3) (.int .i64 s) = (ws.set j ⟨ws[j].item, ws[j].behind, ws[j].before, s⟩).flatMap wayC := by
  induction ws with
  | nil => intro j hj; exact absurd hj (Nat.not_lt_zero _)
  | cons x ws ih =>
    intro j hj s
    cases j with
    | zero => simp [wayC]
    | succ j =>
      have := ih j (by simpa using hj) s
      rw [show (j + 1) * 4 + 3 = (j * 4 + 3) + 1 + 1 + 1 + 1 by omega]
      simp only [List.flatMap_cons, wayC, List.cons_append, List.nil_append, List.set_cons_succ, List.getElem_cons_succ]
      rw [this]
theorem WaysAt.set {W : World} {a : Addr} {g : Nat} {ws : List As.Way} (h : WaysAt W a g ws) (j : Nat) (hj : j < ws.length) (s : Int) : WaysAt (W.setCell ⟨(a.add (j * 4)).block, (a.add (j * 4)).off + 3, none⟩ (.int .i64 s)) a g (ws.set j ⟨ws[j].item, ws[j].behind, ws[j].before, s⟩) := by
  obtain ⟨rfl, cur, hg, ht⟩ := h
  refine ⟨rfl, cur.setIfInBounds (j * 4 + 3) (.int .i64 s), ?_, ?_⟩
  · rw [addr_mul]
    obtain ⟨hlt, hk⟩ := Array.getElem?_eq_some_iff.1 hg
    show (W.heap.modify g _)[g]? = _
    rw [Array.getElem?_eq_getElem (by rw [Array.size_modify]; exact hlt), Array.getElem_modify_self, hk]
    rfl
  · rw [List.length_set, Array.toList_setIfInBounds, List.take_set, ht, flat_set ws j hj s]
theorem WaysAt.kept {W W' : World} {a : Addr} {g : Nat} {ws : List As.Way} (h : WaysAt W a g ws) {row : Option Nat} (hg : W.grownBy W' row) (hne : some g ≠ row) : WaysAt W' a g ws := by
  obtain ⟨rfl, cur, hb, ht⟩ := h
  exact ⟨rfl, cur, (hg.block g (Array.getElem?_eq_some_iff.1 hb).1 hne).trans hb, ht⟩
theorem near_sym (w : World) : Calls Try.prog 56 #[] w fun e w' => e = .returned (.int .i64 1025) ∧ w' = w := (near_any w).mono fun _ _ h => ⟨h.1, h.2.symm⟩
/-- one way, with one more wide branch on it -/
def As.lenStep (item : Int) (j : Nat) (st : List As.Way × List Nat) : List As.Way × List Nat :=
  match st.1[j]? with
  | some x => if decide (item ≤ x.behind) || decide (x.before ≤ item) then st else (st.1.set j ⟨x.item, x.behind, x.before, x.spare - 1⟩, if x.spare - 1 == -1 then st.2 ++ [j] else st.2)
  | none => st
def As.lenRun (item : Int) (lo : Nat) : Nat → List As.Way × List Nat → List As.Way × List Nat
  | 0, st => st
  | m + 1, st => As.lenStep item (lo + m) (As.lenRun item lo m st)
theorem lenRun_len (item : Int) (lo : Nat) (ws : List As.Way) (l : List Nat) (m : Nat) : (As.lenRun item lo m (ws, l)).1.length = ws.length := by
  induction m with
  | zero => rfl
  | succ m ih =>
    rw [As.lenRun, As.lenStep]
    split
    · split
      · exact ih
      · rw [List.length_set]; exact ih
    · exact ih
theorem lenRun_rest (item : Int) (lo : Nat) (ws : List As.Way) (l : List Nat) (m : Nat) : ∀ i, lo + m ≤ i → (As.lenRun item lo m (ws, l)).1[i]? = ws[i]? := by
  induction m with
  | zero => intro i _; rfl
  | succ m ih =>
    intro i hi
    rw [As.lenRun, As.lenStep]
    split
    · split
      · exact ih i (by omega)
      · rw [List.getElem?_set_ne (by omega)]; exact ih i (by omega)
    · exact ih i (by omega)
theorem lenRun_late (item : Int) (lo : Nat) (ws : List As.Way) (m : Nat) : (As.lenRun item lo m (ws, [])).2.length ≤ m := by
  induction m with
  | zero => exact Nat.le_refl 0
  | succ m ih =>
    rw [As.lenRun, As.lenStep]
    split
    · split
      · omega
      · dsimp only
        split
        · rw [List.length_append]; simp; omega
        · omega
    · omega
end Go.Proofs.Ytplfpaffjaldoaa
