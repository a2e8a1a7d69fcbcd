/-
From the row's condition on the table of signs between two to the table's cells.
-/
import Derived.Test.YtbnhegipdfkdgaaDoorRows
import Derived.Test.YtbnhegipdfkdgaaDoorP38a
import Derived.Deep.Strs
import Derived.OpenShut
namespace Go.Proofs.YtbnhegipdfkdgaaDoor
open Go.ChangeShapes Go.WideShapes Go.ChangeAt Go.RowKit
set_option linter.unusedVariables false
set_option linter.unusedSimpArgs false

section
variable {H : Type} {enc : TypeId × Value → H} {w : World} {base : Nat} {sp : Nat → Bool} {held : Bool} {fuel : Nat} {cs : List Value} {y : DataW H × List MemPlace}
set_option maxRecDepth 100000 in
theorem str_of_trod {s : List UInt8} (h : DataW.trod enc Tryd.prog w base sp held fuel 9 cs = some y) (hy : y.1 = .lit (.string s)) : cs = [.string (Lx.S s)] := by
  cases fuel with
  | zero => simp [DataW.trod] at h
  | succ fuel =>
    unfold DataW.trod at h
    rw [Tryd.underlying9] at h
    split at h <;> simp_all
    rename_i b _
    obtain ⟨_, rfl⟩ := h
    simp at hy
    subst hy
    rfl
set_option maxRecDepth 100000 in
theorem int_of_trod {n : Int} (h : DataW.trod enc Tryd.prog w base sp held fuel 3 cs = some y) (hy : y.1 = .lit (.int .i64 n)) : cs = [.int .i64 n] := by
  cases fuel with
  | zero => simp [DataW.trod] at h
  | succ fuel =>
    unfold DataW.trod at h
    rw [Tryd.underlying3] at h
    split at h <;> simp_all
    obtain ⟨⟨rfl, _⟩, rfl⟩ := h
    simp at hy
    subst hy
    rfl
def entD {H : Type} (x : List UInt8 × Nat × Int) : DataW H := .agg [.lit (.string x.1), .lit (.int .i64 x.2.2), .lit (.int .i64 (x.2.1 : Int))]
def entC (x : List UInt8 × Nat × Int) : List Value := [.string (Lx.S x.1), .int .i64 x.2.2, .int .i64 x.2.1]
theorem ent_cells : Tryd.prog.cellsOf 121 = 3 := by kernel_rfl
theorem str_cells : Tryd.prog.cellsOf 9 = 1 := by kernel_rfl
theorem int_cells : Tryd.prog.cellsOf 3 = 1 := by kernel_rfl
theorem tab_cells : Tryd.prog.cellsOf 122 = 42 := by kernel_rfl
set_option maxRecDepth 100000 in
theorem ent_of_trod {x : List UInt8 × Nat × Int} (h : DataW.trod enc Tryd.prog w base sp held fuel 121 cs = some y) (hy : y.1 = entD x) : cs = entC x := by
  obtain ⟨y0, y1, y2, n, rfl, hl, h0, h1, h2⟩ := Go.Deep.trod_struct3 Tryd.underlying121 h
  rw [ent_cells] at hl
  match cs, hl with
  | [a, b, c], _ =>
    have hy' : y0.1 = .lit (.string x.1) ∧ y1.1 = .lit (.int .i64 x.2.2) ∧ y2.1 = .lit (.int .i64 (x.2.1 : Int)) := by
      unfold entD at hy
      simpa using hy
    have e0 := str_of_trod h0 hy'.1
    have e1 := int_of_trod h1 hy'.2.1
    have e2 := int_of_trod h2 hy'.2.2
    simp only [str_cells, int_cells, List.drop_zero, List.drop_succ_cons, List.take_succ_cons, List.take_zero, List.cons.injEq, and_true] at e0 e1 e2
    unfold entC
    rw [e0, e1, e2]
end
theorem chunks_flat {α : Type} (f : α → List Value) (hf : ∀ x, (f x).length = 3) : ∀ (L : List α) (cs : List Value), cs.length = L.length * 3 → (∀ (i : Nat) (hi : i < L.length), (cs.drop (i * 3)).take 3 = f L[i]) → cs = L.flatMap f
  | [], cs, hl, _ => by simpa using hl
  | x :: L, cs, hl, h => by
    have h0 := h 0 (by simp)
    simp only [Nat.zero_mul, List.drop_zero, List.getElem_cons_zero] at h0
    have ih := chunks_flat f hf L (cs.drop 3) (by rw [List.length_drop, hl, List.length_cons]; omega) (fun i hi => by
      have h1 := h (i + 1) (by simp; omega)
      rw [List.drop_drop, show 3 + i * 3 = (i + 1) * 3 by omega]
      exact h1)
    rw [List.flatMap_cons, ← ih, ← h0, List.take_append_drop]
set_option maxRecDepth 100000 in
theorem tab_of_trod {H : Type} {enc : TypeId × Value → H} {w : World} {base : Nat} {sp : Nat → Bool} {held : Bool} {fuel : Nat} {cs : List Value} {y : DataW H × List MemPlace} (h : DataW.trod enc Tryd.prog w base sp held fuel 122 cs = some y) (hy : y.1 = .agg (Sx.tights.map entD)) : cs = tabC := by
  obtain ⟨xs, m, rfl, rfl, hl, hn, hx⟩ := DataW.trod_array Tryd.underlying122 h
  rw [tab_cells] at hl
  have hm : xs.map (·.1) = Sx.tights.map entD := by simpa using hy
  refine chunks_flat entC (fun _ => rfl) Sx.tights cs (by rw [hl]; rfl) (fun i hi => ?_)
  have hi' : i < 14 := hi
  have h1 := hx i hi'
  rw [ent_cells, List.getElem?_eq_getElem (by omega)] at h1
  refine ent_of_trod h1 ?_
  have h2 : (xs.map (·.1))[i]? = (Sx.tights.map (entD (H := H)))[i]? := by rw [hm]
  rw [List.getElem?_map, List.getElem?_map, List.getElem?_eq_getElem (by omega), List.getElem?_eq_getElem hi] at h2
  simpa using h2
theorem tab_named : Tryd.prog.globalNamed "hauberk/syntax.between" = some 3 := by kernel_rfl
theorem tab_typed : (Tryd.prog.globals[3]?).map (·.type) = some 122 := by kernel_rfl
theorem tab_of_laid {W : World} {n1 n3 : String} {d1 d3 : DataW Unit} (h : laidMet Tryd.prog [(n1, d1), ("hauberk/syntax.between", Rows.laid_hauberk_syntax_between), (n3, d3)] W) : TabAt W := by
  obtain ⟨ps, ⟨g0, t0, cs0, f0, p0, q0, _, _, _, _, ⟨g, t, cs, fuel, p, q, hg, ht, hvar, hd, _, _⟩, _⟩, _⟩ := h
  obtain rfl := Option.some.inj (tab_named.symm.trans hg)
  obtain rfl := Option.some.inj (tab_typed.symm.trans ht)
  have hc : cs.toList = tabC := tab_of_trod hd rfl
  intro j v hj
  rw [World.var?_cell tab_named hvar j, ← Array.getElem?_toList, hc]
  exact hj
/-- a function on no parts that returns true, as a law wants it -/
theorem fun_as_law {f : FuncId} {args : Array Value} (h : Fn f args [] fun e J => e = .returned (.bool true) ∧ J = []) (w : World) (hT : TabAt w) : Calls Tryd.prog f args w fun e w' => e = .returned (.bool true) ∧ Below w.heap.size w w' := by
  refine (h w (fun _ => False) ⟨fun _ h => h.elim, fun h => h, hT⟩ trivial).mono ?_
  rintro e w' ⟨J, ⟨rfl, rfl⟩, hs⟩
  exact ⟨rfl, below_of hs⟩
end Go.Proofs.YtbnhegipdfkdgaaDoor
