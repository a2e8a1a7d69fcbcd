/-
  A slice of runs of items among a law's arguments: its runs, cell by cell.
-/
import Derived.Deep.Slices
import Derived.Lib.SmallJoins
import Derived.WalkKit
import Derived.ProofKit
import Derived.OpenShut
import Derived.Test.YtplfpaffjaldoaaAsmF
namespace Go.Proofs.Ytplfpaffjaldoaa
open Go.Joins Go.ChangeShapes Go.WideShapes Go.ChangeAt Go.RowKit Go.Deep
set_option linter.unusedVariables false

structure As.Run where
  item : As.It
  many : Int
def runC (r : As.Run) : List Value := itC r.item ++ [.int .i64 r.many]
theorem runC_len (r : As.Run) : (runC r).length = 11 := rfl
section
variable {H : Type} {enc : TypeId × Value → H} {w : World} {base : Nat} {spare : Nat → Bool} {held : Bool} {n : Nat} {x : DataW H × List MemPlace}
set_option maxRecDepth 100000 in
theorem ins_cells {cs : List Value} (hl : cs.length = 8) (h : DataW.trod enc Try.prog w base spare held n 39 cs = some x) : ∃ i : Th.Ins, cs = insC i := by
  match cs, hl with
  | [c0, c1, c2, c3, c4, c5, c6, c7], _ =>
    obtain ⟨xs, m, _, hx, _, hlen, hg⟩ := DataW.trod_struct Try.underlying39 h
    have k1 : Try.prog.cellsOf 3 = 1 := by kernel_rfl
    have k2 : Try.prog.cellsOf 4 = 1 := by kernel_rfl
    match xs, hlen with
    | [y0, y1, y2, y3, y4, y5, y6, y7], _ =>
      have g0 := hg 0 _ rfl
      have g1 := hg 1 _ rfl
      have g2 := hg 2 _ rfl
      have g3 := hg 3 _ rfl
      have g4 := hg 4 _ rfl
      have g5 := hg 5 _ rfl
      have g6 := hg 6 _ rfl
      have g7 := hg 7 _ rfl
      simp [k1, k2] at g0 g1 g2 g3 g4 g5 g6 g7
      obtain ⟨n0, e0, _, _⟩ := DataW.trod_int Try.underlying3 g0
      obtain ⟨n1, e1, _, _⟩ := DataW.trod_int Try.underlying3 g1
      obtain ⟨n2, e2, _, _⟩ := DataW.trod_int Try.underlying3 g2
      obtain ⟨n3, e3, _, _⟩ := DataW.trod_int Try.underlying3 g3
      obtain ⟨n4, e4, _, _⟩ := DataW.trod_int Try.underlying3 g4
      obtain ⟨n5, e5, _, _⟩ := DataW.trod_int Try.underlying3 g5
      obtain ⟨n6, e6, _, _⟩ := DataW.trod_int Try.underlying3 g6
      obtain ⟨b7, e7, _⟩ := DataW.trod_bool Try.underlying4 g7
      simp at e0 e1 e2 e3 e4 e5 e6 e7
      exact ⟨⟨n0, n1, n2, n3, n4, n5, n6, b7⟩, by rw [e0, e1, e2, e3, e4, e5, e6, e7]; rfl⟩
set_option maxRecDepth 100000 in
theorem it_cells {cs : List Value} (hl : cs.length = 10) (h : DataW.trod enc Try.prog w base spare held n 41 cs = some x) : ∃ i : As.It, cs = itC i ∧ (Lit.int .i64 i.label).wf = true := by
  match cs, hl with
  | [c0, c1, c2, c3, c4, c5, c6, c7, c8, c9], _ =>
    obtain ⟨xs, m, _, hx, _, hlen, hg⟩ := DataW.trod_struct Try.underlying41 h
    have k1 : Try.prog.cellsOf 3 = 1 := by kernel_rfl
    have k3 : Try.prog.cellsOf 39 = 8 := by kernel_rfl
    match xs, hlen with
    | [y0, y1, y2], _ =>
      have g0 := hg 0 _ rfl
      have g1 := hg 1 _ rfl
      have g2 := hg 2 _ rfl
      simp [k1, k3] at g0 g1 g2
      obtain ⟨n0, e0, _, _⟩ := DataW.trod_int Try.underlying3 g0
      obtain ⟨n1, e1, _, hw⟩ := DataW.trod_int Try.underlying3 g1
      obtain ⟨i, e2⟩ := ins_cells (by rfl) g2
      simp at e0 e1
      exact ⟨⟨n0, n1, i⟩, by rw [e0, e1]; show _ :: _ :: _ = _ :: _ :: insC i; rw [← e2], hw⟩
set_option maxRecDepth 100000 in
theorem run_cells {cs : List Value} (hl : cs.length = 11) (h : DataW.trod enc Try.prog w base spare held n 52 cs = some x) : ∃ r : As.Run, cs = runC r ∧ (Lit.int .i64 r.item.label).wf = true ∧ (Lit.int .i64 r.many).wf = true := by
  match cs, hl with
  | [c0, c1, c2, c3, c4, c5, c6, c7, c8, c9, c10], _ =>
    obtain ⟨xs, m, _, hx, _, hlen, hg⟩ := DataW.trod_struct Try.underlying52 h
    have k1 : Try.prog.cellsOf 3 = 1 := by kernel_rfl
    have k3 : Try.prog.cellsOf 41 = 10 := by kernel_rfl
    match xs, hlen with
    | [y0, y1], _ =>
      have g0 := hg 0 _ rfl
      have g1 := hg 1 _ rfl
      simp [k1, k3] at g0 g1
      obtain ⟨i, e0, hw⟩ := it_cells (by rfl) g0
      obtain ⟨n1, e1, _, hw2⟩ := DataW.trod_int Try.underlying3 g1
      simp at e1
      exact ⟨⟨i, n1⟩, by rw [e1]; show [_, _, _, _, _, _, _, _, _, _] ++ [_] = itC i ++ [_]; rw [e0], hw, hw2⟩
end
set_option maxRecDepth 100000 in
theorem open_runs {H : Type} {enc : TypeId × Value → H} {w : World} {base : Nat} {spare : Nat → Bool} {held : Bool} {r : Reach} {b0 : Nat} {v : Value} {d : DataW H} {p : List MemPlace}
    (hv : Value.okWide Try.prog w r b0 22 v) (h : DataW.Trod enc Try.prog w base spare held 22 v d p) :
    ∃ L : List As.Run, SliceC runC 11 w v L ∧ (∀ r ∈ L, (Lit.int .i64 r.item.label).wf = true) ∧ L.length ≤ maxLen := by
  have hC : Try.prog.cellsOf 52 = 11 := by kernel_rfl
  obtain ⟨a, len, cap, rfl⟩ := okWide_slice Try.underlying22 hv
  obtain ⟨fuel, hf⟩ := h
  have hf' : DataW.trod enc Try.prog w base spare held fuel 22 [.slice a len cap] = some (d, p) := by simpa [Value.cells] using hf
  rcases open_slice Try.underlying22 hf' with ⟨h1, h2⟩ | ⟨a', len', cap', m, n, D, Pl, hcs, hb, hl, hm, hmm, hx, hi⟩
  · simp at h1
    obtain ⟨rfl, rfl, rfl⟩ := h1
    exact ⟨[], ⟨none, 0, rfl, fun k hk => absurd hk (Nat.not_lt_zero _)⟩, (fun r hr => by cases hr), Nat.zero_le _⟩
  · simp at hcs
    obtain ⟨rfl, rfl, rfl⟩ := hcs
    have hle : len ≤ m := by rw [hmm]; split <;> omega
    rw [hC] at hi
    have hex : ∀ i, ∃ x : As.Run, i < len → OnC w (a'.add (i * 11)) (runC x) ∧ (Lit.int .i64 x.item.label).wf = true := fun i => by
      by_cases hil : i < len
      · obtain ⟨cs', hc, ht⟩ := hi i (by omega)
        obtain ⟨_, hcl, hat⟩ := World.cells?_some hc
        obtain ⟨x, rfl, hw, _⟩ := run_cells hcl ht
        refine ⟨x, fun _ => ⟨fun j u hj => ?_, hw⟩⟩
        have hj11 : j < 11 := by
          apply Nat.lt_of_not_le
          intro hge
          rw [List.getElem?_eq_none (by rw [runC_len]; exact hge)] at hj
          cases hj
        rw [hat j hj11]
        exact hj
      · exact ⟨⟨⟨0, 0, Th.none0⟩, 0⟩, fun h => absurd h hil⟩
    refine ⟨(List.range len).map fun i => Classical.choose (hex i), ⟨some a', cap, by simp, fun k hk => ⟨a', rfl, ?_⟩⟩, (fun r hr => ?_), (by simp; omega)⟩
    · have hk' : k < len := by simpa using hk
      rw [List.getElem_map, List.getElem_range]
      exact (Classical.choose_spec (hex k) hk').1
    · rw [List.mem_map] at hr
      obtain ⟨i, hi', rfl⟩ := hr
      exact (Classical.choose_spec (hex i) (List.mem_range.1 hi')).2
end Go.Proofs.Ytplfpaffjaldoaa
