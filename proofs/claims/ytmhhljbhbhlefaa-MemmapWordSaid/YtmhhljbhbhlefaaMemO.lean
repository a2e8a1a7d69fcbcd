/-
  Sizes, and a slice of regions, among a law's arguments: field by field, cell by cell.
-/
import Derived.Lib.SmallJoins
import Derived.OpenShut
import Derived.Test.YtmhhljbhbhlefaaMemS
namespace Go.Proofs.Ytmhhljbhbhlefaa
open Go.Joins Go.ChangeShapes Go.WideShapes Go.ChangeAt Go.RowKit Go.Deep
set_option linter.unusedVariables false

set_option maxRecDepth 100000 in
theorem open_sizes {H : Type} {enc : TypeId × Value → H} {w : World} {base : Nat} {spare : Nat → Bool} {held : Bool} {r : Reach} {b0 : Nat} {v : Value} {d : DataW H} {p : List MemPlace}
    (hv : Value.okWide Try.prog w r b0 23 v) (h : DataW.Trod enc Try.prog w base spare held 23 v d p) :
    ∃ (i o r : Int), v = .agg #[.int .i64 i, .int .i64 o, .int .i64 r] ∧ (Lit.int .i64 i).wf = true ∧ (Lit.int .i64 o).wf = true ∧ (Lit.int .i64 r).wf = true := by
  obtain ⟨cs, rfl, hsz⟩ := okWide_struct Try.underlying23 hv
  have hC : Try.prog.cellsOf 23 = 3 := by kernel_rfl
  obtain ⟨l⟩ := cs
  match l, hsz.trans hC with
  | [c0, c1, c2], _ =>
    obtain ⟨fuel, hf⟩ := h
    obtain ⟨xs, n, _, hx, _, hlen, hg⟩ := DataW.trod_struct Try.underlying23 hf
    have k1 : Try.prog.cellsOf 3 = 1 := by kernel_rfl
    match xs, hlen with
    | [y0, y1, y2], _ =>
      have g0 := hg 0 _ rfl
      have g1 := hg 1 _ rfl
      have g2 := hg 2 _ rfl
      simp [Value.cells, k1] at g0 g1 g2
      obtain ⟨n0, e0, _, f0⟩ := DataW.trod_int Try.underlying3 g0
      obtain ⟨n1, e1, _, f1⟩ := DataW.trod_int Try.underlying3 g1
      obtain ⟨n2, e2, _, f2⟩ := DataW.trod_int Try.underlying3 g2
      simp at e0 e1 e2
      exact ⟨n0, n1, n2, by rw [e0, e1, e2], f0, f1, f2⟩
section
variable {H : Type} {enc : TypeId × Value → H} {w : World} {base : Nat} {spare : Nat → Bool} {held : Bool} {n : Nat} {x : DataW H × List MemPlace}
set_option maxRecDepth 100000 in
theorem rg_cells {cs : List Value} (hl : cs.length = 3) (h : DataW.trod enc Try.prog w base spare held n 37 cs = some x) : ∃ i : Mm.Rg, cs = rgC i ∧ (Lit.int .i64 i.base).wf = true ∧ (Lit.int .i64 i.len).wf = true := by
  match cs, hl with
  | [c0, c1, c2], _ =>
    obtain ⟨xs, m, _, hx, _, hlen, hg⟩ := DataW.trod_struct Try.underlying37 h
    have k1 : Try.prog.cellsOf 3 = 1 := by kernel_rfl
    have k2 : Try.prog.cellsOf 4 = 1 := by kernel_rfl
    match xs, hlen with
    | [y0, y1, y2], _ =>
      have g0 := hg 0 _ rfl
      have g1 := hg 1 _ rfl
      have g2 := hg 2 _ rfl
      simp [k1, k2] at g0 g1 g2
      obtain ⟨n0, e0, _, f0⟩ := DataW.trod_int Try.underlying3 g0
      obtain ⟨n1, e1, _, f1⟩ := DataW.trod_int Try.underlying3 g1
      obtain ⟨b2, e2, _⟩ := DataW.trod_bool Try.underlying4 g2
      simp at e0 e1 e2
      exact ⟨⟨n0, n1, b2⟩, by rw [e0, e1, e2]; rfl, f0, f1⟩
end
set_option maxRecDepth 100000 in
theorem open_regs {H : Type} {enc : TypeId × Value → H} {w : World} {base : Nat} {spare : Nat → Bool} {held : Bool} {r : Reach} {b0 : Nat} {v : Value} {d : DataW H} {p : List MemPlace}
    (hv : Value.okWide Try.prog w r b0 24 v) (h : DataW.Trod enc Try.prog w base spare held 24 v d p) :
    ∃ L : List Mm.Rg, SliceC rgC 3 w v L ∧ Mm.wfs L := by
  have hC : Try.prog.cellsOf 37 = 3 := by kernel_rfl
  obtain ⟨a, len, cap, rfl⟩ := okWide_slice Try.underlying24 hv
  obtain ⟨fuel, hf⟩ := h
  have hf' : DataW.trod enc Try.prog w base spare held fuel 24 [.slice a len cap] = some (d, p) := by simpa [Value.cells] using hf
  rcases open_slice Try.underlying24 hf' with ⟨h1, h2⟩ | ⟨a', len', cap', m, n, D, Pl, hcs, hb, hl, hm, hmm, hx, hi⟩
  · simp at h1
    obtain ⟨rfl, rfl, rfl⟩ := h1
    exact ⟨[], ⟨none, 0, rfl, fun k hk => absurd hk (Nat.not_lt_zero _)⟩, fun k hk => absurd hk (Nat.not_lt_zero _)⟩
  · simp at hcs
    obtain ⟨rfl, rfl, rfl⟩ := hcs
    have hle : len ≤ m := by rw [hmm]; split <;> omega
    rw [hC] at hi
    have hex : ∀ i, ∃ x : Mm.Rg, i < len → OnC w (a'.add (i * 3)) (rgC x) ∧ (-9223372036854775808 ≤ x.base ∧ x.len ≤ 9223372036854775807) := fun i => by
      by_cases hil : i < len
      · obtain ⟨cs', hc, ht⟩ := hi i (by omega)
        obtain ⟨_, hcl, hat⟩ := World.cells?_some hc
        obtain ⟨x, rfl, hw1, hw2⟩ := rg_cells hcl ht
        refine ⟨x, fun _ => ⟨fun j u hj => ?_, (Mm.bd hw1).1, (Mm.bd hw2).2⟩⟩
        have hj3 : j < 3 := by
          apply Nat.lt_of_not_le
          intro hge
          rw [List.getElem?_eq_none (by rw [rgC_len]; exact hge)] at hj
          cases hj
        rw [hat j hj3]
        exact hj
      · exact ⟨⟨0, 0, false⟩, fun h => absurd h hil⟩
    refine ⟨(List.range len).map fun i => Classical.choose (hex i), ⟨some a', cap, by simp, fun k hk => ⟨a', rfl, ?_⟩⟩, fun k hk => ?_⟩
    · have hk' : k < len := by simpa using hk
      rw [List.getElem_map, List.getElem_range]
      exact (Classical.choose_spec (hex k) hk').1
    · have hk' : k < len := by simpa using hk
      rw [List.getElem_map, List.getElem_range]
      exact (Classical.choose_spec (hex k) hk').2
abbrev Box3 (W : World) (b : Nat) (i o r : Int) : Prop := W.cell? ⟨b, 0, none⟩ = some (.int .i64 i) ∧ W.cell? ⟨b, 1, none⟩ = some (.int .i64 o) ∧ W.cell? ⟨b, 2, none⟩ = some (.int .i64 r)
theorem Box3.kept {W w' : World} {b : Nat} {i o r : Int} (h : Box3 W b i o r) (hb : Below W.heap.size W w') : Box3 w' b i o r := by
  have hlt : b < W.heap.size := cell_lt h.1
  obtain ⟨h0, h1, h2⟩ := h
  refine ⟨?_, ?_, ?_⟩ <;> (rw [hb.cell (by exact hlt)]; assumption)
theorem sz_step {W wx w' : World} {b : Nat} {i o r : Int} (h : Below W.heap.size W wx ∧ Box3 wx b i o r) (hb : Below wx.heap.size wx w') : Below W.heap.size W w' ∧ Box3 w' b i o r :=
  ⟨h.1.trans (hb.mono h.1.size), h.2.kept hb⟩
theorem same_in {W wx : World} {B : Prop} {va vb : Value} {L : List Mm.Rg} (h : Below W.heap.size W wx ∧ B) (ha : SliceC rgC 3 W va L) (hb : SliceC rgC 3 W vb L) (hm : L.length ≤ 100) :
    Calls Try.prog 9 #[va, vb] wx fun e w' => e = .returned (.bool true) ∧ Below wx.heap.size wx w' := same_any va vb L wx hm (ha.kept h.1) (hb.kept h.1)
theorem Mm.regs_len (i o r f : Int) : (Mm.regs i o r f).length ≤ 100 := by unfold Mm.regs; split <;> simp [Mm.seven]
end Go.Proofs.Ytmhhljbhbhlefaa
