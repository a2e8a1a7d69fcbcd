/-
  Stage 7: what lives and few return; a start, steps and a step among a law's arguments.
-/
import Derived.Lib.SmallJoins
import Derived.OpenShut
import Derived.Test.YtchljdcjlkfbfaaMryL
import Derived.Test.YtchljdcjlkfbfaaMryK
namespace Go.Proofs.Ytchljdcjlkfbfaa
open Go.Joins Go.ChangeShapes Go.WideShapes Go.ChangeAt Go.RowKit Go.Deep
set_option linter.unusedVariables false

set_option maxRecDepth 100000 in
theorem open_start {H : Type} {enc : TypeId × Value → H} {w : World} {base : Nat} {spare : Nat → Bool} {held : Bool} {r : Reach} {b0 : Nat} {v : Value} {d : DataW H} {p : List MemPlace}
    (hv : Value.okWide Try.prog w r b0 25 v) (h : DataW.Trod enc Try.prog w base spare held 25 v d p) :
    ∃ s : My.St, v = .agg #[.int .i64 s.i, .int .i64 s.o, .int .i64 s.r, .string s.fl, .string s.inp] ∧ (Lit.int .i64 s.r).wf = true := by
  obtain ⟨cs, rfl, hsz⟩ := okWide_struct Try.underlying25 hv
  have hC : Try.prog.cellsOf 25 = 5 := by kernel_rfl
  obtain ⟨l⟩ := cs
  match l, hsz.trans hC with
  | [c0, c1, c2, c3, c4], _ =>
    obtain ⟨fuel, hf⟩ := h
    obtain ⟨xs, n, _, hx, _, hlen, hg⟩ := DataW.trod_struct Try.underlying25 hf
    have k1 : Try.prog.cellsOf 3 = 1 := by kernel_rfl
    have k2 : Try.prog.cellsOf 9 = 1 := by kernel_rfl
    have k3 : Try.prog.cellsOf 23 = 3 := by kernel_rfl
    match xs, hlen with
    | [y0, y1, y2], _ =>
      have g0 := hg 0 _ rfl
      have g1 := hg 1 _ rfl
      have g2 := hg 2 _ rfl
      simp [Value.cells, k2, k3] at g0 g1 g2
      obtain ⟨n3, e3, _, f3⟩ := DataW.trod_string Try.underlying9 g1
      obtain ⟨n4, e4, _, f4⟩ := DataW.trod_string Try.underlying9 g2
      obtain ⟨zs, n', _, hz, _, hzl, hzg⟩ := DataW.trod_struct Try.underlying23 g0
      match zs, hzl with
      | [z0, z1, z2], _ =>
        have q0 := hzg 0 _ rfl
        have q1 := hzg 1 _ rfl
        have q2 := hzg 2 _ rfl
        simp [k1] at q0 q1 q2
        obtain ⟨n0, e0, _, f0⟩ := DataW.trod_int Try.underlying3 q0
        obtain ⟨n1, e1, _, f1⟩ := DataW.trod_int Try.underlying3 q1
        obtain ⟨n2, e2, _, f2⟩ := DataW.trod_int Try.underlying3 q2
        simp at e0 e1 e2 e3 e4
        exact ⟨⟨n0, n1, n2, n3, n4⟩, by rw [e0, e1, e2, e3, e4], f2⟩
section
variable {H : Type} {enc : TypeId × Value → H} {w : World} {base : Nat} {spare : Nat → Bool} {held : Bool} {n : Nat} {x : DataW H × List MemPlace}
set_option maxRecDepth 100000 in
theorem st_cells {cs : List Value} (hl : cs.length = 4) (h : DataW.trod enc Try.prog w base spare held n 44 cs = some x) : ∃ i : My.Step, cs = stC i ∧ (-9223372036854775808 ≤ i.a ∧ i.a ≤ 9223372036854775807) := by
  match cs, hl with
  | [c0, c1, c2, c3], _ =>
    obtain ⟨xs, m, _, hx, _, hlen, hg⟩ := DataW.trod_struct Try.underlying44 h
    have k1 : Try.prog.cellsOf 3 = 1 := by kernel_rfl
    match xs, hlen with
    | [y0, y1, y2, y3], _ =>
      have g0 := hg 0 _ rfl
      have g1 := hg 1 _ rfl
      have g2 := hg 2 _ rfl
      have g3 := hg 3 _ rfl
      simp [k1] at g0 g1 g2 g3
      obtain ⟨n0, e0, _, f0⟩ := DataW.trod_int Try.underlying3 g0
      obtain ⟨n1, e1, _, f1⟩ := DataW.trod_int Try.underlying3 g1
      obtain ⟨n2, e2, _, f2⟩ := DataW.trod_int Try.underlying3 g2
      obtain ⟨n3, e3, _, f3⟩ := DataW.trod_int Try.underlying3 g3
      simp at e0 e1 e2 e3
      exact ⟨⟨n0, n1, n2, n3⟩, by rw [e0, e1, e2, e3]; rfl, Mm.bd f1⟩
end
set_option maxRecDepth 100000 in
theorem open_step {H : Type} {enc : TypeId × Value → H} {w : World} {base : Nat} {spare : Nat → Bool} {held : Bool} {r : Reach} {b0 : Nat} {v : Value} {d : DataW H} {p : List MemPlace}
    (hv : Value.okWide Try.prog w r b0 44 v) (h : DataW.Trod enc Try.prog w base spare held 44 v d p) :
    ∃ i : My.Step, v = .agg #[.int .i64 i.kind, .int .i64 i.a, .int .i64 i.n, .int .i64 i.v] ∧ (-9223372036854775808 ≤ i.a ∧ i.a ≤ 9223372036854775807) := by
  obtain ⟨cs, rfl, hsz⟩ := okWide_struct Try.underlying44 hv
  have hC : Try.prog.cellsOf 44 = 4 := by kernel_rfl
  obtain ⟨fuel, hf⟩ := h
  have hf' : DataW.trod enc Try.prog w base spare held fuel 44 cs.toList = some (d, p) := by simpa [Value.cells] using hf
  obtain ⟨i, hi, hb⟩ := st_cells (by rw [Array.length_toList]; exact hsz.trans hC) hf'
  refine ⟨i, ?_, hb⟩
  congr 1
  apply Array.ext'
  exact hi
set_option maxRecDepth 100000 in
theorem open_steps {H : Type} {enc : TypeId × Value → H} {w : World} {base : Nat} {spare : Nat → Bool} {held : Bool} {r : Reach} {b0 : Nat} {v : Value} {d : DataW H} {p : List MemPlace}
    (hv : Value.okWide Try.prog w r b0 26 v) (h : DataW.Trod enc Try.prog w base spare held 26 v d p) :
    ∃ (L : List My.Step) (q : Option Addr) (c : Nat), v = .slice q L.length c ∧ SliceC stC 4 w (.slice q L.length c) L ∧ My.wfL L ∧ L.length ≤ c := by
  have hC : Try.prog.cellsOf 44 = 4 := by kernel_rfl
  obtain ⟨a, len, cap, rfl⟩ := okWide_slice Try.underlying26 hv
  obtain ⟨fuel, hf⟩ := h
  have hf' : DataW.trod enc Try.prog w base spare held fuel 26 [.slice a len cap] = some (d, p) := by simpa [Value.cells] using hf
  rcases open_slice Try.underlying26 hf' with ⟨h1, h2⟩ | ⟨a', len', cap', m, n, D, Pl, hcs, hb, hl, hm, hmm, hx, hi⟩
  · simp at h1
    obtain ⟨rfl, rfl, rfl⟩ := h1
    exact ⟨[], none, 0, rfl, ⟨none, 0, rfl, fun k hk => absurd hk (Nat.not_lt_zero _)⟩, fun x hx => absurd hx (by simp), Nat.le_refl _⟩
  · simp at hcs
    obtain ⟨rfl, rfl, rfl⟩ := hcs
    have hle : len ≤ m := by rw [hmm]; split <;> omega
    rw [hC] at hi
    have hex : ∀ i, ∃ x : My.Step, i < len → OnC w (a'.add (i * 4)) (stC x) ∧ (-9223372036854775808 ≤ x.a ∧ x.a ≤ 9223372036854775807) := fun i => by
      by_cases hil : i < len
      · obtain ⟨cs', hc, ht⟩ := hi i (by omega)
        obtain ⟨_, hcl, hat⟩ := World.cells?_some hc
        obtain ⟨x, rfl, hw⟩ := st_cells hcl ht
        refine ⟨x, fun _ => ⟨fun j u hj => ?_, hw⟩⟩
        have hj4 : j < 4 := by
          apply Nat.lt_of_not_le
          intro hge
          rw [List.getElem?_eq_none (by rw [stC_len]; exact hge)] at hj
          cases hj
        rw [hat j hj4]
        exact hj
      · exact ⟨⟨0, 0, 0, 0⟩, fun h => absurd h hil⟩
    have e : ((List.range len).map fun i => Classical.choose (hex i)).length = len := by simp
    refine ⟨(List.range len).map fun i => Classical.choose (hex i), some a', cap, by rw [e], ⟨some a', cap, rfl, fun k hk => ⟨a', rfl, ?_⟩⟩, fun x hx => ?_, by rw [e]; exact hl⟩
    · have hk' : k < len := by simpa using hk
      rw [List.getElem_map, List.getElem_range]
      exact (Classical.choose_spec (hex k) hk').1
    · obtain ⟨k, hk, rfl⟩ := List.mem_map.1 hx
      exact (Classical.choose_spec (hex k) (by simpa using hk)).2
/-- the document's example -/
def My.ex : My.St := ⟨4, 0, 4, ⟨#[]⟩, ⟨#[97, 98, 99, 100]⟩⟩
theorem My.ex_good : My.good My.ex := ⟨by decide +kernel, by decide +kernel⟩
theorem My.ex_1 : My.load My.ex (My.first My.ex) 536936448 4 = (1684234849, 0) := by decide +kernel
theorem My.ex_2 : My.load My.ex (My.first My.ex) 536936451 1 = (100, 0) := by decide +kernel
theorem My.ex_3 : My.load My.ex (My.first My.ex) 536936449 4 = (0, 8) := by decide +kernel
theorem load_lit (l : My.Loc) (a n V E : Int) (w : World) (hm : MemAt w l My.ex (My.first My.ex)) (ha : a ≤ 9223372036854775807) (h : My.load My.ex (My.first My.ex) a n = (V, E)) :
    Calls Try.prog 15 #[.pointer (some ⟨l.p, 0, none⟩), .int .i64 a, .int .i64 n] w fun e w' => e = .returned (.tuple #[.int .i64 V, .int .i64 E]) ∧ Below w.heap.size w w' := by
  have h2 := load_any l My.ex (My.first My.ex) a n w hm My.ex_good ha
  rw [h] at h2
  exact h2
set_option maxHeartbeats 8000000 in
set_option maxRecDepth 100000 in
theorem lives_any (w : World) : Calls Try.prog 7 #[] w fun e w' => e = .returned (.bool true) ∧ Below w.heap.size w w' := by
  have C0 : Hid (∀ w : World, Calls Try.prog 8 #[.agg #[.int .i64 4, .int .i64 0, .int .i64 4], .string ⟨#[]⟩, .string ⟨#[97, 98, 99, 100]⟩] w fun e w' => ∃ l : My.Loc, e = .returned (.tuple #[.pointer (some ⟨l.p, 0, none⟩), .int .i64 0]) ∧ (MemAt w' l My.ex (My.first My.ex) ∧ (∀ b, l.own b → w.heap.size ≤ b) ∧ Below w.heap.size w w')) := Lib.hid fun w => new_ok My.ex w (Lib.hid My.ex_good)
  have C1 : Hid (∀ (l : My.Loc) (w : World), MemAt w l My.ex (My.first My.ex) → Calls Try.prog 15 #[.pointer (some ⟨l.p, 0, none⟩), .int .i64 536936448, .int .i64 4] w fun e w' => e = .returned (.tuple #[.int .i64 1684234849, .int .i64 0]) ∧ Below w.heap.size w w') := Lib.hid fun l w h => load_lit l _ _ _ _ w h (by decide) My.ex_1
  have C2 : Hid (∀ (l : My.Loc) (w : World), MemAt w l My.ex (My.first My.ex) → Calls Try.prog 15 #[.pointer (some ⟨l.p, 0, none⟩), .int .i64 536936451, .int .i64 1] w fun e w' => e = .returned (.tuple #[.int .i64 100, .int .i64 0]) ∧ Below w.heap.size w w') := Lib.hid fun l w h => load_lit l _ _ _ _ w h (by decide) My.ex_2
  have C3 : Hid (∀ (l : My.Loc) (w : World), MemAt w l My.ex (My.first My.ex) → Calls Try.prog 15 #[.pointer (some ⟨l.p, 0, none⟩), .int .i64 536936449, .int .i64 4] w fun e w' => e = .returned (.tuple #[.int .i64 0, .int .i64 8]) ∧ Below w.heap.size w w') := Lib.hid fun l w h => load_lit l _ _ _ _ w h (by decide) My.ex_3
  go_enter Try.func7, Try.ntmps7
  go_wp2_with (first
    | (go_at_call 8; refine (C0.out _).mono ?_; rintro e w1 ⟨l, rfl, hm1, -, hb1⟩; have HM := Lib.hid hm1; have HB := Lib.hid hb1; clear hm1 hb1)
    | (go_at_call 15; first | ((with_reducible refine (C1.out _ _ HM.out).mono ?_); rintro e w2 ⟨rfl, hb2⟩; replace HM := Lib.hid (HM.out.kept hb2); replace HB := Lib.hid (HB.out.trans (hb2.mono HB.out.size)); clear hb2) | ((with_reducible refine (C2.out _ _ HM.out).mono ?_); rintro e w2 ⟨rfl, hb2⟩; replace HM := Lib.hid (HM.out.kept hb2); replace HB := Lib.hid (HB.out.trans (hb2.mono HB.out.size)); clear hb2) | ((with_reducible refine (C3.out _ _ HM.out).mono ?_); rintro e w2 ⟨rfl, hb2⟩; replace HM := Lib.hid (HM.out.kept hb2); replace HB := Lib.hid (HB.out.trans (hb2.mono HB.out.size)); clear hb2)))
  go_ret
  exact ⟨rfl, HB.out⟩
end Go.Proofs.Ytchljdcjlkfbfaa
