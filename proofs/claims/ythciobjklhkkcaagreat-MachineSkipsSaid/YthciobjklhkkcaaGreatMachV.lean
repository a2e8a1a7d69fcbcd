/-
 Stage 9's laws: a fault among a law's arguments; what a run leaves, as plain mathematics.
-/
import Derived.Lib.SmallJoins
import Derived.Test.YthciobjklhkkcaaGreatMachU
namespace Go.Proofs.YthciobjklhkkcaaGreat
open Go.Joins Go.ChangeShapes Go.WideShapes Go.ChangeAt Go.RowKit Go.Deep
set_option maxHeartbeats 8000000
set_option maxRecDepth 100000
set_option linter.unusedVariables false
set_option linter.unusedSimpArgs false

theorem open_fault {H : Type} {enc : TypeId × Value → H} {w : World} {base : Nat} {spare : Nat → Bool} {held : Bool} {r : Reach} {b0 : Nat} {v : Value} {d : DataW H} {p : List MemPlace}
  (hv : Value.okWide Tryz.prog w r b0 23 v) (h : DataW.Trod enc Tryz.prog w base spare held 23 v d p) :
  ∃ f : Mc.F, v = .agg #[.int .i64 f.kind, .int .i64 f.step, .int .i64 f.reg, .int .i64 f.bit] := by
 obtain ⟨cs, rfl, hsz⟩ := okWide_struct Tryz.underlying23 hv
 have hC : Tryz.prog.cellsOf 23 = 4 := by kernel_rfl
 obtain ⟨l⟩ := cs
 match l, hsz.trans hC with
 | [c0, c1, c2, c3], _ =>
  obtain ⟨fuel, hf⟩ := h
  obtain ⟨xs, n, _, hx, _, hlen, hg⟩ := DataW.trod_struct Tryz.underlying23 hf
  have k1 : Tryz.prog.cellsOf 3 = 1 := by kernel_rfl
  match xs, hlen with
  | [y0, y1, y2, y3], _ =>
   have g0 := hg 0 _ rfl
   have g1 := hg 1 _ rfl
   have g2 := hg 2 _ rfl
   have g3 := hg 3 _ rfl
   simp [Value.cells, k1] at g0 g1 g2 g3
   obtain ⟨n0, e0, _, f0⟩ := DataW.trod_int Tryz.underlying3 g0
   obtain ⟨n1, e1, _, f1⟩ := DataW.trod_int Tryz.underlying3 g1
   obtain ⟨n2, e2, _, f2⟩ := DataW.trod_int Tryz.underlying3 g2
   obtain ⟨n3, e3, _, f3⟩ := DataW.trod_int Tryz.underlying3 g3
   simp at e0 e1 e2 e3
   exact ⟨⟨n0, n1, n2, n3⟩, by rw [e0, e1, e2, e3]⟩
/-- a run without a fault, or with one that may be, within bounds -/
theorem Mc.run_in {img inp : ByteArray} {f : Mc.F} {b : Nat} (hn : Mc.newE img inp = 0) (hf : Mc.okF f = true) (hb : b ≤ 67108864) :
  Mc.run img inp f (b : Int) = (Mc.resOf (Mc.sOf img inp) (Im.parse img).1.h (Mc.ran img inp f b).1 (Mc.ran img inp f b).2.1, 0) := by
 unfold Mc.run
 rw [if_pos hn, if_pos ⟨hf, by omega, by omega⟩]
 rfl
theorem Mc.run_new {img inp : ByteArray} {f : Mc.F} {b : Int} (hn : ¬ Mc.newE img inp = 0) : Mc.run img inp f b = (zeroR, Mc.newE img inp) := by
 unfold Mc.run; rw [if_neg hn]
theorem Mc.okF_none : Mc.okF Mc.none = true := rfl
theorem Mc.ran_more {img inp : ByteArray} {b j : Nat} (h : (Mc.ran img inp Mc.none b).1.done = true) : Mc.ran img inp Mc.none (b + j) = Mc.ran img inp Mc.none b := Mc.go_more _ _ _ _ _ _ h
theorem Mc.ran_late {img inp : ByteArray} {b : Nat} {f : Mc.F} (h : (Mc.ran img inp Mc.none b).1.done = true) (hs : ((Mc.ran img inp Mc.none b).2.1.length : Int) ≤ f.step) : Mc.ran img inp f b = Mc.ran img inp Mc.none b := Mc.go_late _ _ _ _ _ (by show (0 : Int) + _ ≤ _; rw [Int.zero_add]; exact hs) h
theorem Mc.ran_full {img inp : ByteArray} {b : Nat} {f : Mc.F} (h : (Mc.ran img inp f b).1.done = false) : (Mc.ran img inp f b).2.1.length = b := Mc.go_full _ _ _ _ _ h
theorem run_c (img inp : ByteArray) (f : Mc.F) (bud : Int) (R : Array Value) (E : Int) (w : World) (h : Mc.run img inp f bud = (R, E)) :
  Calls Tryz.prog 9 #[.string img, .string inp, .agg #[.int .i64 f.kind, .int .i64 f.step, .int .i64 f.reg, .int .i64 f.bit], .int .i64 bud] w fun e w' => e = .returned (.tuple #[.agg R, .int .i64 E]) ∧ Below w.heap.size w w' := by
 have := callsIn_wide.1 (run_any 3 (Nat.le_refl _) img inp f bud w)
 rw [h] at this
 exact this
theorem most_any (b : Int) (w : World) : Calls Tryz.prog 16 #[.int .i64 b] w fun e w' => e = .returned (.bool (decide (0 ≤ b) && decide (b ≤ 5000))) ∧ w = w' := by
 by_cases h0 : 0 ≤ b
 ·by_cases h1 : b ≤ 5000
  ·rw [decide_eq_true h0, decide_eq_true h1]
   go_enter Tryz.func16, Tryz.ntmps16
   go_wp2
   go_ret
   exact ⟨rfl, rfl⟩
  ·rw [decide_eq_true h0, decide_eq_false h1]
   have h2 : 5000 < b := by omega
   go_enter Tryz.func16, Tryz.ntmps16
   go_wp2
   go_ret
   exact ⟨rfl, rfl⟩
 ·rw [decide_eq_false h0]
  have h2 : b < 0 := by omega
  go_enter Tryz.func16, Tryz.ntmps16
  go_wp2
  go_ret
  exact ⟨rfl, rfl⟩
end Go.Proofs.YthciobjklhkkcaaGreat
