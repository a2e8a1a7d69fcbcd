/-
 Stage 9's example is told.
-/
import Derived.Test.YthciobjklhkkcaaGreatMachS
import Derived.Test.YthciobjklhkkcaaGreatP07b
namespace Go.Proofs.YthciobjklhkkcaaGreat
open Go.ChangeShapes Go.WideShapes Go.ChangeAt Go.RowKit Go.Shelf
set_option maxHeartbeats 8000000
set_option maxRecDepth 10000
set_option linter.unusedVariables false
set_option linter.unusedSimpArgs false

/-- the example's image -/
def Mc.exT : ByteArray := (Im.build ⟨64, 64, 0, 0, 4, 0⟩ ⟨#[0, 190]⟩).1
theorem Mc.ex_build : Im.build ⟨64, 64, 0, 0, 4, 0⟩ ⟨#[0, 190]⟩ = (Mc.exT, 0) := by
 have h : (Im.build ⟨64, 64, 0, 0, 4, 0⟩ ⟨#[0, 190]⟩).2 = 0 := by kernel_rfl
 exact Prod.ext rfl h
theorem Mc.ex_new : Mc.newE Mc.exT ⟨#[]⟩ = 0 := by kernel_rfl
theorem Mc.ex_run : Mc.run Mc.exT ⟨#[]⟩ Mc.none 9 = (resC true 1 1 1 0 0 ⟨#[]⟩ ⟨#[0, 0, 0, 0]⟩ ⟨#[0, 0, 0, 0]⟩, 0) := by kernel_rfl
theorem lives_any (w : World) : Calls Tryz.prog 8 #[] w fun e w' => e = .returned (.bool true) ∧ Below w.heap.size w w' := by
 have C8 : Hid (∀ W : World, Calls Tryz.prog 23 #[.agg #[.int .i64 64, .int .i64 64, .int .i64 0, .int .i64 0, .int .i64 4, .int .i64 0], .string ⟨#[0, 190]⟩] W fun e w' => e = .returned (.tuple #[.string Mc.exT, .int .i64 0]) ∧ Below W.heap.size W w') := Lib.hid fun W => by
  have h := rbuild_any 64 64 0 0 4 0 ⟨#[0, 190]⟩ W (by decide) (Lib.hid (by decide))
  rw [Mc.ex_build] at h
  exact h
 have CR : Hid (∀ W : World, Calls Tryz.prog 9 #[.string Mc.exT, .string ⟨#[]⟩, .agg #[.int .i64 0, .int .i64 0, .int .i64 0, .int .i64 0], .int .i64 9] W fun e w' => e = .returned (.tuple #[.agg (resC true 1 1 1 0 0 ⟨#[]⟩ ⟨#[0, 0, 0, 0]⟩ ⟨#[0, 0, 0, 0]⟩), .int .i64 0]) ∧ Below W.heap.size W w') := Lib.hid fun W => by
  have h := callsIn_wide.1 (run_any 3 (Nat.le_refl _) Mc.exT ⟨#[]⟩ Mc.none 9 W)
  rw [Mc.ex_run] at h
  exact h
 go_enter Tryz.func8, Tryz.ntmps8
 go_wp2_with (first | (go_at_call 23; refine (C8.out _).mono ?_; rintro e w1 ⟨rfl, hb1⟩; have HB1 := Lib.hid hb1; clear hb1) | (go_at_call 9; refine (CR.out _).mono ?_; rintro e w2 ⟨rfl, hb2⟩; have HB2 := Lib.hid (HB1.out.trans (hb2.mono HB1.out.size)); clear hb2))
 go_ret
 exact ⟨rfl, HB2.out.alloc HB2.out.size _⟩
end Go.Proofs.YthciobjklhkkcaaGreat
