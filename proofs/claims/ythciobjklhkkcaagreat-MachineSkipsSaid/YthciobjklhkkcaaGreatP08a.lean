/-
What package decode's find returns.
-/
import Derived.LoopTactic
import Derived.LoopN
import Derived.Deep.LoopGhost
import Derived.Test.YthciobjklhkkcaaGreatP07b
namespace Go.Proofs.YthciobjklhkkcaaGreat
open Go.ChangeShapes Go.WideShapes Go.ChangeAt Go.RowKit
set_option maxHeartbeats 8000000
set_option maxRecDepth 100000
set_option linter.unusedVariables false

def Left (x j : Nat) : Prop := De.findIn x (De.rows.drop j) = De.find x
theorem Left.start (x : Nat) : Left x 0 := rfl
theorem Left.step {x j m b : Nat} {op : Int} (h : Left x j) (hr : De.rows.drop j = (op, m, b) :: De.rows.drop (j + 1)) (hh : De.hit x m b = false) : Left x (j + 1) := by
 unfold Left at *
 rw [← h, hr, De.findIn]
 rw [if_neg (by simp [hh])]
theorem Left.found {x j m b : Nat} {op : Int} (h : Left x j) (hr : De.rows.drop j = (op, m, b) :: De.rows.drop (j + 1)) (hh : De.hit x m b = true) : De.find x = op := by
 unfold Left at *
 rw [← h, hr, De.findIn]
 rw [if_pos (by simp [hh])]
theorem Left.none {x : Nat} (h : Left x 27) : De.find x = 0 := h.symm
def table : Array Value := #[.int .i64 1, .int .u32 4294967295, .int .u32 48896, .int .i64 2, .int .u32 4294967040, .int .u32 48640, .int .i64 3, .int .u32 4226842624, .int .u32 4064280576, .int .i64 4, .int .u32 4226842624, .int .u32 4072669184, .int .i64 5, .int .u32 4294934576, .int .u32 3931045888, .int .i64 6, .int .u32 4294934576, .int .u32 3931045904, .int .i64 7, .int .u32 4294934576, .int .u32 3931045920, .int .i64 8, .int .u32 4294934576, .int .u32 3931045936, .int .i64 9, .int .u32 4294963440, .int .u32 3933143040, .int .i64 10, .int .u32 4293980400, .int .u32 3925868544, .int .i64 11, .int .u32 4293980400, .int .u32 3927965696, .int .i64 12, .int .u32 4293980400, .int .u32 3930062848, .int .i64 13, .int .u32 4293980400, .int .u32 3934257152, .int .i64 14, .int .u32 4293980400, .int .u32 3942645760, .int .i64 15, .int .u32 4293980400, .int .u32 3953131520, .int .i64 16, .int .u32 4293980400, .int .u32 4211142656, .int .i64 17, .int .u32 4293918960, .int .u32 4221566976, .int .i64 18, .int .u32 4293951520, .int .u32 4083154944, .int .i64 19, .int .u32 4294967232, .int .u32 26624, .int .i64 20, .int .u32 4294967232, .int .u32 24576, .int .i64 21, .int .u32 4294967232, .int .u32 30720, .int .i64 22, .int .u32 4294967232, .int .u32 28672, .int .i64 23, .int .u32 4294967232, .int .u32 17024, .int .i64 24, .int .u32 4294965248, .int .u32 57344, .int .i64 24, .int .u32 4160802816, .int .u32 4026568704, .int .i64 25, .int .u32 4294963200, .int .u32 53248, .int .i64 25, .int .u32 4160802816, .int .u32 4026564608]
theorem under_tab : Tryz.prog.underlying 202 = some (.array 27 201) := by kernel_rfl
theorem run_tab (D : Array Value) (j : Nat) (hj : j < 27) (w : World) : (Instr.index 202 (.agg D) (.int .i64 (j : Int))).run Tryz.prog w = .ok (.agg (D.extract (j * 3) (j * 3 + 3))) w := by
 have ht : (Tryz.prog.types[201]'(of_decide_eq_true (by kernel_rfl))).size = 3 := by kernel_rfl
 simp [Instr.index, run_underlying under_tab, asIntOf, go_sem]
 intro h; omega
theorem hit_is (x : Nat) (m b : Nat) (hx : x < 4294967296) (hm : m < 4294967296) : (bits .and .u32 (x : Int) (m : Int) == (b : Int)) = De.hit x m b := by
 rw [De.and_u32 x m hx hm]
 unfold De.hit
 rw [Bool.eq_iff_iff, beq_iff_eq, beq_iff_eq]
 exact Int.ofNat_inj
theorem find_any (x : Nat) (w : World) (hx : x < 4294967296) :
  Calls Tryz.prog 110 #[.int .u32 (x : Int)] w fun e w' => e = .returned (.int .i64 (De.find x)) ∧ Below w.heap.size w w' := by
 have HX := Lib.hid hx
 obtain ⟨X, hX⟩ : ∃ X : Int, (x : Int) = X := ⟨_, rfl⟩
 rw [hX]
 have HE := Lib.hid hX
 clear hX hx
 go_enter Tryz.func110, Tryz.ntmps110
 go_wp2
 generalize hA : Value.agg (Array.setIfInBounds _ 80 _) = A
 obtain ⟨D, hD, rfl⟩ : ∃ D, D = table ∧ A = .agg D := ⟨table, rfl, by rw [← hA]; rfl⟩
 have HD := Lib.hid hD
 clear hA hD
 go_loopw [33] (fun k wr => Below w.heap.size w wr ∧ ∃ j : Int, 0 ≤ j ∧ j ≤ 27 ∧ k = .int .i64 j ∧ Left x j.toNat) (fun k _ => 27 - (intOf k).toNat)
 case atStart => exact ⟨Below.refl _ _, 0, by omega, by omega, rfl, Left.start x⟩
 case round =>
  obtain ⟨hbr, j, hj0, hj, rfl, hL⟩ := hrel
  have HL := Lib.hid hL
  have HB := Lib.hid hbr
  clear hL hbr
  rcases (by omega : j = 0 ∨ j = 1 ∨ j = 2 ∨ j = 3 ∨ j = 4 ∨ j = 5 ∨ j = 6 ∨ j = 7 ∨ j = 8 ∨ j = 9 ∨ j = 10 ∨ j = 11 ∨ j = 12 ∨ j = 13 ∨ j = 14 ∨ j = 15 ∨ j = 16 ∨ j = 17 ∨ j = 18 ∨ j = 19 ∨ j = 20 ∨ j = 21 ∨ j = 22 ∨ j = 23 ∨ j = 24 ∨ j = 25 ∨ j = 26 ∨ j = 27) with rfl | rfl | rfl | rfl | rfl | rfl | rfl | rfl | rfl | rfl | rfl | rfl | rfl | rfl | rfl | rfl | rfl | rfl | rfl | rfl | rfl | rfl | rfl | rfl | rfl | rfl | rfl | rfl
  ·have hr : ∀ w', (Instr.index 202 (.agg D) (.int .i64 0)).run Tryz.prog w' = .ok (.agg #[.int .i64 1, .int .u32 4294967295, .int .u32 48896]) w' := fun w' => by rw [HD.out]; exact run_tab table 0 (by decide) w'
   cases hh : De.hit x 4294967295 48896
   ·have q : (bits BinOp.and IntKind.u32 X 4294967295 == 48896) = false := by rw [← HE.out]; exact (hit_is x 4294967295 48896 HX.out (by decide)).trans hh
    have HH := Lib.hid hh
    clear hh
    go_wp2
    exact ⟨⟨HB.out.alloc HB.out.size _, 1, by omega, by omega, rfl, HL.out.step rfl HH.out⟩, by simp [intOf]⟩
   ·have q : (bits BinOp.and IntKind.u32 X 4294967295 == 48896) = true := by rw [← HE.out]; exact (hit_is x 4294967295 48896 HX.out (by decide)).trans hh
    have HH := Lib.hid hh
    clear hh
    go_wp2
    go_ret
    exact ⟨ret_int (HL.out.found rfl HH.out).symm, HB.out.alloc HB.out.size _⟩
  ·have hr : ∀ w', (Instr.index 202 (.agg D) (.int .i64 1)).run Tryz.prog w' = .ok (.agg #[.int .i64 2, .int .u32 4294967040, .int .u32 48640]) w' := fun w' => by rw [HD.out]; exact run_tab table 1 (by decide) w'
   cases hh : De.hit x 4294967040 48640
   ·have q : (bits BinOp.and IntKind.u32 X 4294967040 == 48640) = false := by rw [← HE.out]; exact (hit_is x 4294967040 48640 HX.out (by decide)).trans hh
    have HH := Lib.hid hh
    clear hh
    go_wp2
    exact ⟨⟨HB.out.alloc HB.out.size _, 2, by omega, by omega, rfl, HL.out.step rfl HH.out⟩, by simp [intOf]⟩
   ·have q : (bits BinOp.and IntKind.u32 X 4294967040 == 48640) = true := by rw [← HE.out]; exact (hit_is x 4294967040 48640 HX.out (by decide)).trans hh
    have HH := Lib.hid hh
    clear hh
    go_wp2
    go_ret
    exact ⟨ret_int (HL.out.found rfl HH.out).symm, HB.out.alloc HB.out.size _⟩
  ·have hr : ∀ w', (Instr.index 202 (.agg D) (.int .i64 2)).run Tryz.prog w' = .ok (.agg #[.int .i64 3, .int .u32 4226842624, .int .u32 4064280576]) w' := fun w' => by rw [HD.out]; exact run_tab table 2 (by decide) w'
   cases hh : De.hit x 4226842624 4064280576
   ·have q : (bits BinOp.and IntKind.u32 X 4226842624 == 4064280576) = false := by rw [← HE.out]; exact (hit_is x 4226842624 4064280576 HX.out (by decide)).trans hh
    have HH := Lib.hid hh
    clear hh
    go_wp2
    exact ⟨⟨HB.out.alloc HB.out.size _, 3, by omega, by omega, rfl, HL.out.step rfl HH.out⟩, by simp [intOf]⟩
   ·have q : (bits BinOp.and IntKind.u32 X 4226842624 == 4064280576) = true := by rw [← HE.out]; exact (hit_is x 4226842624 4064280576 HX.out (by decide)).trans hh
    have HH := Lib.hid hh
    clear hh
    go_wp2
    go_ret
    exact ⟨ret_int (HL.out.found rfl HH.out).symm, HB.out.alloc HB.out.size _⟩
  ·have hr : ∀ w', (Instr.index 202 (.agg D) (.int .i64 3)).run Tryz.prog w' = .ok (.agg #[.int .i64 4, .int .u32 4226842624, .int .u32 4072669184]) w' := fun w' => by rw [HD.out]; exact run_tab table 3 (by decide) w'
   cases hh : De.hit x 4226842624 4072669184
   ·have q : (bits BinOp.and IntKind.u32 X 4226842624 == 4072669184) = false := by rw [← HE.out]; exact (hit_is x 4226842624 4072669184 HX.out (by decide)).trans hh
    have HH := Lib.hid hh
    clear hh
    go_wp2
    exact ⟨⟨HB.out.alloc HB.out.size _, 4, by omega, by omega, rfl, HL.out.step rfl HH.out⟩, by simp [intOf]⟩
   ·have q : (bits BinOp.and IntKind.u32 X 4226842624 == 4072669184) = true := by rw [← HE.out]; exact (hit_is x 4226842624 4072669184 HX.out (by decide)).trans hh
    have HH := Lib.hid hh
    clear hh
    go_wp2
    go_ret
    exact ⟨ret_int (HL.out.found rfl HH.out).symm, HB.out.alloc HB.out.size _⟩
  ·have hr : ∀ w', (Instr.index 202 (.agg D) (.int .i64 4)).run Tryz.prog w' = .ok (.agg #[.int .i64 5, .int .u32 4294934576, .int .u32 3931045888]) w' := fun w' => by rw [HD.out]; exact run_tab table 4 (by decide) w'
   cases hh : De.hit x 4294934576 3931045888
   ·have q : (bits BinOp.and IntKind.u32 X 4294934576 == 3931045888) = false := by rw [← HE.out]; exact (hit_is x 4294934576 3931045888 HX.out (by decide)).trans hh
    have HH := Lib.hid hh
    clear hh
    go_wp2
    exact ⟨⟨HB.out.alloc HB.out.size _, 5, by omega, by omega, rfl, HL.out.step rfl HH.out⟩, by simp [intOf]⟩
   ·have q : (bits BinOp.and IntKind.u32 X 4294934576 == 3931045888) = true := by rw [← HE.out]; exact (hit_is x 4294934576 3931045888 HX.out (by decide)).trans hh
    have HH := Lib.hid hh
    clear hh
    go_wp2
    go_ret
    exact ⟨ret_int (HL.out.found rfl HH.out).symm, HB.out.alloc HB.out.size _⟩
  ·have hr : ∀ w', (Instr.index 202 (.agg D) (.int .i64 5)).run Tryz.prog w' = .ok (.agg #[.int .i64 6, .int .u32 4294934576, .int .u32 3931045904]) w' := fun w' => by rw [HD.out]; exact run_tab table 5 (by decide) w'
   cases hh : De.hit x 4294934576 3931045904
   ·have q : (bits BinOp.and IntKind.u32 X 4294934576 == 3931045904) = false := by rw [← HE.out]; exact (hit_is x 4294934576 3931045904 HX.out (by decide)).trans hh
    have HH := Lib.hid hh
    clear hh
    go_wp2
    exact ⟨⟨HB.out.alloc HB.out.size _, 6, by omega, by omega, rfl, HL.out.step rfl HH.out⟩, by simp [intOf]⟩
   ·have q : (bits BinOp.and IntKind.u32 X 4294934576 == 3931045904) = true := by rw [← HE.out]; exact (hit_is x 4294934576 3931045904 HX.out (by decide)).trans hh
    have HH := Lib.hid hh
    clear hh
    go_wp2
    go_ret
    exact ⟨ret_int (HL.out.found rfl HH.out).symm, HB.out.alloc HB.out.size _⟩
  ·have hr : ∀ w', (Instr.index 202 (.agg D) (.int .i64 6)).run Tryz.prog w' = .ok (.agg #[.int .i64 7, .int .u32 4294934576, .int .u32 3931045920]) w' := fun w' => by rw [HD.out]; exact run_tab table 6 (by decide) w'
   cases hh : De.hit x 4294934576 3931045920
   ·have q : (bits BinOp.and IntKind.u32 X 4294934576 == 3931045920) = false := by rw [← HE.out]; exact (hit_is x 4294934576 3931045920 HX.out (by decide)).trans hh
    have HH := Lib.hid hh
    clear hh
    go_wp2
    exact ⟨⟨HB.out.alloc HB.out.size _, 7, by omega, by omega, rfl, HL.out.step rfl HH.out⟩, by simp [intOf]⟩
   ·have q : (bits BinOp.and IntKind.u32 X 4294934576 == 3931045920) = true := by rw [← HE.out]; exact (hit_is x 4294934576 3931045920 HX.out (by decide)).trans hh
    have HH := Lib.hid hh
    clear hh
    go_wp2
    go_ret
    exact ⟨ret_int (HL.out.found rfl HH.out).symm, HB.out.alloc HB.out.size _⟩
  ·have hr : ∀ w', (Instr.index 202 (.agg D) (.int .i64 7)).run Tryz.prog w' = .ok (.agg #[.int .i64 8, .int .u32 4294934576, .int .u32 3931045936]) w' := fun w' => by rw [HD.out]; exact run_tab table 7 (by decide) w'
   cases hh : De.hit x 4294934576 3931045936
   ·have q : (bits BinOp.and IntKind.u32 X 4294934576 == 3931045936) = false := by rw [← HE.out]; exact (hit_is x 4294934576 3931045936 HX.out (by decide)).trans hh
    have HH := Lib.hid hh
    clear hh
    go_wp2
    exact ⟨⟨HB.out.alloc HB.out.size _, 8, by omega, by omega, rfl, HL.out.step rfl HH.out⟩, by simp [intOf]⟩
   ·have q : (bits BinOp.and IntKind.u32 X 4294934576 == 3931045936) = true := by rw [← HE.out]; exact (hit_is x 4294934576 3931045936 HX.out (by decide)).trans hh
    have HH := Lib.hid hh
    clear hh
    go_wp2
    go_ret
    exact ⟨ret_int (HL.out.found rfl HH.out).symm, HB.out.alloc HB.out.size _⟩
  ·have hr : ∀ w', (Instr.index 202 (.agg D) (.int .i64 8)).run Tryz.prog w' = .ok (.agg #[.int .i64 9, .int .u32 4294963440, .int .u32 3933143040]) w' := fun w' => by rw [HD.out]; exact run_tab table 8 (by decide) w'
   cases hh : De.hit x 4294963440 3933143040
   ·have q : (bits BinOp.and IntKind.u32 X 4294963440 == 3933143040) = false := by rw [← HE.out]; exact (hit_is x 4294963440 3933143040 HX.out (by decide)).trans hh
    have HH := Lib.hid hh
    clear hh
    go_wp2
    exact ⟨⟨HB.out.alloc HB.out.size _, 9, by omega, by omega, rfl, HL.out.step rfl HH.out⟩, by simp [intOf]⟩
   ·have q : (bits BinOp.and IntKind.u32 X 4294963440 == 3933143040) = true := by rw [← HE.out]; exact (hit_is x 4294963440 3933143040 HX.out (by decide)).trans hh
    have HH := Lib.hid hh
    clear hh
    go_wp2
    go_ret
    exact ⟨ret_int (HL.out.found rfl HH.out).symm, HB.out.alloc HB.out.size _⟩
  ·have hr : ∀ w', (Instr.index 202 (.agg D) (.int .i64 9)).run Tryz.prog w' = .ok (.agg #[.int .i64 10, .int .u32 4293980400, .int .u32 3925868544]) w' := fun w' => by rw [HD.out]; exact run_tab table 9 (by decide) w'
   cases hh : De.hit x 4293980400 3925868544
   ·have q : (bits BinOp.and IntKind.u32 X 4293980400 == 3925868544) = false := by rw [← HE.out]; exact (hit_is x 4293980400 3925868544 HX.out (by decide)).trans hh
    have HH := Lib.hid hh
    clear hh
    go_wp2
    exact ⟨⟨HB.out.alloc HB.out.size _, 10, by omega, by omega, rfl, HL.out.step rfl HH.out⟩, by simp [intOf]⟩
   ·have q : (bits BinOp.and IntKind.u32 X 4293980400 == 3925868544) = true := by rw [← HE.out]; exact (hit_is x 4293980400 3925868544 HX.out (by decide)).trans hh
    have HH := Lib.hid hh
    clear hh
    go_wp2
    go_ret
    exact ⟨ret_int (HL.out.found rfl HH.out).symm, HB.out.alloc HB.out.size _⟩
  ·have hr : ∀ w', (Instr.index 202 (.agg D) (.int .i64 10)).run Tryz.prog w' = .ok (.agg #[.int .i64 11, .int .u32 4293980400, .int .u32 3927965696]) w' := fun w' => by rw [HD.out]; exact run_tab table 10 (by decide) w'
   cases hh : De.hit x 4293980400 3927965696
   ·have q : (bits BinOp.and IntKind.u32 X 4293980400 == 3927965696) = false := by rw [← HE.out]; exact (hit_is x 4293980400 3927965696 HX.out (by decide)).trans hh
    have HH := Lib.hid hh
    clear hh
    go_wp2
    exact ⟨⟨HB.out.alloc HB.out.size _, 11, by omega, by omega, rfl, HL.out.step rfl HH.out⟩, by simp [intOf]⟩
   ·have q : (bits BinOp.and IntKind.u32 X 4293980400 == 3927965696) = true := by rw [← HE.out]; exact (hit_is x 4293980400 3927965696 HX.out (by decide)).trans hh
    have HH := Lib.hid hh
    clear hh
    go_wp2
    go_ret
    exact ⟨ret_int (HL.out.found rfl HH.out).symm, HB.out.alloc HB.out.size _⟩
  ·have hr : ∀ w', (Instr.index 202 (.agg D) (.int .i64 11)).run Tryz.prog w' = .ok (.agg #[.int .i64 12, .int .u32 4293980400, .int .u32 3930062848]) w' := fun w' => by rw [HD.out]; exact run_tab table 11 (by decide) w'
   cases hh : De.hit x 4293980400 3930062848
   ·have q : (bits BinOp.and IntKind.u32 X 4293980400 == 3930062848) = false := by rw [← HE.out]; exact (hit_is x 4293980400 3930062848 HX.out (by decide)).trans hh
    have HH := Lib.hid hh
    clear hh
    go_wp2
    exact ⟨⟨HB.out.alloc HB.out.size _, 12, by omega, by omega, rfl, HL.out.step rfl HH.out⟩, by simp [intOf]⟩
   ·have q : (bits BinOp.and IntKind.u32 X 4293980400 == 3930062848) = true := by rw [← HE.out]; exact (hit_is x 4293980400 3930062848 HX.out (by decide)).trans hh
    have HH := Lib.hid hh
    clear hh
    go_wp2
    go_ret
    exact ⟨ret_int (HL.out.found rfl HH.out).symm, HB.out.alloc HB.out.size _⟩
  ·have hr : ∀ w', (Instr.index 202 (.agg D) (.int .i64 12)).run Tryz.prog w' = .ok (.agg #[.int .i64 13, .int .u32 4293980400, .int .u32 3934257152]) w' := fun w' => by rw [HD.out]; exact run_tab table 12 (by decide) w'
   cases hh : De.hit x 4293980400 3934257152
   ·have q : (bits BinOp.and IntKind.u32 X 4293980400 == 3934257152) = false := by rw [← HE.out]; exact (hit_is x 4293980400 3934257152 HX.out (by decide)).trans hh
    have HH := Lib.hid hh
    clear hh
    go_wp2
    exact ⟨⟨HB.out.alloc HB.out.size _, 13, by omega, by omega, rfl, HL.out.step rfl HH.out⟩, by simp [intOf]⟩
   ·have q : (bits BinOp.and IntKind.u32 X 4293980400 == 3934257152) = true := by rw [← HE.out]; exact (hit_is x 4293980400 3934257152 HX.out (by decide)).trans hh
    have HH := Lib.hid hh
    clear hh
    go_wp2
    go_ret
    exact ⟨ret_int (HL.out.found rfl HH.out).symm, HB.out.alloc HB.out.size _⟩
  ·have hr : ∀ w', (Instr.index 202 (.agg D) (.int .i64 13)).run Tryz.prog w' = .ok (.agg #[.int .i64 14, .int .u32 4293980400, .int .u32 3942645760]) w' := fun w' => by rw [HD.out]; exact run_tab table 13 (by decide) w'
   cases hh : De.hit x 4293980400 3942645760
   ·have q : (bits BinOp.and IntKind.u32 X 4293980400 == 3942645760) = false := by rw [← HE.out]; exact (hit_is x 4293980400 3942645760 HX.out (by decide)).trans hh
    have HH := Lib.hid hh
    clear hh
    go_wp2
    exact ⟨⟨HB.out.alloc HB.out.size _, 14, by omega, by omega, rfl, HL.out.step rfl HH.out⟩, by simp [intOf]⟩
   ·have q : (bits BinOp.and IntKind.u32 X 4293980400 == 3942645760) = true := by rw [← HE.out]; exact (hit_is x 4293980400 3942645760 HX.out (by decide)).trans hh
    have HH := Lib.hid hh
    clear hh
    go_wp2
    go_ret
    exact ⟨ret_int (HL.out.found rfl HH.out).symm, HB.out.alloc HB.out.size _⟩
  ·have hr : ∀ w', (Instr.index 202 (.agg D) (.int .i64 14)).run Tryz.prog w' = .ok (.agg #[.int .i64 15, .int .u32 4293980400, .int .u32 3953131520]) w' := fun w' => by rw [HD.out]; exact run_tab table 14 (by decide) w'
   cases hh : De.hit x 4293980400 3953131520
   ·have q : (bits BinOp.and IntKind.u32 X 4293980400 == 3953131520) = false := by rw [← HE.out]; exact (hit_is x 4293980400 3953131520 HX.out (by decide)).trans hh
    have HH := Lib.hid hh
    clear hh
    go_wp2
    exact ⟨⟨HB.out.alloc HB.out.size _, 15, by omega, by omega, rfl, HL.out.step rfl HH.out⟩, by simp [intOf]⟩
   ·have q : (bits BinOp.and IntKind.u32 X 4293980400 == 3953131520) = true := by rw [← HE.out]; exact (hit_is x 4293980400 3953131520 HX.out (by decide)).trans hh
    have HH := Lib.hid hh
    clear hh
    go_wp2
    go_ret
    exact ⟨ret_int (HL.out.found rfl HH.out).symm, HB.out.alloc HB.out.size _⟩
  ·have hr : ∀ w', (Instr.index 202 (.agg D) (.int .i64 15)).run Tryz.prog w' = .ok (.agg #[.int .i64 16, .int .u32 4293980400, .int .u32 4211142656]) w' := fun w' => by rw [HD.out]; exact run_tab table 15 (by decide) w'
   cases hh : De.hit x 4293980400 4211142656
   ·have q : (bits BinOp.and IntKind.u32 X 4293980400 == 4211142656) = false := by rw [← HE.out]; exact (hit_is x 4293980400 4211142656 HX.out (by decide)).trans hh
    have HH := Lib.hid hh
    clear hh
    go_wp2
    exact ⟨⟨HB.out.alloc HB.out.size _, 16, by omega, by omega, rfl, HL.out.step rfl HH.out⟩, by simp [intOf]⟩
   ·have q : (bits BinOp.and IntKind.u32 X 4293980400 == 4211142656) = true := by rw [← HE.out]; exact (hit_is x 4293980400 4211142656 HX.out (by decide)).trans hh
    have HH := Lib.hid hh
    clear hh
    go_wp2
    go_ret
    exact ⟨ret_int (HL.out.found rfl HH.out).symm, HB.out.alloc HB.out.size _⟩
  ·have hr : ∀ w', (Instr.index 202 (.agg D) (.int .i64 16)).run Tryz.prog w' = .ok (.agg #[.int .i64 17, .int .u32 4293918960, .int .u32 4221566976]) w' := fun w' => by rw [HD.out]; exact run_tab table 16 (by decide) w'
   cases hh : De.hit x 4293918960 4221566976
   ·have q : (bits BinOp.and IntKind.u32 X 4293918960 == 4221566976) = false := by rw [← HE.out]; exact (hit_is x 4293918960 4221566976 HX.out (by decide)).trans hh
    have HH := Lib.hid hh
    clear hh
    go_wp2
    exact ⟨⟨HB.out.alloc HB.out.size _, 17, by omega, by omega, rfl, HL.out.step rfl HH.out⟩, by simp [intOf]⟩
   ·have q : (bits BinOp.and IntKind.u32 X 4293918960 == 4221566976) = true := by rw [← HE.out]; exact (hit_is x 4293918960 4221566976 HX.out (by decide)).trans hh
    have HH := Lib.hid hh
    clear hh
    go_wp2
    go_ret
    exact ⟨ret_int (HL.out.found rfl HH.out).symm, HB.out.alloc HB.out.size _⟩
  ·have hr : ∀ w', (Instr.index 202 (.agg D) (.int .i64 17)).run Tryz.prog w' = .ok (.agg #[.int .i64 18, .int .u32 4293951520, .int .u32 4083154944]) w' := fun w' => by rw [HD.out]; exact run_tab table 17 (by decide) w'
   cases hh : De.hit x 4293951520 4083154944
   ·have q : (bits BinOp.and IntKind.u32 X 4293951520 == 4083154944) = false := by rw [← HE.out]; exact (hit_is x 4293951520 4083154944 HX.out (by decide)).trans hh
    have HH := Lib.hid hh
    clear hh
    go_wp2
    exact ⟨⟨HB.out.alloc HB.out.size _, 18, by omega, by omega, rfl, HL.out.step rfl HH.out⟩, by simp [intOf]⟩
   ·have q : (bits BinOp.and IntKind.u32 X 4293951520 == 4083154944) = true := by rw [← HE.out]; exact (hit_is x 4293951520 4083154944 HX.out (by decide)).trans hh
    have HH := Lib.hid hh
    clear hh
    go_wp2
    go_ret
    exact ⟨ret_int (HL.out.found rfl HH.out).symm, HB.out.alloc HB.out.size _⟩
  ·have hr : ∀ w', (Instr.index 202 (.agg D) (.int .i64 18)).run Tryz.prog w' = .ok (.agg #[.int .i64 19, .int .u32 4294967232, .int .u32 26624]) w' := fun w' => by rw [HD.out]; exact run_tab table 18 (by decide) w'
   cases hh : De.hit x 4294967232 26624
   ·have q : (bits BinOp.and IntKind.u32 X 4294967232 == 26624) = false := by rw [← HE.out]; exact (hit_is x 4294967232 26624 HX.out (by decide)).trans hh
    have HH := Lib.hid hh
    clear hh
    go_wp2
    exact ⟨⟨HB.out.alloc HB.out.size _, 19, by omega, by omega, rfl, HL.out.step rfl HH.out⟩, by simp [intOf]⟩
   ·have q : (bits BinOp.and IntKind.u32 X 4294967232 == 26624) = true := by rw [← HE.out]; exact (hit_is x 4294967232 26624 HX.out (by decide)).trans hh
    have HH := Lib.hid hh
    clear hh
    go_wp2
    go_ret
    exact ⟨ret_int (HL.out.found rfl HH.out).symm, HB.out.alloc HB.out.size _⟩
  ·have hr : ∀ w', (Instr.index 202 (.agg D) (.int .i64 19)).run Tryz.prog w' = .ok (.agg #[.int .i64 20, .int .u32 4294967232, .int .u32 24576]) w' := fun w' => by rw [HD.out]; exact run_tab table 19 (by decide) w'
   cases hh : De.hit x 4294967232 24576
   ·have q : (bits BinOp.and IntKind.u32 X 4294967232 == 24576) = false := by rw [← HE.out]; exact (hit_is x 4294967232 24576 HX.out (by decide)).trans hh
    have HH := Lib.hid hh
    clear hh
    go_wp2
    exact ⟨⟨HB.out.alloc HB.out.size _, 20, by omega, by omega, rfl, HL.out.step rfl HH.out⟩, by simp [intOf]⟩
   ·have q : (bits BinOp.and IntKind.u32 X 4294967232 == 24576) = true := by rw [← HE.out]; exact (hit_is x 4294967232 24576 HX.out (by decide)).trans hh
    have HH := Lib.hid hh
    clear hh
    go_wp2
    go_ret
    exact ⟨ret_int (HL.out.found rfl HH.out).symm, HB.out.alloc HB.out.size _⟩
  ·have hr : ∀ w', (Instr.index 202 (.agg D) (.int .i64 20)).run Tryz.prog w' = .ok (.agg #[.int .i64 21, .int .u32 4294967232, .int .u32 30720]) w' := fun w' => by rw [HD.out]; exact run_tab table 20 (by decide) w'
   cases hh : De.hit x 4294967232 30720
   ·have q : (bits BinOp.and IntKind.u32 X 4294967232 == 30720) = false := by rw [← HE.out]; exact (hit_is x 4294967232 30720 HX.out (by decide)).trans hh
    have HH := Lib.hid hh
    clear hh
    go_wp2
    exact ⟨⟨HB.out.alloc HB.out.size _, 21, by omega, by omega, rfl, HL.out.step rfl HH.out⟩, by simp [intOf]⟩
   ·have q : (bits BinOp.and IntKind.u32 X 4294967232 == 30720) = true := by rw [← HE.out]; exact (hit_is x 4294967232 30720 HX.out (by decide)).trans hh
    have HH := Lib.hid hh
    clear hh
    go_wp2
    go_ret
    exact ⟨ret_int (HL.out.found rfl HH.out).symm, HB.out.alloc HB.out.size _⟩
  ·have hr : ∀ w', (Instr.index 202 (.agg D) (.int .i64 21)).run Tryz.prog w' = .ok (.agg #[.int .i64 22, .int .u32 4294967232, .int .u32 28672]) w' := fun w' => by rw [HD.out]; exact run_tab table 21 (by decide) w'
   cases hh : De.hit x 4294967232 28672
   ·have q : (bits BinOp.and IntKind.u32 X 4294967232 == 28672) = false := by rw [← HE.out]; exact (hit_is x 4294967232 28672 HX.out (by decide)).trans hh
    have HH := Lib.hid hh
    clear hh
    go_wp2
    exact ⟨⟨HB.out.alloc HB.out.size _, 22, by omega, by omega, rfl, HL.out.step rfl HH.out⟩, by simp [intOf]⟩
   ·have q : (bits BinOp.and IntKind.u32 X 4294967232 == 28672) = true := by rw [← HE.out]; exact (hit_is x 4294967232 28672 HX.out (by decide)).trans hh
    have HH := Lib.hid hh
    clear hh
    go_wp2
    go_ret
    exact ⟨ret_int (HL.out.found rfl HH.out).symm, HB.out.alloc HB.out.size _⟩
  ·have hr : ∀ w', (Instr.index 202 (.agg D) (.int .i64 22)).run Tryz.prog w' = .ok (.agg #[.int .i64 23, .int .u32 4294967232, .int .u32 17024]) w' := fun w' => by rw [HD.out]; exact run_tab table 22 (by decide) w'
   cases hh : De.hit x 4294967232 17024
   ·have q : (bits BinOp.and IntKind.u32 X 4294967232 == 17024) = false := by rw [← HE.out]; exact (hit_is x 4294967232 17024 HX.out (by decide)).trans hh
    have HH := Lib.hid hh
    clear hh
    go_wp2
    exact ⟨⟨HB.out.alloc HB.out.size _, 23, by omega, by omega, rfl, HL.out.step rfl HH.out⟩, by simp [intOf]⟩
   ·have q : (bits BinOp.and IntKind.u32 X 4294967232 == 17024) = true := by rw [← HE.out]; exact (hit_is x 4294967232 17024 HX.out (by decide)).trans hh
    have HH := Lib.hid hh
    clear hh
    go_wp2
    go_ret
    exact ⟨ret_int (HL.out.found rfl HH.out).symm, HB.out.alloc HB.out.size _⟩
  ·have hr : ∀ w', (Instr.index 202 (.agg D) (.int .i64 23)).run Tryz.prog w' = .ok (.agg #[.int .i64 24, .int .u32 4294965248, .int .u32 57344]) w' := fun w' => by rw [HD.out]; exact run_tab table 23 (by decide) w'
   cases hh : De.hit x 4294965248 57344
   ·have q : (bits BinOp.and IntKind.u32 X 4294965248 == 57344) = false := by rw [← HE.out]; exact (hit_is x 4294965248 57344 HX.out (by decide)).trans hh
    have HH := Lib.hid hh
    clear hh
    go_wp2
    exact ⟨⟨HB.out.alloc HB.out.size _, 24, by omega, by omega, rfl, HL.out.step rfl HH.out⟩, by simp [intOf]⟩
   ·have q : (bits BinOp.and IntKind.u32 X 4294965248 == 57344) = true := by rw [← HE.out]; exact (hit_is x 4294965248 57344 HX.out (by decide)).trans hh
    have HH := Lib.hid hh
    clear hh
    go_wp2
    go_ret
    exact ⟨ret_int (HL.out.found rfl HH.out).symm, HB.out.alloc HB.out.size _⟩
  ·have hr : ∀ w', (Instr.index 202 (.agg D) (.int .i64 24)).run Tryz.prog w' = .ok (.agg #[.int .i64 24, .int .u32 4160802816, .int .u32 4026568704]) w' := fun w' => by rw [HD.out]; exact run_tab table 24 (by decide) w'
   cases hh : De.hit x 4160802816 4026568704
   ·have q : (bits BinOp.and IntKind.u32 X 4160802816 == 4026568704) = false := by rw [← HE.out]; exact (hit_is x 4160802816 4026568704 HX.out (by decide)).trans hh
    have HH := Lib.hid hh
    clear hh
    go_wp2
    exact ⟨⟨HB.out.alloc HB.out.size _, 25, by omega, by omega, rfl, HL.out.step rfl HH.out⟩, by simp [intOf]⟩
   ·have q : (bits BinOp.and IntKind.u32 X 4160802816 == 4026568704) = true := by rw [← HE.out]; exact (hit_is x 4160802816 4026568704 HX.out (by decide)).trans hh
    have HH := Lib.hid hh
    clear hh
    go_wp2
    go_ret
    exact ⟨ret_int (HL.out.found rfl HH.out).symm, HB.out.alloc HB.out.size _⟩
  ·have hr : ∀ w', (Instr.index 202 (.agg D) (.int .i64 25)).run Tryz.prog w' = .ok (.agg #[.int .i64 25, .int .u32 4294963200, .int .u32 53248]) w' := fun w' => by rw [HD.out]; exact run_tab table 25 (by decide) w'
   cases hh : De.hit x 4294963200 53248
   ·have q : (bits BinOp.and IntKind.u32 X 4294963200 == 53248) = false := by rw [← HE.out]; exact (hit_is x 4294963200 53248 HX.out (by decide)).trans hh
    have HH := Lib.hid hh
    clear hh
    go_wp2
    exact ⟨⟨HB.out.alloc HB.out.size _, 26, by omega, by omega, rfl, HL.out.step rfl HH.out⟩, by simp [intOf]⟩
   ·have q : (bits BinOp.and IntKind.u32 X 4294963200 == 53248) = true := by rw [← HE.out]; exact (hit_is x 4294963200 53248 HX.out (by decide)).trans hh
    have HH := Lib.hid hh
    clear hh
    go_wp2
    go_ret
    exact ⟨ret_int (HL.out.found rfl HH.out).symm, HB.out.alloc HB.out.size _⟩
  ·have hr : ∀ w', (Instr.index 202 (.agg D) (.int .i64 26)).run Tryz.prog w' = .ok (.agg #[.int .i64 25, .int .u32 4160802816, .int .u32 4026564608]) w' := fun w' => by rw [HD.out]; exact run_tab table 26 (by decide) w'
   cases hh : De.hit x 4160802816 4026564608
   ·have q : (bits BinOp.and IntKind.u32 X 4160802816 == 4026564608) = false := by rw [← HE.out]; exact (hit_is x 4160802816 4026564608 HX.out (by decide)).trans hh
    have HH := Lib.hid hh
    clear hh
    go_wp2
    exact ⟨⟨HB.out.alloc HB.out.size _, 27, by omega, by omega, rfl, HL.out.step rfl HH.out⟩, by simp [intOf]⟩
   ·have q : (bits BinOp.and IntKind.u32 X 4160802816 == 4026564608) = true := by rw [← HE.out]; exact (hit_is x 4160802816 4026564608 HX.out (by decide)).trans hh
    have HH := Lib.hid hh
    clear hh
    go_wp2
    go_ret
    exact ⟨ret_int (HL.out.found rfl HH.out).symm, HB.out.alloc HB.out.size _⟩
  ·go_wp2
   go_ret
   exact ⟨ret_int HL.out.none.symm, HB.out⟩
end Go.Proofs.YthciobjklhkkcaaGreat
