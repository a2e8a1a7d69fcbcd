/-
What package decode's read and Decode return.
-/
import Derived.Test.YthciobjklhkkcaaGreatP09b
import Derived.Test.YthciobjklhkkcaaGreatP09a
import Derived.Test.YthciobjklhkkcaaGreatP08d
import Derived.Test.YthciobjklhkkcaaGreatP08a
namespace Go.Proofs.YthciobjklhkkcaaGreat
open Go.ChangeShapes Go.WideShapes Go.ChangeAt Go.RowKit
set_option linter.unusedVariables false

theorem find_bd (x : Nat) : 0 ≤ De.find x ∧ De.find x ≤ 25 := by
 have h : ∀ l : List (Int × Nat × Nat), (∀ r ∈ l, 0 ≤ r.1 ∧ r.1 ≤ 25) → 0 ≤ De.findIn x l ∧ De.findIn x l ≤ 25 := by
  intro l
  induction l with
  | nil => intro _; exact ⟨Int.le_refl 0, (by decide : (0 : Int) ≤ 25)⟩
  | cons r l ih =>
   intro h
   rw [De.findIn]
   split
   ·exact h r (by simp)
   ·exact ih fun q hq => h q (by simp [hq])
 exact h De.rows (by decide)
theorem read_any (op : Int) (x : Nat) (w : World) (hx : x < 4294967296) (h0 : 0 ≤ op) (h1 : op ≤ 25) :
  Calls Tryz.prog 109 #[.int .i64 op, .int .u32 (x : Int)] w fun e w' => e = .returned (insV (De.read op x)) ∧ Below w.heap.size w w' := by
 rcases (by omega : op = 0 ∨ op = 1 ∨ op = 2 ∨ op = 3 ∨ op = 4 ∨ op = 5 ∨ op = 6 ∨ op = 7 ∨ op = 8 ∨ op = 9 ∨ op = 10 ∨ op = 11 ∨ op = 12 ∨ op = 13 ∨ op = 14 ∨ op = 15 ∨ op = 16 ∨ op = 17 ∨ op = 18 ∨ op = 19 ∨ op = 20 ∨ op = 21 ∨ op = 22 ∨ op = 23 ∨ op = 24 ∨ op = 25) with rfl | rfl | rfl | rfl | rfl | rfl | rfl | rfl | rfl | rfl | rfl | rfl | rfl | rfl | rfl | rfl | rfl | rfl | rfl | rfl | rfl | rfl | rfl | rfl | rfl | rfl
 ·exact read0 x w hx
 ·exact read1 x w hx
 ·exact read2 x w hx
 ·exact read3 x w hx
 ·exact read4 x w hx
 ·exact read5 x w hx
 ·exact read6 x w hx
 ·exact read7 x w hx
 ·exact read8 x w hx
 ·exact read9 x w hx
 ·exact read10 x w hx
 ·exact read11 x w hx
 ·exact read12 x w hx
 ·exact read13 x w hx
 ·exact read14 x w hx
 ·exact read15 x w hx
 ·exact read16 x w hx
 ·exact read17 x w hx
 ·exact read18 x w hx
 ·exact read19 x w hx
 ·exact read20 x w hx
 ·exact read21 x w hx
 ·exact read22 x w hx
 ·exact read23 x w hx
 ·by_cases hw : 65536 ≤ x
  ·have e : De.read 24 x = ⟨24, 0, 0, 0, 0, De.signed (De.b24w x) 25, 0, true⟩ := by
    show De.readB 24 x = _
    unfold De.readB; rw [if_pos hw]; rfl
   rw [e]; exact read24w x w hx hw
  ·have e : De.read 24 x = ⟨24, 0, 0, 0, 0, De.signed (De.b24n x) 12, 0, false⟩ := by
    show De.readB 24 x = _
    unfold De.readB; rw [if_neg hw]; rfl
   rw [e]; exact read24n x w hx (by omega)
 ·by_cases hw : 65536 ≤ x
  ·have e : De.read 25 x = ⟨25, 0, 0, 0, 0, De.signed (De.b25w x) 21, (De.pt x 22 4 : Int), true⟩ := by
    show De.readB 25 x = _
    unfold De.readB; rw [if_pos hw, if_pos hw]; rfl
   rw [e]; exact read25w x w hx hw
  ·have e : De.read 25 x = ⟨25, 0, 0, 0, 0, De.signed (De.b25n x) 9, (De.pt x 8 4 : Int), false⟩ := by
    show De.readB 25 x = _
    unfold De.readB; rw [if_neg hw, if_neg hw]; rfl
   rw [e]; exact read25n x w hx (by omega)
end Go.Proofs.YthciobjklhkkcaaGreat
