/-
  An instruction that lies in eight cells of a block, and what keeps it there.
-/
import Derived.WalkKit
import Derived.ProofKit
import Derived.Below
namespace Go.Proofs.Ytennhpfhgbmnfaa
open Go.ChangeShapes Go.WideShapes Go.ChangeAt Go.RowKit

abbrev InsAt (W : World) (b : Nat) (op rd rn rm ra imm cond : Int) (wide : Bool) : Prop :=
  W.cell? ⟨b, 0, none⟩ = some (.int .i64 op) ∧ W.cell? ⟨b, 1, none⟩ = some (.int .i64 rd) ∧ W.cell? ⟨b, 2, none⟩ = some (.int .i64 rn) ∧ W.cell? ⟨b, 3, none⟩ = some (.int .i64 rm) ∧ W.cell? ⟨b, 4, none⟩ = some (.int .i64 ra) ∧ W.cell? ⟨b, 5, none⟩ = some (.int .i64 imm) ∧ W.cell? ⟨b, 6, none⟩ = some (.int .i64 cond) ∧ W.cell? ⟨b, 7, none⟩ = some (.bool wide)
theorem ins_alloc (w : World) (t : TypeId) (op rd rn rm ra imm cond : Int) (wide : Bool) : InsAt (w.alloc (.cells #[.int .i64 op, .int .i64 rd, .int .i64 rn, .int .i64 rm, .int .i64 ra, .int .i64 imm, .int .i64 cond, .bool wide] t)) w.heap.size op rd rn rm ra imm cond wide := by
  refine ⟨?_, ?_, ?_, ?_, ?_, ?_, ?_, ?_⟩ <;> simp [go_sem]
section
variable {W w' : World} {b : Nat} {op rd rn rm ra imm cond : Int} {wide : Bool}
theorem InsAt.below (h : InsAt W b op rd rn rm ra imm cond wide) (hb : Below W.heap.size W w') (hlt : b < W.heap.size) : InsAt w' b op rd rn rm ra imm cond wide := by
  obtain ⟨h0, h1, h2, h3, h4, h5, h6, h7⟩ := h
  refine ⟨?_, ?_, ?_, ?_, ?_, ?_, ?_, ?_⟩ <;> (rw [hb.cell (by exact hlt)]; assumption)
theorem InsAt.alloc (h : InsAt W b op rd rn rm ra imm cond wide) (hlt : b < W.heap.size) (o : Obj) : InsAt (W.alloc o) b op rd rn rm ra imm cond wide :=
  h.below ((Below.refl _ _).alloc (Nat.le_refl _) o) hlt
end
end Go.Proofs.Ytennhpfhgbmnfaa
