/-
What package thumb's within returns, part 4.
What package thumb's within returns, part 0.
Plain mathematics of OMovt, OBfi and OLdrb: what the program and the document make of bits is the same.
Fields that lie in memory, and what package thumb's put and join return.
-/
import Derived.Test.YthciobjklhkkcaaGreatP02b
import Derived.WalkMore
import Derived.ScopeJumps
import Derived.Laws.BytesArg
import Derived.Deep.QuietTactic
import Derived.BigQuiet
import Derived.Test.YthciobjklhkkcaaGreatP01a
section
namespace Go.Proofs.YthciobjklhkkcaaGreat
open Go.ChangeShapes Go.WideShapes Go.ChangeAt Go.RowKit
set_option maxHeartbeats 4000000
set_option maxRecDepth 100000

theorem within_no11 (lop lrd lrn lrm lra limm lcond : Int) (lwide : Bool) (op rd rn rm ra imm cond : Int) (wide : Bool) (hop hrd hrn hrm hra himm hcond : Int) (hwide : Bool) (w : World) (g0 : lrd ≤ rd) (g1 : rd ≤ hrd) (g2 : lrn ≤ rn) (g3 : rn ≤ hrn) (g4 : lrm ≤ rm) (g5 : rm ≤ hrm) (g6 : lra ≤ ra) (g7 : ra ≤ hra) (g8 : limm ≤ imm) (g9 : imm ≤ himm) (g10 : lcond ≤ cond) (n11 : decide (cond ≤ hcond) = false) :
  Calls Tryz.prog 158 #[.agg #[.int .i64 lop, .int .i64 lrd, .int .i64 lrn, .int .i64 lrm, .int .i64 lra, .int .i64 limm, .int .i64 lcond, .bool lwide], .agg #[.int .i64 op, .int .i64 rd, .int .i64 rn, .int .i64 rm, .int .i64 ra, .int .i64 imm, .int .i64 cond, .bool wide], .agg #[.int .i64 hop, .int .i64 hrd, .int .i64 hrn, .int .i64 hrm, .int .i64 hra, .int .i64 himm, .int .i64 hcond, .bool hwide]] w fun e w' => e = .returned (.bool false) ∧ Below w.heap.size w w' := by
 go_enter Tryz.func158, Tryz.ntmps158
 go_wp2_with (first | go_skip | ((with_reducible refine wpList_take ?_ ?_); exact rfl; intro _ _))
 all_goals (go_ret; exact ⟨rfl, by go_grown⟩)

theorem within_yes (lop lrd lrn lrm lra limm lcond : Int) (lwide : Bool) (op rd rn rm ra imm cond : Int) (wide : Bool) (hop hrd hrn hrm hra himm hcond : Int) (hwide : Bool) (w : World) (g0 : lrd ≤ rd) (g1 : rd ≤ hrd) (g2 : lrn ≤ rn) (g3 : rn ≤ hrn) (g4 : lrm ≤ rm) (g5 : rm ≤ hrm) (g6 : lra ≤ ra) (g7 : ra ≤ hra) (g8 : limm ≤ imm) (g9 : imm ≤ himm) (g10 : lcond ≤ cond) (g11 : cond ≤ hcond) :
  Calls Tryz.prog 158 #[.agg #[.int .i64 lop, .int .i64 lrd, .int .i64 lrn, .int .i64 lrm, .int .i64 lra, .int .i64 limm, .int .i64 lcond, .bool lwide], .agg #[.int .i64 op, .int .i64 rd, .int .i64 rn, .int .i64 rm, .int .i64 ra, .int .i64 imm, .int .i64 cond, .bool wide], .agg #[.int .i64 hop, .int .i64 hrd, .int .i64 hrn, .int .i64 hrm, .int .i64 hra, .int .i64 himm, .int .i64 hcond, .bool hwide]] w fun e w' => e = .returned (.bool (hwide || !wide)) ∧ Below w.heap.size w w' := by
 cases hwide
 all_goals
  go_enter Tryz.func158, Tryz.ntmps158
  go_wp2_with (first | go_skip | ((with_reducible refine wpList_take ?_ ?_); exact rfl; intro _ _))
  all_goals (go_ret; exact ⟨ret_bool (by simp), by go_grown⟩)

end Go.Proofs.YthciobjklhkkcaaGreat
end
section
namespace Go.Proofs.YthciobjklhkkcaaGreat
open Go.ChangeShapes Go.WideShapes Go.ChangeAt Go.RowKit
set_option maxHeartbeats 4000000
set_option maxRecDepth 100000

theorem within_no0 (lop lrd lrn lrm lra limm lcond : Int) (lwide : Bool) (op rd rn rm ra imm cond : Int) (wide : Bool) (hop hrd hrn hrm hra himm hcond : Int) (hwide : Bool) (w : World) (n0 : decide (lrd ≤ rd) = false) :
  Calls Tryz.prog 158 #[.agg #[.int .i64 lop, .int .i64 lrd, .int .i64 lrn, .int .i64 lrm, .int .i64 lra, .int .i64 limm, .int .i64 lcond, .bool lwide], .agg #[.int .i64 op, .int .i64 rd, .int .i64 rn, .int .i64 rm, .int .i64 ra, .int .i64 imm, .int .i64 cond, .bool wide], .agg #[.int .i64 hop, .int .i64 hrd, .int .i64 hrn, .int .i64 hrm, .int .i64 hra, .int .i64 himm, .int .i64 hcond, .bool hwide]] w fun e w' => e = .returned (.bool false) ∧ Below w.heap.size w w' := by
 go_enter Tryz.func158, Tryz.ntmps158
 go_wp2_with (first | go_skip | ((with_reducible refine wpList_take ?_ ?_); exact rfl; intro _ _))
 all_goals (go_ret; exact ⟨rfl, by go_grown⟩)

theorem within_no1 (lop lrd lrn lrm lra limm lcond : Int) (lwide : Bool) (op rd rn rm ra imm cond : Int) (wide : Bool) (hop hrd hrn hrm hra himm hcond : Int) (hwide : Bool) (w : World) (g0 : lrd ≤ rd) (n1 : decide (rd ≤ hrd) = false) :
  Calls Tryz.prog 158 #[.agg #[.int .i64 lop, .int .i64 lrd, .int .i64 lrn, .int .i64 lrm, .int .i64 lra, .int .i64 limm, .int .i64 lcond, .bool lwide], .agg #[.int .i64 op, .int .i64 rd, .int .i64 rn, .int .i64 rm, .int .i64 ra, .int .i64 imm, .int .i64 cond, .bool wide], .agg #[.int .i64 hop, .int .i64 hrd, .int .i64 hrn, .int .i64 hrm, .int .i64 hra, .int .i64 himm, .int .i64 hcond, .bool hwide]] w fun e w' => e = .returned (.bool false) ∧ Below w.heap.size w w' := by
 go_enter Tryz.func158, Tryz.ntmps158
 go_wp2_with (first | go_skip | ((with_reducible refine wpList_take ?_ ?_); exact rfl; intro _ _))
 all_goals (go_ret; exact ⟨rfl, by go_grown⟩)

end Go.Proofs.YthciobjklhkkcaaGreat
end
section
namespace Go.Proofs.YthciobjklhkkcaaGreat.Cs
open Go.RowKit

theorem and_mask (a : Int) (k : Nat) (p : Int) (hk : k ≤ 32) (hp : p = 2 ^ k - 1) : Wd.and a p = Wd.wrap a % 2 ^ k := by
 have hb := Wd.wrap_bd a
 unfold Wd.and
 have h2 : (2 : Nat) ^ k ≤ 2 ^ 32 := Nat.pow_le_pow_right (by decide) hk
 have h3 : 1 ≤ (2 : Nat) ^ k := Nat.two_pow_pos k
 have e : (Wd.wrap p).toNat = 2 ^ k - 1 := by
  subst hp
  rw [Wd.pow_cast]
  generalize (2 : Nat) ^ k = q at *
  unfold Wd.wrap; omega
 rw [e, Nat.and_two_pow_sub_one_eq_mod, Wd.pow_cast]
 obtain ⟨A, hA⟩ := Int.eq_ofNat_of_zero_le hb.1
 rw [hA]
 push_cast
 rfl
theorem ldrb (l : Int) : Wd.wrap (Wd.and l 255) = Wd.wrap l % 256 := by
 rw [and_mask l 8 255 (by decide) (by decide)]
 have hb := Wd.wrap_bd l
 have e : (2 : Int) ^ 8 = 256 := by decide
 rw [e]
 generalize Wd.wrap l = x at *
 unfold Wd.wrap; omega
theorem strb (v : Int) : Wd.and v 255 = Wd.wrap v % 256 := by
 rw [and_mask v 8 255 (by decide) (by decide)]
 have e : (2 : Int) ^ 8 = 256 := by decide
 rw [e]
end Go.Proofs.YthciobjklhkkcaaGreat.Cs
end
section
namespace Go.Proofs.YthciobjklhkkcaaGreat
open Go.ChangeShapes Go.WideShapes Go.ChangeAt Go.RowKit
set_option maxHeartbeats 4000000

def FldsAt (w : World) (b : Nat) (L : List Th.Fld) : Prop :=
 ∀ m f, L[m]? = some f → w.cell? ⟨b, 4 * m, none⟩ = some (.int .i64 f.num) ∧ w.cell? ⟨b, 4 * m + 1, none⟩ = some (.int .i64 (f.cnt : Int)) ∧
  w.cell? ⟨b, 4 * m + 2, none⟩ = some (.int .i64 (f.frm : Int)) ∧ w.cell? ⟨b, 4 * m + 3, none⟩ = some (.int .i64 (f.to : Int))
theorem FldsAt.below {w w' : World} {b : Nat} {L : List Th.Fld} (h : FldsAt w b L) (hb : Below w.heap.size w w') (hlt : b < w.heap.size) : FldsAt w' b L := by
 intro m f hm
 obtain ⟨h0, h1, h2, h3⟩ := h m f hm
 refine ⟨?_, ?_, ?_, ?_⟩ <;> (rw [hb.cell (by exact hlt)]; assumption)
end Go.Proofs.YthciobjklhkkcaaGreat
end
