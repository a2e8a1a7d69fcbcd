/-
  What made of package cpu returns, operation by operation, part 1.
-/
import Derived.Test.YtennhpfhgbmnfaaCpuB
namespace Go.Proofs.Ytennhpfhgbmnfaa
open Go.ChangeShapes Go.WideShapes Go.ChangeAt Go.RowKit
set_option linter.unusedVariables false
set_option linter.unusedSimpArgs false

set_option maxHeartbeats 2000000 in
set_option maxRecDepth 10000 in
theorem made_3 (s : Cs.St) (rd rn rm : Nat) (ra imm cond l : Int) (wide : Bool) (w : World) (hd : rd < 13) (hn : rn < 13) (hm : rm < 13) (hw : ∀ j, 0 ≤ s.r j ∧ s.r j < 4294967296) :
    Calls Try.prog 25 #[.agg (Cs.cells s), .agg #[.int .i64 3, .int .i64 (rd : Int), .int .i64 (rn : Int), .int .i64 (rm : Int), .int .i64 ra, .int .i64 imm, .int .i64 cond, .bool wide], .int .i64 l] w fun e w' => e = .returned (.agg (Cs.cells (Cs.made s ⟨3, rd, rn, rm, ra, imm, cond, wide⟩ l))) ∧ Below w.heap.size w w' := by
  have gd := Cs.cells_get s rd (by omega)
  have gn := Cs.cells_get s rn (by omega)
  have gm := Cs.cells_get s rm (by omega)
  have bd : (rd : Int) < 15 := by omega
  have bn : (rn : Int) < 15 := by omega
  have bm : (rm : Int) < 15 := by omega
  have bd0 : (0 : Int) ≤ (rd : Int) := by omega
  have bn0 : (0 : Int) ≤ (rn : Int) := by omega
  have bm0 : (0 : Int) ≤ (rm : Int) := by omega
  go_enter Try.func25, Try.ntmps25
  go_wp2_with fail
  go_quiet (fail)
  simp only [alloc_drewN]
  have hB : Below w.heap.size w ((((w.drewN nq).alloc (.cells (Cs.cells s) 24)).alloc (.cells #[.int .i64 3, .int .i64 (rd : Int), .int .i64 (rn : Int), .int .i64 (rm : Int), .int .i64 ra, .int .i64 imm, .int .i64 cond, .bool wide] 26)).alloc (.cells Cs.zero 24)) := ((((below_drewC (Below.refl _ _) nq).alloc (Nat.le_refl _) _).alloc (by simp) _).alloc (by simp; omega) _)
  have hS : StateAt ((((w.drewN nq).alloc (.cells (Cs.cells s) 24)).alloc (.cells #[.int .i64 3, .int .i64 (rd : Int), .int .i64 (rn : Int), .int .i64 (rm : Int), .int .i64 ra, .int .i64 imm, .int .i64 cond, .bool wide] 26)).alloc (.cells Cs.zero 24)) w.heap.size s := ((state_alloc' (w.drewN nq) s _ rfl).alloc _).alloc _
  have hR : StateAt ((((w.drewN nq).alloc (.cells (Cs.cells s) 24)).alloc (.cells #[.int .i64 3, .int .i64 (rd : Int), .int .i64 (rn : Int), .int .i64 (rm : Int), .int .i64 ra, .int .i64 imm, .int .i64 cond, .bool wide] 26)).alloc (.cells Cs.zero 24)) (w.heap.size + 1 + 1) Cs.none := state_alloc' _ Cs.none _ (by simp)
  have hI : InsAt ((((w.drewN nq).alloc (.cells (Cs.cells s) 24)).alloc (.cells #[.int .i64 3, .int .i64 (rd : Int), .int .i64 (rn : Int), .int .i64 (rm : Int), .int .i64 ra, .int .i64 imm, .int .i64 cond, .bool wide] 26)).alloc (.cells Cs.zero 24)) (w.heap.size + 1) 3 (rd : Int) (rn : Int) (rm : Int) ra imm cond wide := by
    refine InsAt.alloc ?_ (by simp) _
    have h := ins_alloc ((w.drewN nq).alloc (.cells (Cs.cells s) 24)) 26 3 (rd : Int) (rn : Int) (rm : Int) ra imm cond wide
    simpa using h
  generalize hW : ((((w.drewN nq).alloc (.cells (Cs.cells s) 24)).alloc (.cells #[.int .i64 3, .int .i64 (rd : Int), .int .i64 (rn : Int), .int .i64 (rm : Int), .int .i64 ra, .int .i64 imm, .int .i64 cond, .bool wide] 26)).alloc (.cells Cs.zero 24)) = W at *
  clear hW gd gn gm
  have HB := Lib.hid hB
  clear hB
  obtain ⟨i0, i1, i2, i3, i4, i5, i6, i7⟩ := hI
  have c1 := hS.reg rd (by omega)
  have fz := hS.open
  have hA0 : StateAt W w.heap.size s := hS
  have hA : ∀ x, StateAt (W.setCell ⟨w.heap.size, rd, none⟩ (.int .i64 x)) w.heap.size (Cs.put s rd x) := fun x => hS.set rd _ (Cs.cells_put s rd x (by omega))
  have hR0 : StateAt W (w.heap.size + 1 + 1) Cs.none := hR
  have hR1 : ∀ x, StateAt (W.setCell ⟨w.heap.size, rd, none⟩ (.int .i64 x)) (w.heap.size + 1 + 1) Cs.none := fun x => hR.other _ _ (by show w.heap.size + 1 + 1 ≠ w.heap.size; omega)
  clear hS hR
  go_wp2_with (first | ((with_reducible refine wpList_load_st (hA _) ?_ ?_); exact rfl) | ((with_reducible apply wpList_store_st (hR1 _)); exact rfl))
  try simp only [Exit.inBlock, Exit.then]
  refine bp_state rfl rfl ((hR1 _).setRow _) rfl ⟨rfl, below_setRow (HB.out.setCell (Nat.le_refl _) _) (by omega) _⟩

set_option maxHeartbeats 2000000 in
set_option maxRecDepth 10000 in
theorem made_4 (s : Cs.St) (rd rn rm : Nat) (ra imm cond l : Int) (wide : Bool) (w : World) (hd : rd < 13) (hn : rn < 13) (hm : rm < 13) (hw : ∀ j, 0 ≤ s.r j ∧ s.r j < 4294967296) :
    Calls Try.prog 25 #[.agg (Cs.cells s), .agg #[.int .i64 4, .int .i64 (rd : Int), .int .i64 (rn : Int), .int .i64 (rm : Int), .int .i64 ra, .int .i64 imm, .int .i64 cond, .bool wide], .int .i64 l] w fun e w' => e = .returned (.agg (Cs.cells (Cs.made s ⟨4, rd, rn, rm, ra, imm, cond, wide⟩ l))) ∧ Below w.heap.size w w' := by
  have gd := Cs.cells_get s rd (by omega)
  have gn := Cs.cells_get s rn (by omega)
  have gm := Cs.cells_get s rm (by omega)
  have bd : (rd : Int) < 15 := by omega
  have bn : (rn : Int) < 15 := by omega
  have bm : (rm : Int) < 15 := by omega
  have bd0 : (0 : Int) ≤ (rd : Int) := by omega
  have bn0 : (0 : Int) ≤ (rn : Int) := by omega
  have bm0 : (0 : Int) ≤ (rm : Int) := by omega
  go_enter Try.func25, Try.ntmps25
  go_wp2_with fail
  go_quiet (fail)
  simp only [alloc_drewN]
  have hB : Below w.heap.size w ((((w.drewN nq).alloc (.cells (Cs.cells s) 24)).alloc (.cells #[.int .i64 4, .int .i64 (rd : Int), .int .i64 (rn : Int), .int .i64 (rm : Int), .int .i64 ra, .int .i64 imm, .int .i64 cond, .bool wide] 26)).alloc (.cells Cs.zero 24)) := ((((below_drewC (Below.refl _ _) nq).alloc (Nat.le_refl _) _).alloc (by simp) _).alloc (by simp; omega) _)
  have hS : StateAt ((((w.drewN nq).alloc (.cells (Cs.cells s) 24)).alloc (.cells #[.int .i64 4, .int .i64 (rd : Int), .int .i64 (rn : Int), .int .i64 (rm : Int), .int .i64 ra, .int .i64 imm, .int .i64 cond, .bool wide] 26)).alloc (.cells Cs.zero 24)) w.heap.size s := ((state_alloc' (w.drewN nq) s _ rfl).alloc _).alloc _
  have hR : StateAt ((((w.drewN nq).alloc (.cells (Cs.cells s) 24)).alloc (.cells #[.int .i64 4, .int .i64 (rd : Int), .int .i64 (rn : Int), .int .i64 (rm : Int), .int .i64 ra, .int .i64 imm, .int .i64 cond, .bool wide] 26)).alloc (.cells Cs.zero 24)) (w.heap.size + 1 + 1) Cs.none := state_alloc' _ Cs.none _ (by simp)
  have hI : InsAt ((((w.drewN nq).alloc (.cells (Cs.cells s) 24)).alloc (.cells #[.int .i64 4, .int .i64 (rd : Int), .int .i64 (rn : Int), .int .i64 (rm : Int), .int .i64 ra, .int .i64 imm, .int .i64 cond, .bool wide] 26)).alloc (.cells Cs.zero 24)) (w.heap.size + 1) 4 (rd : Int) (rn : Int) (rm : Int) ra imm cond wide := by
    refine InsAt.alloc ?_ (by simp) _
    have h := ins_alloc ((w.drewN nq).alloc (.cells (Cs.cells s) 24)) 26 4 (rd : Int) (rn : Int) (rm : Int) ra imm cond wide
    simpa using h
  generalize hW : ((((w.drewN nq).alloc (.cells (Cs.cells s) 24)).alloc (.cells #[.int .i64 4, .int .i64 (rd : Int), .int .i64 (rn : Int), .int .i64 (rm : Int), .int .i64 ra, .int .i64 imm, .int .i64 cond, .bool wide] 26)).alloc (.cells Cs.zero 24)) = W at *
  clear hW gd gn gm
  have HB := Lib.hid hB
  clear hB
  obtain ⟨i0, i1, i2, i3, i4, i5, i6, i7⟩ := hI
  have c1 := hS.reg rd (by omega)
  have fz := hS.open
  have hA0 : StateAt W w.heap.size s := hS
  have hA : ∀ x, StateAt (W.setCell ⟨w.heap.size, rd, none⟩ (.int .i64 x)) w.heap.size (Cs.put s rd x) := fun x => hS.set rd _ (Cs.cells_put s rd x (by omega))
  have hR0 : StateAt W (w.heap.size + 1 + 1) Cs.none := hR
  have hR1 : ∀ x, StateAt (W.setCell ⟨w.heap.size, rd, none⟩ (.int .i64 x)) (w.heap.size + 1 + 1) Cs.none := fun x => hR.other _ _ (by show w.heap.size + 1 + 1 ≠ w.heap.size; omega)
  clear hS hR
  go_wp2_with fail
  clear hA hR1
  go_still_tail 10, (by kernel_rfl)
  still_call (still (shl_any _ _ _))
  repeat still_step
  still_call (still (and_any _ _ _))
  repeat still_step
  still_call (still (or_any _ _ _))
  repeat still_step
  try refine wpStill_nil ?_
  change wpList _ _ _ _ _ W.drew
  have hS : StateAt W.drew w.heap.size s := hA0
  have hR : StateAt W.drew (w.heap.size + 1 + 1) Cs.none := hR0
  have HB2 : Hid (Below w.heap.size w W.drew) := Lib.hid HB.out.drew
  clear i0 i1 i2 i3 i4 i5 i6 i7 c1 fz hA0 hR0 HB
  have HB := HB2
  clear HB2
  generalize W.drew = V at *
  have c1 := hS.reg rd (by omega)
  have fz := hS.open
  have hA0 : StateAt V w.heap.size s := hS
  have hA : ∀ x, StateAt (V.setCell ⟨w.heap.size, rd, none⟩ (.int .i64 x)) w.heap.size (Cs.put s rd x) := fun x => hS.set rd _ (Cs.cells_put s rd x (by omega))
  have hR0 : StateAt V (w.heap.size + 1 + 1) Cs.none := hR
  have hR1 : ∀ x, StateAt (V.setCell ⟨w.heap.size, rd, none⟩ (.int .i64 x)) (w.heap.size + 1 + 1) Cs.none := fun x => hR.other _ _ (by show w.heap.size + 1 + 1 ≠ w.heap.size; omega)
  clear hS hR
  go_wp2_with (first | ((with_reducible refine wpList_load_st (hA _) ?_ ?_); exact rfl) | ((with_reducible apply wpList_store_st (hR1 _)); exact rfl))
  try simp only [Exit.inBlock, Exit.then]
  refine bp_state rfl rfl ((hR1 _).setRow _) rfl ⟨rfl, below_setRow (HB.out.setCell (Nat.le_refl _) _) (by omega) _⟩

set_option maxHeartbeats 2000000 in
set_option maxRecDepth 10000 in
theorem made_5 (s : Cs.St) (rd rn rm : Nat) (ra imm cond l : Int) (wide : Bool) (w : World) (hd : rd < 13) (hn : rn < 13) (hm : rm < 13) (hw : ∀ j, 0 ≤ s.r j ∧ s.r j < 4294967296) :
    Calls Try.prog 25 #[.agg (Cs.cells s), .agg #[.int .i64 5, .int .i64 (rd : Int), .int .i64 (rn : Int), .int .i64 (rm : Int), .int .i64 ra, .int .i64 imm, .int .i64 cond, .bool wide], .int .i64 l] w fun e w' => e = .returned (.agg (Cs.cells (Cs.made s ⟨5, rd, rn, rm, ra, imm, cond, wide⟩ l))) ∧ Below w.heap.size w w' := by
  have gd := Cs.cells_get s rd (by omega)
  have gn := Cs.cells_get s rn (by omega)
  have gm := Cs.cells_get s rm (by omega)
  have bd : (rd : Int) < 15 := by omega
  have bn : (rn : Int) < 15 := by omega
  have bm : (rm : Int) < 15 := by omega
  have bd0 : (0 : Int) ≤ (rd : Int) := by omega
  have bn0 : (0 : Int) ≤ (rn : Int) := by omega
  have bm0 : (0 : Int) ≤ (rm : Int) := by omega
  go_enter Try.func25, Try.ntmps25
  go_wp2_with fail
  go_quiet (fail)
  simp only [alloc_drewN]
  have hB : Below w.heap.size w ((((w.drewN nq).alloc (.cells (Cs.cells s) 24)).alloc (.cells #[.int .i64 5, .int .i64 (rd : Int), .int .i64 (rn : Int), .int .i64 (rm : Int), .int .i64 ra, .int .i64 imm, .int .i64 cond, .bool wide] 26)).alloc (.cells Cs.zero 24)) := ((((below_drewC (Below.refl _ _) nq).alloc (Nat.le_refl _) _).alloc (by simp) _).alloc (by simp; omega) _)
  have hS : StateAt ((((w.drewN nq).alloc (.cells (Cs.cells s) 24)).alloc (.cells #[.int .i64 5, .int .i64 (rd : Int), .int .i64 (rn : Int), .int .i64 (rm : Int), .int .i64 ra, .int .i64 imm, .int .i64 cond, .bool wide] 26)).alloc (.cells Cs.zero 24)) w.heap.size s := ((state_alloc' (w.drewN nq) s _ rfl).alloc _).alloc _
  have hR : StateAt ((((w.drewN nq).alloc (.cells (Cs.cells s) 24)).alloc (.cells #[.int .i64 5, .int .i64 (rd : Int), .int .i64 (rn : Int), .int .i64 (rm : Int), .int .i64 ra, .int .i64 imm, .int .i64 cond, .bool wide] 26)).alloc (.cells Cs.zero 24)) (w.heap.size + 1 + 1) Cs.none := state_alloc' _ Cs.none _ (by simp)
  have hI : InsAt ((((w.drewN nq).alloc (.cells (Cs.cells s) 24)).alloc (.cells #[.int .i64 5, .int .i64 (rd : Int), .int .i64 (rn : Int), .int .i64 (rm : Int), .int .i64 ra, .int .i64 imm, .int .i64 cond, .bool wide] 26)).alloc (.cells Cs.zero 24)) (w.heap.size + 1) 5 (rd : Int) (rn : Int) (rm : Int) ra imm cond wide := by
    refine InsAt.alloc ?_ (by simp) _
    have h := ins_alloc ((w.drewN nq).alloc (.cells (Cs.cells s) 24)) 26 5 (rd : Int) (rn : Int) (rm : Int) ra imm cond wide
    simpa using h
  generalize hW : ((((w.drewN nq).alloc (.cells (Cs.cells s) 24)).alloc (.cells #[.int .i64 5, .int .i64 (rd : Int), .int .i64 (rn : Int), .int .i64 (rm : Int), .int .i64 ra, .int .i64 imm, .int .i64 cond, .bool wide] 26)).alloc (.cells Cs.zero 24)) = W at *
  clear hW gd gn gm
  have HB := Lib.hid hB
  clear hB
  obtain ⟨i0, i1, i2, i3, i4, i5, i6, i7⟩ := hI
  have c1 := hS.reg rd (by omega)
  have fz := hS.open
  have hA0 : StateAt W w.heap.size s := hS
  have hA : ∀ x, StateAt (W.setCell ⟨w.heap.size, rd, none⟩ (.int .i64 x)) w.heap.size (Cs.put s rd x) := fun x => hS.set rd _ (Cs.cells_put s rd x (by omega))
  have hR0 : StateAt W (w.heap.size + 1 + 1) Cs.none := hR
  have hR1 : ∀ x, StateAt (W.setCell ⟨w.heap.size, rd, none⟩ (.int .i64 x)) (w.heap.size + 1 + 1) Cs.none := fun x => hR.other _ _ (by show w.heap.size + 1 + 1 ≠ w.heap.size; omega)
  clear hS hR
  go_wp2_with fail
  clear hA hR1
  go_still_tail 10, (by kernel_rfl)
  still_call (still (shifted_any _ _ _ _))
  repeat still_step
  try refine wpStill_nil ?_
  change wpList _ _ _ _ _ W.drew
  have hS : StateAt W.drew w.heap.size s := hA0
  have hR : StateAt W.drew (w.heap.size + 1 + 1) Cs.none := hR0
  have HB2 : Hid (Below w.heap.size w W.drew) := Lib.hid HB.out.drew
  clear i0 i1 i2 i3 i4 i5 i6 i7 c1 fz hA0 hR0 HB
  have HB := HB2
  clear HB2
  generalize W.drew = V at *
  have c1 := hS.reg rd (by omega)
  have fz := hS.open
  have hA0 : StateAt V w.heap.size s := hS
  have hA : ∀ x, StateAt (V.setCell ⟨w.heap.size, rd, none⟩ (.int .i64 x)) w.heap.size (Cs.put s rd x) := fun x => hS.set rd _ (Cs.cells_put s rd x (by omega))
  have hR0 : StateAt V (w.heap.size + 1 + 1) Cs.none := hR
  have hR1 : ∀ x, StateAt (V.setCell ⟨w.heap.size, rd, none⟩ (.int .i64 x)) (w.heap.size + 1 + 1) Cs.none := fun x => hR.other _ _ (by show w.heap.size + 1 + 1 ≠ w.heap.size; omega)
  clear hS hR
  go_wp2_with (first | ((with_reducible refine wpList_load_st (hA _) ?_ ?_); exact rfl) | ((with_reducible apply wpList_store_st (hR1 _)); exact rfl))
  try simp only [Exit.inBlock, Exit.then]
  refine bp_state rfl rfl ((hR1 _).setRow _) rfl ⟨rfl, below_setRow (HB.out.setCell (Nat.le_refl _) _) (by omega) _⟩

set_option maxHeartbeats 2000000 in
set_option maxRecDepth 10000 in
theorem made_6 (s : Cs.St) (rd rn rm : Nat) (ra imm cond l : Int) (wide : Bool) (w : World) (hd : rd < 13) (hn : rn < 13) (hm : rm < 13) (hw : ∀ j, 0 ≤ s.r j ∧ s.r j < 4294967296) :
    Calls Try.prog 25 #[.agg (Cs.cells s), .agg #[.int .i64 6, .int .i64 (rd : Int), .int .i64 (rn : Int), .int .i64 (rm : Int), .int .i64 ra, .int .i64 imm, .int .i64 cond, .bool wide], .int .i64 l] w fun e w' => e = .returned (.agg (Cs.cells (Cs.made s ⟨6, rd, rn, rm, ra, imm, cond, wide⟩ l))) ∧ Below w.heap.size w w' := by
  have gd := Cs.cells_get s rd (by omega)
  have gn := Cs.cells_get s rn (by omega)
  have gm := Cs.cells_get s rm (by omega)
  have bd : (rd : Int) < 15 := by omega
  have bn : (rn : Int) < 15 := by omega
  have bm : (rm : Int) < 15 := by omega
  have bd0 : (0 : Int) ≤ (rd : Int) := by omega
  have bn0 : (0 : Int) ≤ (rn : Int) := by omega
  have bm0 : (0 : Int) ≤ (rm : Int) := by omega
  go_enter Try.func25, Try.ntmps25
  go_wp2_with fail
  go_quiet (fail)
  simp only [alloc_drewN]
  have hB : Below w.heap.size w ((((w.drewN nq).alloc (.cells (Cs.cells s) 24)).alloc (.cells #[.int .i64 6, .int .i64 (rd : Int), .int .i64 (rn : Int), .int .i64 (rm : Int), .int .i64 ra, .int .i64 imm, .int .i64 cond, .bool wide] 26)).alloc (.cells Cs.zero 24)) := ((((below_drewC (Below.refl _ _) nq).alloc (Nat.le_refl _) _).alloc (by simp) _).alloc (by simp; omega) _)
  have hS : StateAt ((((w.drewN nq).alloc (.cells (Cs.cells s) 24)).alloc (.cells #[.int .i64 6, .int .i64 (rd : Int), .int .i64 (rn : Int), .int .i64 (rm : Int), .int .i64 ra, .int .i64 imm, .int .i64 cond, .bool wide] 26)).alloc (.cells Cs.zero 24)) w.heap.size s := ((state_alloc' (w.drewN nq) s _ rfl).alloc _).alloc _
  have hR : StateAt ((((w.drewN nq).alloc (.cells (Cs.cells s) 24)).alloc (.cells #[.int .i64 6, .int .i64 (rd : Int), .int .i64 (rn : Int), .int .i64 (rm : Int), .int .i64 ra, .int .i64 imm, .int .i64 cond, .bool wide] 26)).alloc (.cells Cs.zero 24)) (w.heap.size + 1 + 1) Cs.none := state_alloc' _ Cs.none _ (by simp)
  have hI : InsAt ((((w.drewN nq).alloc (.cells (Cs.cells s) 24)).alloc (.cells #[.int .i64 6, .int .i64 (rd : Int), .int .i64 (rn : Int), .int .i64 (rm : Int), .int .i64 ra, .int .i64 imm, .int .i64 cond, .bool wide] 26)).alloc (.cells Cs.zero 24)) (w.heap.size + 1) 6 (rd : Int) (rn : Int) (rm : Int) ra imm cond wide := by
    refine InsAt.alloc ?_ (by simp) _
    have h := ins_alloc ((w.drewN nq).alloc (.cells (Cs.cells s) 24)) 26 6 (rd : Int) (rn : Int) (rm : Int) ra imm cond wide
    simpa using h
  generalize hW : ((((w.drewN nq).alloc (.cells (Cs.cells s) 24)).alloc (.cells #[.int .i64 6, .int .i64 (rd : Int), .int .i64 (rn : Int), .int .i64 (rm : Int), .int .i64 ra, .int .i64 imm, .int .i64 cond, .bool wide] 26)).alloc (.cells Cs.zero 24)) = W at *
  clear hW gd gn gm
  have HB := Lib.hid hB
  clear hB
  obtain ⟨i0, i1, i2, i3, i4, i5, i6, i7⟩ := hI
  have c1 := hS.reg rd (by omega)
  have fz := hS.open
  have hA0 : StateAt W w.heap.size s := hS
  have hA : ∀ x, StateAt (W.setCell ⟨w.heap.size, rd, none⟩ (.int .i64 x)) w.heap.size (Cs.put s rd x) := fun x => hS.set rd _ (Cs.cells_put s rd x (by omega))
  have hR0 : StateAt W (w.heap.size + 1 + 1) Cs.none := hR
  have hR1 : ∀ x, StateAt (W.setCell ⟨w.heap.size, rd, none⟩ (.int .i64 x)) (w.heap.size + 1 + 1) Cs.none := fun x => hR.other _ _ (by show w.heap.size + 1 + 1 ≠ w.heap.size; omega)
  clear hS hR
  go_wp2_with fail
  clear hA hR1
  go_still_tail 10, (by kernel_rfl)
  still_call (still (shifted_any _ _ _ _))
  repeat still_step
  try refine wpStill_nil ?_
  change wpList _ _ _ _ _ W.drew
  have hS : StateAt W.drew w.heap.size s := hA0
  have hR : StateAt W.drew (w.heap.size + 1 + 1) Cs.none := hR0
  have HB2 : Hid (Below w.heap.size w W.drew) := Lib.hid HB.out.drew
  clear i0 i1 i2 i3 i4 i5 i6 i7 c1 fz hA0 hR0 HB
  have HB := HB2
  clear HB2
  generalize W.drew = V at *
  have c1 := hS.reg rd (by omega)
  have fz := hS.open
  have hA0 : StateAt V w.heap.size s := hS
  have hA : ∀ x, StateAt (V.setCell ⟨w.heap.size, rd, none⟩ (.int .i64 x)) w.heap.size (Cs.put s rd x) := fun x => hS.set rd _ (Cs.cells_put s rd x (by omega))
  have hR0 : StateAt V (w.heap.size + 1 + 1) Cs.none := hR
  have hR1 : ∀ x, StateAt (V.setCell ⟨w.heap.size, rd, none⟩ (.int .i64 x)) (w.heap.size + 1 + 1) Cs.none := fun x => hR.other _ _ (by show w.heap.size + 1 + 1 ≠ w.heap.size; omega)
  clear hS hR
  go_wp2_with (first | ((with_reducible refine wpList_load_st (hA _) ?_ ?_); exact rfl) | ((with_reducible apply wpList_store_st (hR1 _)); exact rfl))
  try simp only [Exit.inBlock, Exit.then]
  refine bp_state rfl rfl ((hR1 _).setRow _) rfl ⟨rfl, below_setRow (HB.out.setCell (Nat.le_refl _) _) (by omega) _⟩

set_option maxHeartbeats 2000000 in
set_option maxRecDepth 10000 in
theorem made_7 (s : Cs.St) (rd rn rm : Nat) (ra imm cond l : Int) (wide : Bool) (w : World) (hd : rd < 13) (hn : rn < 13) (hm : rm < 13) (hw : ∀ j, 0 ≤ s.r j ∧ s.r j < 4294967296) :
    Calls Try.prog 25 #[.agg (Cs.cells s), .agg #[.int .i64 7, .int .i64 (rd : Int), .int .i64 (rn : Int), .int .i64 (rm : Int), .int .i64 ra, .int .i64 imm, .int .i64 cond, .bool wide], .int .i64 l] w fun e w' => e = .returned (.agg (Cs.cells (Cs.made s ⟨7, rd, rn, rm, ra, imm, cond, wide⟩ l))) ∧ Below w.heap.size w w' := by
  have gd := Cs.cells_get s rd (by omega)
  have gn := Cs.cells_get s rn (by omega)
  have gm := Cs.cells_get s rm (by omega)
  have bd : (rd : Int) < 15 := by omega
  have bn : (rn : Int) < 15 := by omega
  have bm : (rm : Int) < 15 := by omega
  have bd0 : (0 : Int) ≤ (rd : Int) := by omega
  have bn0 : (0 : Int) ≤ (rn : Int) := by omega
  have bm0 : (0 : Int) ≤ (rm : Int) := by omega
  go_enter Try.func25, Try.ntmps25
  go_wp2_with fail
  go_quiet (fail)
  simp only [alloc_drewN]
  have hB : Below w.heap.size w ((((w.drewN nq).alloc (.cells (Cs.cells s) 24)).alloc (.cells #[.int .i64 7, .int .i64 (rd : Int), .int .i64 (rn : Int), .int .i64 (rm : Int), .int .i64 ra, .int .i64 imm, .int .i64 cond, .bool wide] 26)).alloc (.cells Cs.zero 24)) := ((((below_drewC (Below.refl _ _) nq).alloc (Nat.le_refl _) _).alloc (by simp) _).alloc (by simp; omega) _)
  have hS : StateAt ((((w.drewN nq).alloc (.cells (Cs.cells s) 24)).alloc (.cells #[.int .i64 7, .int .i64 (rd : Int), .int .i64 (rn : Int), .int .i64 (rm : Int), .int .i64 ra, .int .i64 imm, .int .i64 cond, .bool wide] 26)).alloc (.cells Cs.zero 24)) w.heap.size s := ((state_alloc' (w.drewN nq) s _ rfl).alloc _).alloc _
  have hR : StateAt ((((w.drewN nq).alloc (.cells (Cs.cells s) 24)).alloc (.cells #[.int .i64 7, .int .i64 (rd : Int), .int .i64 (rn : Int), .int .i64 (rm : Int), .int .i64 ra, .int .i64 imm, .int .i64 cond, .bool wide] 26)).alloc (.cells Cs.zero 24)) (w.heap.size + 1 + 1) Cs.none := state_alloc' _ Cs.none _ (by simp)
  have hI : InsAt ((((w.drewN nq).alloc (.cells (Cs.cells s) 24)).alloc (.cells #[.int .i64 7, .int .i64 (rd : Int), .int .i64 (rn : Int), .int .i64 (rm : Int), .int .i64 ra, .int .i64 imm, .int .i64 cond, .bool wide] 26)).alloc (.cells Cs.zero 24)) (w.heap.size + 1) 7 (rd : Int) (rn : Int) (rm : Int) ra imm cond wide := by
    refine InsAt.alloc ?_ (by simp) _
    have h := ins_alloc ((w.drewN nq).alloc (.cells (Cs.cells s) 24)) 26 7 (rd : Int) (rn : Int) (rm : Int) ra imm cond wide
    simpa using h
  generalize hW : ((((w.drewN nq).alloc (.cells (Cs.cells s) 24)).alloc (.cells #[.int .i64 7, .int .i64 (rd : Int), .int .i64 (rn : Int), .int .i64 (rm : Int), .int .i64 ra, .int .i64 imm, .int .i64 cond, .bool wide] 26)).alloc (.cells Cs.zero 24)) = W at *
  clear hW gd gn gm
  have HB := Lib.hid hB
  clear hB
  obtain ⟨i0, i1, i2, i3, i4, i5, i6, i7⟩ := hI
  have c1 := hS.reg rd (by omega)
  have fz := hS.open
  have hA0 : StateAt W w.heap.size s := hS
  have hA : ∀ x, StateAt (W.setCell ⟨w.heap.size, rd, none⟩ (.int .i64 x)) w.heap.size (Cs.put s rd x) := fun x => hS.set rd _ (Cs.cells_put s rd x (by omega))
  have hR0 : StateAt W (w.heap.size + 1 + 1) Cs.none := hR
  have hR1 : ∀ x, StateAt (W.setCell ⟨w.heap.size, rd, none⟩ (.int .i64 x)) (w.heap.size + 1 + 1) Cs.none := fun x => hR.other _ _ (by show w.heap.size + 1 + 1 ≠ w.heap.size; omega)
  clear hS hR
  go_wp2_with fail
  clear hA hR1
  go_still_tail 10, (by kernel_rfl)
  still_call (still (shifted_any _ _ _ _))
  repeat still_step
  try refine wpStill_nil ?_
  change wpList _ _ _ _ _ W.drew
  have hS : StateAt W.drew w.heap.size s := hA0
  have hR : StateAt W.drew (w.heap.size + 1 + 1) Cs.none := hR0
  have HB2 : Hid (Below w.heap.size w W.drew) := Lib.hid HB.out.drew
  clear i0 i1 i2 i3 i4 i5 i6 i7 c1 fz hA0 hR0 HB
  have HB := HB2
  clear HB2
  generalize W.drew = V at *
  have c1 := hS.reg rd (by omega)
  have fz := hS.open
  have hA0 : StateAt V w.heap.size s := hS
  have hA : ∀ x, StateAt (V.setCell ⟨w.heap.size, rd, none⟩ (.int .i64 x)) w.heap.size (Cs.put s rd x) := fun x => hS.set rd _ (Cs.cells_put s rd x (by omega))
  have hR0 : StateAt V (w.heap.size + 1 + 1) Cs.none := hR
  have hR1 : ∀ x, StateAt (V.setCell ⟨w.heap.size, rd, none⟩ (.int .i64 x)) (w.heap.size + 1 + 1) Cs.none := fun x => hR.other _ _ (by show w.heap.size + 1 + 1 ≠ w.heap.size; omega)
  clear hS hR
  go_wp2_with (first | ((with_reducible refine wpList_load_st (hA _) ?_ ?_); exact rfl) | ((with_reducible apply wpList_store_st (hR1 _)); exact rfl))
  try simp only [Exit.inBlock, Exit.then]
  refine bp_state rfl rfl ((hR1 _).setRow _) rfl ⟨rfl, below_setRow (HB.out.setCell (Nat.le_refl _) _) (by omega) _⟩

set_option maxHeartbeats 2000000 in
set_option maxRecDepth 10000 in
theorem made_8 (s : Cs.St) (rd rn rm : Nat) (ra imm cond l : Int) (wide : Bool) (w : World) (hd : rd < 13) (hn : rn < 13) (hm : rm < 13) (hw : ∀ j, 0 ≤ s.r j ∧ s.r j < 4294967296) :
    Calls Try.prog 25 #[.agg (Cs.cells s), .agg #[.int .i64 8, .int .i64 (rd : Int), .int .i64 (rn : Int), .int .i64 (rm : Int), .int .i64 ra, .int .i64 imm, .int .i64 cond, .bool wide], .int .i64 l] w fun e w' => e = .returned (.agg (Cs.cells (Cs.made s ⟨8, rd, rn, rm, ra, imm, cond, wide⟩ l))) ∧ Below w.heap.size w w' := by
  have gd := Cs.cells_get s rd (by omega)
  have gn := Cs.cells_get s rn (by omega)
  have gm := Cs.cells_get s rm (by omega)
  have bd : (rd : Int) < 15 := by omega
  have bn : (rn : Int) < 15 := by omega
  have bm : (rm : Int) < 15 := by omega
  have bd0 : (0 : Int) ≤ (rd : Int) := by omega
  have bn0 : (0 : Int) ≤ (rn : Int) := by omega
  have bm0 : (0 : Int) ≤ (rm : Int) := by omega
  go_enter Try.func25, Try.ntmps25
  go_wp2_with fail
  go_quiet (fail)
  simp only [alloc_drewN]
  have hB : Below w.heap.size w ((((w.drewN nq).alloc (.cells (Cs.cells s) 24)).alloc (.cells #[.int .i64 8, .int .i64 (rd : Int), .int .i64 (rn : Int), .int .i64 (rm : Int), .int .i64 ra, .int .i64 imm, .int .i64 cond, .bool wide] 26)).alloc (.cells Cs.zero 24)) := ((((below_drewC (Below.refl _ _) nq).alloc (Nat.le_refl _) _).alloc (by simp) _).alloc (by simp; omega) _)
  have hS : StateAt ((((w.drewN nq).alloc (.cells (Cs.cells s) 24)).alloc (.cells #[.int .i64 8, .int .i64 (rd : Int), .int .i64 (rn : Int), .int .i64 (rm : Int), .int .i64 ra, .int .i64 imm, .int .i64 cond, .bool wide] 26)).alloc (.cells Cs.zero 24)) w.heap.size s := ((state_alloc' (w.drewN nq) s _ rfl).alloc _).alloc _
  have hR : StateAt ((((w.drewN nq).alloc (.cells (Cs.cells s) 24)).alloc (.cells #[.int .i64 8, .int .i64 (rd : Int), .int .i64 (rn : Int), .int .i64 (rm : Int), .int .i64 ra, .int .i64 imm, .int .i64 cond, .bool wide] 26)).alloc (.cells Cs.zero 24)) (w.heap.size + 1 + 1) Cs.none := state_alloc' _ Cs.none _ (by simp)
  have hI : InsAt ((((w.drewN nq).alloc (.cells (Cs.cells s) 24)).alloc (.cells #[.int .i64 8, .int .i64 (rd : Int), .int .i64 (rn : Int), .int .i64 (rm : Int), .int .i64 ra, .int .i64 imm, .int .i64 cond, .bool wide] 26)).alloc (.cells Cs.zero 24)) (w.heap.size + 1) 8 (rd : Int) (rn : Int) (rm : Int) ra imm cond wide := by
    refine InsAt.alloc ?_ (by simp) _
    have h := ins_alloc ((w.drewN nq).alloc (.cells (Cs.cells s) 24)) 26 8 (rd : Int) (rn : Int) (rm : Int) ra imm cond wide
    simpa using h
  generalize hW : ((((w.drewN nq).alloc (.cells (Cs.cells s) 24)).alloc (.cells #[.int .i64 8, .int .i64 (rd : Int), .int .i64 (rn : Int), .int .i64 (rm : Int), .int .i64 ra, .int .i64 imm, .int .i64 cond, .bool wide] 26)).alloc (.cells Cs.zero 24)) = W at *
  clear hW gd gn gm
  have HB := Lib.hid hB
  clear hB
  obtain ⟨i0, i1, i2, i3, i4, i5, i6, i7⟩ := hI
  have c1 := hS.reg rd (by omega)
  have fz := hS.open
  have hA0 : StateAt W w.heap.size s := hS
  have hA : ∀ x, StateAt (W.setCell ⟨w.heap.size, rd, none⟩ (.int .i64 x)) w.heap.size (Cs.put s rd x) := fun x => hS.set rd _ (Cs.cells_put s rd x (by omega))
  have hR0 : StateAt W (w.heap.size + 1 + 1) Cs.none := hR
  have hR1 : ∀ x, StateAt (W.setCell ⟨w.heap.size, rd, none⟩ (.int .i64 x)) (w.heap.size + 1 + 1) Cs.none := fun x => hR.other _ _ (by show w.heap.size + 1 + 1 ≠ w.heap.size; omega)
  clear hS hR
  go_wp2_with fail
  clear hA hR1
  go_still_tail 10, (by kernel_rfl)
  still_call (still (shifted_any _ _ _ _))
  repeat still_step
  try refine wpStill_nil ?_
  change wpList _ _ _ _ _ W.drew
  have hS : StateAt W.drew w.heap.size s := hA0
  have hR : StateAt W.drew (w.heap.size + 1 + 1) Cs.none := hR0
  have HB2 : Hid (Below w.heap.size w W.drew) := Lib.hid HB.out.drew
  clear i0 i1 i2 i3 i4 i5 i6 i7 c1 fz hA0 hR0 HB
  have HB := HB2
  clear HB2
  generalize W.drew = V at *
  have c1 := hS.reg rd (by omega)
  have fz := hS.open
  have hA0 : StateAt V w.heap.size s := hS
  have hA : ∀ x, StateAt (V.setCell ⟨w.heap.size, rd, none⟩ (.int .i64 x)) w.heap.size (Cs.put s rd x) := fun x => hS.set rd _ (Cs.cells_put s rd x (by omega))
  have hR0 : StateAt V (w.heap.size + 1 + 1) Cs.none := hR
  have hR1 : ∀ x, StateAt (V.setCell ⟨w.heap.size, rd, none⟩ (.int .i64 x)) (w.heap.size + 1 + 1) Cs.none := fun x => hR.other _ _ (by show w.heap.size + 1 + 1 ≠ w.heap.size; omega)
  clear hS hR
  go_wp2_with (first | ((with_reducible refine wpList_load_st (hA _) ?_ ?_); exact rfl) | ((with_reducible apply wpList_store_st (hR1 _)); exact rfl))
  try simp only [Exit.inBlock, Exit.then]
  refine bp_state rfl rfl ((hR1 _).setRow _) rfl ⟨rfl, below_setRow (HB.out.setCell (Nat.le_refl _) _) (by omega) _⟩

end Go.Proofs.Ytennhpfhgbmnfaa
