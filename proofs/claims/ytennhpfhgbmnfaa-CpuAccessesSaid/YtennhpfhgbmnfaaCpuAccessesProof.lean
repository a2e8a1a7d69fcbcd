/-
  Law CpuAccesses: What any instruction, in any state, reads or writes, and how long it takes, is as the document says.
  Conditions: none but those of the given row.
-/
import Derived.Test.YtennhpfhgbmnfaaRows
import Derived.Test.YtennhpfhgbmnfaaCpuP
import Derived.WalkKit
import Derived.ProofKit
import Derived.OpenShut
import Derived.ShutString
import Derived.ChangeOld
import Derived.Below
import Derived.LoopN
import Derived.SizedLaws
namespace Go.Proofs.Ytennhpfhgbmnfaa.cpuAccesses
open Go.ChangeShapes Go.WideShapes Go.ChangeAt Go.RowKit
open Go.ChangeMaps (open_string shut_string)
set_option linter.unusedVariables false
set_option linter.unusedSimpArgs false

theorem own : ownKnob Try.prog.godebug = none := by kernel_rfl
theorem laidOut : laidOutB Try.prog = true := by kernel_rfl

set_option maxHeartbeats 8000000 in
theorem walk (s0 : Cs.St) (op1 rd1 rn1 rm1 ra1 imm1 cond1 : Int) (wide1 : Bool) (w : World) :
    Calls Try.prog 4 #[.agg (Cs.cells s0), .agg #[.int .i64 op1, .int .i64 rd1, .int .i64 rn1, .int .i64 rm1, .int .i64 ra1, .int .i64 imm1, .int .i64 cond1, .bool wide1]] w fun e w' => e = .returned (.bool true) ∧ Below w.heap.size w w' := by
  have H := Lib.hid (Cpu2.new w s0 op1 rd1 rn1 rm1 ra1 imm1 cond1 wide1)
  go_enter Try.func4, Try.ntmps4
  go_wp2_with (first | ((with_reducible refine wpList_load_st H.out.st ?_ ?_); exact rfl) | (go_at_call 12; refine (access_any _ _ _ _ _ _ _ _ _ _).mono ?_; rintro e w1 ⟨rfl, hb⟩; replace H := Lib.hid (H.out.kept hb); obtain ⟨i0, i1, i2, i3, i4, i5, i6, i7⟩ := H.out.ins; clear hb) | (go_at_call 13; refine (raccess_any _ _ _ _ _ _ _ _ _ _).mono ?_; rintro e w1 ⟨rfl, hb⟩; replace H := Lib.hid (H.out.kept hb); obtain ⟨i0, i1, i2, i3, i4, i5, i6, i7⟩ := H.out.ins; replace T1 := Lib.hid (T1.out.below hb); clear hb) | ((with_reducible refine wpList_store_acc (acc_alloc _ 0 0 0 false) (Cs.access s0 ⟨op1, rd1, rn1, rm1, ra1, imm1, cond1, wide1⟩).addr (Cs.access s0 ⟨op1, rd1, rn1, rm1, ra1, imm1, cond1, wide1⟩).size (Cs.access s0 ⟨op1, rd1, rn1, rm1, ra1, imm1, cond1, wide1⟩).value (Cs.access s0 ⟨op1, rd1, rn1, rm1, ra1, imm1, cond1, wide1⟩).write ?_ ?_); exact rfl; rw [World.setRow_alloc_new]; replace T1 := Lib.hid (T1.out.below ((Below.refl _ _).alloc (Nat.le_refl _) (.cells #[.int .i64 (Cs.access s0 ⟨op1, rd1, rn1, rm1, ra1, imm1, cond1, wide1⟩).addr, .int .i64 (Cs.access s0 ⟨op1, rd1, rn1, rm1, ra1, imm1, cond1, wide1⟩).size, .int .i64 (Cs.access s0 ⟨op1, rd1, rn1, rm1, ra1, imm1, cond1, wide1⟩).value, .bool (Cs.access s0 ⟨op1, rd1, rn1, rm1, ra1, imm1, cond1, wide1⟩).write] 32))); replace H := Lib.hid (H.out.alloc (.cells #[.int .i64 (Cs.access s0 ⟨op1, rd1, rn1, rm1, ra1, imm1, cond1, wide1⟩).addr, .int .i64 (Cs.access s0 ⟨op1, rd1, rn1, rm1, ra1, imm1, cond1, wide1⟩).size, .int .i64 (Cs.access s0 ⟨op1, rd1, rn1, rm1, ra1, imm1, cond1, wide1⟩).value, .bool (Cs.access s0 ⟨op1, rd1, rn1, rm1, ra1, imm1, cond1, wide1⟩).write] 32)); have T2 := Lib.hid (acc_alloc w1 (Cs.access s0 ⟨op1, rd1, rn1, rm1, ra1, imm1, cond1, wide1⟩).addr (Cs.access s0 ⟨op1, rd1, rn1, rm1, ra1, imm1, cond1, wide1⟩).size (Cs.access s0 ⟨op1, rd1, rn1, rm1, ra1, imm1, cond1, wide1⟩).value (Cs.access s0 ⟨op1, rd1, rn1, rm1, ra1, imm1, cond1, wide1⟩).write); generalize World.alloc w1 _ = W2 at *; generalize w1.heap.size = b2 at *; obtain ⟨i0, i1, i2, i3, i4, i5, i6, i7⟩ := H.out.ins) | ((with_reducible refine wpList_store_acc (acc_alloc _ 0 0 0 false) (Cs.access s0 ⟨op1, rd1, rn1, rm1, ra1, imm1, cond1, wide1⟩).addr (Cs.access s0 ⟨op1, rd1, rn1, rm1, ra1, imm1, cond1, wide1⟩).size (Cs.access s0 ⟨op1, rd1, rn1, rm1, ra1, imm1, cond1, wide1⟩).value (Cs.access s0 ⟨op1, rd1, rn1, rm1, ra1, imm1, cond1, wide1⟩).write ?_ ?_); exact rfl; rw [World.setRow_alloc_new]; replace H := Lib.hid (H.out.alloc (.cells #[.int .i64 (Cs.access s0 ⟨op1, rd1, rn1, rm1, ra1, imm1, cond1, wide1⟩).addr, .int .i64 (Cs.access s0 ⟨op1, rd1, rn1, rm1, ra1, imm1, cond1, wide1⟩).size, .int .i64 (Cs.access s0 ⟨op1, rd1, rn1, rm1, ra1, imm1, cond1, wide1⟩).value, .bool (Cs.access s0 ⟨op1, rd1, rn1, rm1, ra1, imm1, cond1, wide1⟩).write] 32)); have T1 := Lib.hid (acc_alloc w1 (Cs.access s0 ⟨op1, rd1, rn1, rm1, ra1, imm1, cond1, wide1⟩).addr (Cs.access s0 ⟨op1, rd1, rn1, rm1, ra1, imm1, cond1, wide1⟩).size (Cs.access s0 ⟨op1, rd1, rn1, rm1, ra1, imm1, cond1, wide1⟩).value (Cs.access s0 ⟨op1, rd1, rn1, rm1, ra1, imm1, cond1, wide1⟩).write); generalize World.alloc w1 _ = W2 at *; generalize w1.heap.size = b1 at *; obtain ⟨i0, i1, i2, i3, i4, i5, i6, i7⟩ := H.out.ins))
  replace H := Lib.hid H.out.drew
  replace T1 : Hid (AccAt _ b1 _) := Lib.hid (T1.out.below (Below.refl _ _).drew)
  replace T2 : Hid (AccAt _ b2 _) := Lib.hid (T2.out.below (Below.refl _ _).drew)
  clear i0 i1 i2 i3 i4 i5 i6 i7
  refine wp_region_held_drew (S := fun wx => (wx.cell? ⟨b1, 0, none⟩ = some (.int .i64 (Cs.access s0 ⟨op1, rd1, rn1, rm1, ra1, imm1, cond1, wide1⟩).addr) ∧ wx.cell? ⟨b1, 1, none⟩ = some (.int .i64 (Cs.access s0 ⟨op1, rd1, rn1, rm1, ra1, imm1, cond1, wide1⟩).size) ∧ wx.cell? ⟨b1, 2, none⟩ = some (.int .i64 (Cs.access s0 ⟨op1, rd1, rn1, rm1, ra1, imm1, cond1, wide1⟩).value) ∧ wx.cell? ⟨b1, 3, none⟩ = some (.bool (Cs.access s0 ⟨op1, rd1, rn1, rm1, ra1, imm1, cond1, wide1⟩).write)) ∧ (wx.cell? ⟨b2, 0, none⟩ = some (.int .i64 (Cs.access s0 ⟨op1, rd1, rn1, rm1, ra1, imm1, cond1, wide1⟩).addr) ∧ wx.cell? ⟨b2, 1, none⟩ = some (.int .i64 (Cs.access s0 ⟨op1, rd1, rn1, rm1, ra1, imm1, cond1, wide1⟩).size) ∧ wx.cell? ⟨b2, 2, none⟩ = some (.int .i64 (Cs.access s0 ⟨op1, rd1, rn1, rm1, ra1, imm1, cond1, wide1⟩).value) ∧ wx.cell? ⟨b2, 3, none⟩ = some (.bool (Cs.access s0 ⟨op1, rd1, rn1, rm1, ra1, imm1, cond1, wide1⟩).write)) ∧ StateAt wx w.heap.size s0 ∧ InsAt wx (w.heap.size + 1) op1 rd1 rn1 rm1 ra1 imm1 cond1 wide1) (by kernel_rfl) (⟨⟨T1.out.c0, T1.out.c1, T1.out.c2, T1.out.c3⟩, ⟨T2.out.c0, T2.out.c1, T2.out.c2, T2.out.c3⟩, H.out.st, H.out.ins⟩) (fun hHeld => ?_)
  refine wpAnyH_take (i := 0) (v := ?_) rfl (by kernel_rfl) (by kernel_rfl) (by kernel_rfl) (fun _ _ _ h => h) (Or.inl ⟨by rfl, ?_⟩) (by assumption) ?_
  rotate_left
  · intro w hSw
    (try dsimp only at hSw)
    go_simp
    (try with_reducible rfl)
  (try simp only [Act.put, List.setIfInBounds_toArray, List.set_cons_zero, List.set_cons_succ, List.getElem_toArray, List.getElem_cons_succ, List.getElem_cons_zero])
  refine wpAnyH_take (i := 1) (v := ?_) rfl (by kernel_rfl) (by kernel_rfl) (by kernel_rfl) (fun _ _ _ h => h) (Or.inl ⟨by rfl, ?_⟩) (by assumption) ?_
  rotate_left
  · intro w hSw
    (try dsimp only at hSw)
    go_simp
    (try with_reducible rfl)
  (try simp only [Act.put, List.setIfInBounds_toArray, List.set_cons_zero, List.set_cons_succ, List.getElem_toArray, List.getElem_cons_succ, List.getElem_cons_zero])
  refine wpAnyH_take (i := 2) (v := ?_) rfl (by kernel_rfl) (by kernel_rfl) (by kernel_rfl) (fun _ _ _ h => h) (Or.inl ⟨by rfl, ?_⟩) (by assumption) ?_
  rotate_left
  · intro w hSw
    (try dsimp only at hSw)
    go_simp
    (try with_reducible rfl)
  (try simp only [Act.put, List.setIfInBounds_toArray, List.set_cons_zero, List.set_cons_succ, List.getElem_toArray, List.getElem_cons_succ, List.getElem_cons_zero])
  refine wpAnyH_take (i := 3) (v := ?_) rfl (by kernel_rfl) (by kernel_rfl) (by kernel_rfl) (fun _ _ _ h => h) (Or.inl ⟨by rfl, ?_⟩) (by assumption) ?_
  rotate_left
  · intro w hSw
    (try dsimp only at hSw)
    go_simp
    (try with_reducible rfl)
  (try simp only [Act.put, List.setIfInBounds_toArray, List.set_cons_zero, List.set_cons_succ, List.getElem_toArray, List.getElem_cons_succ, List.getElem_cons_zero])
  refine wpAnyH_take (i := 4) (v := ?_) rfl (by kernel_rfl) (by kernel_rfl) (by kernel_rfl) (fun _ _ _ h => h) (Or.inl ⟨by rfl, ?_⟩) (by assumption) ?_
  rotate_left
  · intro w hSw
    (try dsimp only at hSw)
    go_simp
    (try with_reducible rfl)
  (try simp only [Act.put, List.setIfInBounds_toArray, List.set_cons_zero, List.set_cons_succ, List.getElem_toArray, List.getElem_cons_succ, List.getElem_cons_zero])
  refine wpAnyH_take (i := 5) (v := ?_) rfl (by kernel_rfl) (by kernel_rfl) (by kernel_rfl) (fun _ _ _ h => h) (Or.inl ⟨by rfl, ?_⟩) (by assumption) ?_
  rotate_left
  · intro w hSw
    (try dsimp only at hSw)
    go_simp
    (try with_reducible rfl)
  (try simp only [Act.put, List.setIfInBounds_toArray, List.set_cons_zero, List.set_cons_succ, List.getElem_toArray, List.getElem_cons_succ, List.getElem_cons_zero])
  refine wpAnyH_take (i := 6) (v := ?_) rfl (by kernel_rfl) (by kernel_rfl) (by kernel_rfl) (fun _ _ _ h => h) (Or.inl ⟨by rfl, ?_⟩) (by assumption) ?_
  rotate_left
  · intro w hSw
    (try dsimp only at hSw)
    go_simp
    (try with_reducible rfl)
  (try simp only [Act.put, List.setIfInBounds_toArray, List.set_cons_zero, List.set_cons_succ, List.getElem_toArray, List.getElem_cons_succ, List.getElem_cons_zero])
  refine wpAnyH_take (i := 7) (v := ?_) rfl (by kernel_rfl) (by kernel_rfl) (by kernel_rfl) (fun _ _ _ h => h) (Or.inl ⟨by rfl, ?_⟩) (by assumption) ?_
  rotate_left
  · intro w hSw
    (try dsimp only at hSw)
    go_simp
    (try with_reducible rfl)
  (try simp only [Act.put, List.setIfInBounds_toArray, List.set_cons_zero, List.set_cons_succ, List.getElem_toArray, List.getElem_cons_succ, List.getElem_cons_zero])
  refine wpAnyH_take (i := 8) (v := ?_) rfl (by kernel_rfl) (by kernel_rfl) (by kernel_rfl) (fun _ _ _ h => h) (Or.inl ⟨by rfl, ?_⟩) (by assumption) ?_
  rotate_left
  · intro w hSw
    (try dsimp only at hSw)
    go_simp
    (try with_reducible rfl)
  (try simp only [Act.put, List.setIfInBounds_toArray, List.set_cons_zero, List.set_cons_succ, List.getElem_toArray, List.getElem_cons_succ, List.getElem_cons_zero])
  refine wpAnyH_take (i := 9) (v := _) rfl (by kernel_rfl) (by kernel_rfl) (by kernel_rfl) (fun _ _ _ h => h) (yieldsIf_load_st (by rfl) rfl (fun _ h => h.2.2.1)) (by assumption) ?_
  (try simp only [Act.put, List.setIfInBounds_toArray, List.set_cons_zero, List.set_cons_succ, List.getElem_toArray, List.getElem_cons_succ, List.getElem_cons_zero])
  refine wpAnyH_take (i := 10) (v := ?_) rfl (by kernel_rfl) (by kernel_rfl) (by kernel_rfl) (fun _ _ _ h => h) (Or.inl ⟨by rfl, ?_⟩) (by assumption) ?_
  rotate_left
  · intro w hSw
    (try dsimp only at hSw)
    go_simp
    (try with_reducible rfl)
  (try simp only [Act.put, List.setIfInBounds_toArray, List.set_cons_zero, List.set_cons_succ, List.getElem_toArray, List.getElem_cons_succ, List.getElem_cons_zero])
  refine wpAnyH_take (i := 12) (v := _) rfl (by kernel_rfl) (by kernel_rfl) (by kernel_rfl) (fun _ _ _ h => h) (yieldsIf_load_st (by rfl) rfl (fun _ h => h.2.2.1)) (by assumption) ?_
  (try simp only [Act.put, List.setIfInBounds_toArray, List.set_cons_zero, List.set_cons_succ, List.getElem_toArray, List.getElem_cons_succ, List.getElem_cons_zero])
  refine wpAnyH_take (i := 13) (v := ?_) rfl (by kernel_rfl) (by kernel_rfl) (by kernel_rfl) (fun _ _ _ h => h) (Or.inl ⟨by rfl, ?_⟩) (by assumption) ?_
  rotate_left
  · intro w hSw
    (try dsimp only at hSw)
    go_simp
    (try with_reducible rfl)
  (try simp only [Act.put, List.setIfInBounds_toArray, List.set_cons_zero, List.set_cons_succ, List.getElem_toArray, List.getElem_cons_succ, List.getElem_cons_zero])
  refine wpAnyH_ready (rs := [11]) (by kernel_rfl) (by simp) ?_
  refine AllReadyH.cons rfl (fun K hK => ?_) AllReadyH.nil
  go_simp
  (go_at_call 14; refine (cycles_any _ _ _ _ _ _ _ _ _ _).mono ?_; rintro e w3 ⟨rfl, hb⟩; replace H := Lib.hid (H.out.kept hb); replace T1 := Lib.hid (T1.out.below hb); replace T2 := Lib.hid (T2.out.below hb); clear hb)
  refine hK.out _ _ (by exact ⟨⟨T1.out.c0, T1.out.c1, T1.out.c2, T1.out.c3⟩, ⟨T2.out.c0, T2.out.c1, T2.out.c2, T2.out.c3⟩, H.out.st, H.out.ins⟩) (fun hHeld => ?_)
  clear hK K
  (try simp only [Act.put, List.setIfInBounds_toArray, List.set_cons_zero, List.set_cons_succ, List.getElem_toArray, List.getElem_cons_succ, List.getElem_cons_zero])
  refine wpAnyH_ready (rs := [14]) (by kernel_rfl) (by simp) ?_
  refine AllReadyH.cons rfl (fun K hK => ?_) AllReadyH.nil
  go_simp
  (go_at_call 15; refine (rcycles_any _ _ _ _ _ _ _ _ _ _).mono ?_; rintro e w4 ⟨rfl, hb⟩; replace H := Lib.hid (H.out.kept hb); replace T1 := Lib.hid (T1.out.below hb); replace T2 := Lib.hid (T2.out.below hb); clear hb)
  refine hK.out _ _ (by exact ⟨⟨T1.out.c0, T1.out.c1, T1.out.c2, T1.out.c3⟩, ⟨T2.out.c0, T2.out.c1, T2.out.c2, T2.out.c3⟩, H.out.st, H.out.ins⟩) (fun hHeld => ?_)
  clear hK K
  (try simp only [Act.put, List.setIfInBounds_toArray, List.set_cons_zero, List.set_cons_succ, List.getElem_toArray, List.getElem_cons_succ, List.getElem_cons_zero])
  refine wpAnyH_take (i := 15) (v := ?_) rfl (by kernel_rfl) (by kernel_rfl) (by kernel_rfl) (fun _ _ _ h => h) (Or.inl ⟨by rfl, ?_⟩) (by assumption) ?_
  rotate_left
  · intro w hSw
    (try dsimp only at hSw)
    go_simp
    (try with_reducible rfl)
  (try simp only [Act.put, List.setIfInBounds_toArray, List.set_cons_zero, List.set_cons_succ, List.getElem_toArray, List.getElem_cons_succ, List.getElem_cons_zero])
  refine wpAnyH_take (i := 16) (v := ?_) rfl (by kernel_rfl) (by kernel_rfl) (by kernel_rfl) (fun _ _ _ h => h) (Or.inl ⟨by rfl, ?_⟩) (by assumption) ?_
  rotate_left
  · intro w hSw
    (try dsimp only at hSw)
    go_simp
    (try with_reducible rfl)
  (try simp only [Act.put, List.setIfInBounds_toArray, List.set_cons_zero, List.set_cons_succ, List.getElem_toArray, List.getElem_cons_succ, List.getElem_cons_zero])
  refine wpAnyH_take (i := 17) (v := ?_) rfl (by kernel_rfl) (by kernel_rfl) (by kernel_rfl) (fun _ _ _ h => h) (Or.inl ⟨by rfl, ?_⟩) (by assumption) ?_
  rotate_left
  · intro w hSw
    (try dsimp only at hSw)
    go_simp
    (try with_reducible rfl)
  (try simp only [Act.put, List.setIfInBounds_toArray, List.set_cons_zero, List.set_cons_succ, List.getElem_toArray, List.getElem_cons_succ, List.getElem_cons_zero])
  refine wpAnyH_ready (rs := [18]) (by kernel_rfl) (by simp) ?_
  refine AllReadyH.cons rfl (fun K hK => ?_) AllReadyH.nil
  go_simp
  (go_at_call 11; refine (lives_any _).mono ?_; rintro e w5 ⟨rfl, hb⟩; replace H := Lib.hid (H.out.kept hb); replace T1 := Lib.hid (T1.out.below hb); replace T2 := Lib.hid (T2.out.below hb); clear hb)
  refine hK.out _ _ (by exact ⟨⟨T1.out.c0, T1.out.c1, T1.out.c2, T1.out.c3⟩, ⟨T2.out.c0, T2.out.c1, T2.out.c2, T2.out.c3⟩, H.out.st, H.out.ins⟩) (fun hHeld => ?_)
  clear hK K
  (try simp only [Act.put, List.setIfInBounds_toArray, List.set_cons_zero, List.set_cons_succ, List.getElem_toArray, List.getElem_cons_succ, List.getElem_cons_zero])
  refine wpAnyH_take (i := 19) (v := ?_) rfl (by kernel_rfl) (by kernel_rfl) (by kernel_rfl) (fun _ _ _ h => h) (Or.inl ⟨by rfl, ?_⟩) (by assumption) ?_
  rotate_left
  · intro w hSw
    (try dsimp only at hSw)
    go_simp
    (try with_reducible rfl)
  (try simp only [Act.put, List.setIfInBounds_toArray, List.set_cons_zero, List.set_cons_succ, List.getElem_toArray, List.getElem_cons_succ, List.getElem_cons_zero])
  refine wpAnyH_take (i := 20) (v := ?_) rfl (by kernel_rfl) (by kernel_rfl) (by kernel_rfl) (fun _ _ _ h => h) (Or.inl ⟨by rfl, ?_⟩) (by assumption) ?_
  rotate_left
  · intro w hSw
    (try dsimp only at hSw)
    go_simp
    (try with_reducible rfl)
  (try simp only [Act.put, List.setIfInBounds_toArray, List.set_cons_zero, List.set_cons_succ, List.getElem_toArray, List.getElem_cons_succ, List.getElem_cons_zero])
  refine wpAnyH_done (by kernel_rfl) ?_ _
  go_wp2
  go_ret
  exact ⟨rfl, H.out.bel⟩

set_option maxRecDepth 100000 in
theorem lifted (os : Os) (started : os.Started) (H : Type) (enc : TypeId × Value → H) :
    ReturnsInHanded {} Try.checked os 4 .any (Rows.cpuAccessesSpec.pre6 enc Try.prog Try.f4 Rows.cpuAccessesRow.domain false) (Rows.cpuAccessesSpec.post enc Try.prog Try.f4 false true false false) := by
  refine returnsInHanded_of_change (C := Try.checked) own started (by kernel_rfl) Try.func4
    (ChangeSpec.witness6 (enc := enc) (C := Try.checked) false ⟨#[], #[.agg #[.int .i64 0, .int .i64 0, .int .i64 0, .int .i64 0, .int .i64 0, .int .i64 0, .int .i64 0, .int .i64 0, .int .i64 0, .int .i64 0, .int .i64 0, .int .i64 0, .int .i64 0, .int .i64 0, .int .i64 0, .int .i64 0, .bool false, .bool false, .bool false, .bool false], .agg #[.int .i64 0, .int .i64 0, .int .i64 0, .int .i64 0, .int .i64 0, .int .i64 0, .int .i64 0, .bool false]], []⟩ 8 (by kernel_rfl) (by kernel_rfl) (by kernel_rfl) (by kernel_rfl)) ?_
  intro W base args ds gs before hval0 hW hcnd _
  have hval : ∀ (j : Nat) t v, Try.f4.params[j]? = some t → args[j]? = some v → Value.okWide Try.prog W .any base t v := hval0
  have hW' := hW
  obtain ⟨p, q, hA0, hV, rfl, hfz, hnd⟩ := hW
  have hA : DataW.TrodAll enc Try.prog W 0 (fun _ => true) true Try.f4.params.toList args.toList ds p := hA0
  rw [Try.params4] at hA hval
  obtain ⟨v0, vs0, d0, ds0, p0, q0, hargs, rfl, rfl, h0, r0⟩ := trodAll_cons hA
  obtain ⟨v1, vs1, d1, ds1, p1, q1, rfl, rfl, rfl, h1, r1⟩ := trodAll_cons r0
  obtain ⟨rfl, rfl, rfl⟩ := trodAll_nil r1
  obtain rfl : args = #[v0, v1] := by cases args; simp_all
  obtain ⟨rfl, rfl⟩ := trodVars_none hV
  have k0 := h0
  have lt0 : ∀ x ∈ p0, x.block < W.heap.size := by obtain ⟨m, hm⟩ := k0; exact DataW.trod_lt m _ _ _ hm
  obtain ⟨s0, rfl⟩ := open_state (hval 0 24 v0 rfl rfl) h0
  have k1 := h1
  have lt1 : ∀ x ∈ p1, x.block < W.heap.size := by obtain ⟨m, hm⟩ := k1; exact DataW.trod_lt m _ _ _ hm
  obtain ⟨op1, rd1, rn1, rm1, ra1, imm1, cond1, wide1, rfl⟩ := open_ins (hval 1 26 v1 rfl rfl) h1
  clear hA0 hval0
  refine (walk s0 op1 rd1 rn1 rm1 ra1 imm1 cond1 wide1 W).mono fun e W' ⟨he, bel⟩ => ?_
  subst he
  exact ⟨_, rfl, _, _, _, [], _, [], hW', trodAll_mk1 (shut_bool Try.underlying4 _), (trodAll_cons_mk (Below.trod laidOut (by kernel_rfl) (of_decide_eq_true (by kernel_rfl)) k0 bel lt0) (trodAll_cons_mk (Below.trod laidOut (by kernel_rfl) (of_decide_eq_true (by kernel_rfl)) k1 bel lt1) trodAll_mk0)), rfl, bel.frame _, fun h => by cases h⟩

theorem over : Rows.cpuAccessesRow.holds Try.pinned (OpenSpec.ofChange Rows.cpuAccessesSpec) :=
  OpenClaim.holds_of_wide 4 Try.f4 rfl rfl rfl rfl rfl rfl rfl ⟨rfl, rfl, rfl, rfl, rfl⟩ rfl rfl rfl rfl rfl (by kernel_rfl) Try.func4 (by kernel_rfl)
    (of_decide_eq_true (by kernel_rfl)) (by unfold Func.isWrapper; first | (rw [if_pos (by decide +kernel)]; kernel_rfl) | (rw [if_neg (by decide +kernel)]; exact ⟨rfl, rfl⟩))
    (fun os started H enc _ => lifted os started H enc)

/-- the statement -/
theorem proved : Rows.CpuAccessesSaid := over
#print axioms proved
end Go.Proofs.Ytennhpfhgbmnfaa.cpuAccesses
