/-
  What the document's Cycles and Step return of any instruction; what lives returns; a state among a law's arguments.
-/
import Derived.Lib.SmallJoins
import Derived.OpenShut
import Derived.Test.YtennhpfhgbmnfaaCpuG
namespace Go.Proofs.Ytennhpfhgbmnfaa
open Go.Joins Go.ChangeShapes Go.WideShapes Go.ChangeAt Go.RowKit Go.Deep
set_option linter.unusedVariables false
set_option linter.unusedSimpArgs false

set_option maxHeartbeats 4000000 in
set_option maxRecDepth 10000 in
theorem rcycles_a (s : Cs.St) (op rd rn rm ra imm cond : Int) (wide : Bool) (w : World) (hz : (Th.check ⟨op, rd, rn, rm, ra, imm, cond, wide⟩ != 0) = true) :
    Calls Try.prog 15 #[.agg (Cs.cells s), .agg #[.int .i64 op, .int .i64 rd, .int .i64 rn, .int .i64 rm, .int .i64 ra, .int .i64 imm, .int .i64 cond, .bool wide]] w fun e w' => e = .returned (.int .i64 (Cs.cycles s ⟨op, rd, rn, rm, ra, imm, cond, wide⟩)) ∧ Below w.heap.size w w' := by
  go_enter Try.func15, Try.ntmps15
  go_wp2_with (first | (go_at_call 13; refine (raccess_any _ _ _ _ _ _ _ _ _ _).mono ?_; rintro e w1 ⟨rfl, hb⟩; have HS0 := ((state_alloc w s).alloc (.cells #[.int .i64 op, .int .i64 rd, .int .i64 rn, .int .i64 rm, .int .i64 ra, .int .i64 imm, .int .i64 cond, .bool wide] 26)).below hb; have HI0 := (ins_alloc2 w s op rd rn rm ra imm cond wide).below hb (by simp); have HB0 := (((Below.refl _ w).alloc (Nat.le_refl _) _).alloc (by simp) _).trans (hb.mono (by simp; omega)); have hlt : w.heap.size + 1 < w1.heap.size := (by have := hb.size; simp at this; omega); have HSo := Lib.hid (fun o => HS0.alloc o); have HIo := Lib.hid (fun o => HI0.alloc hlt o); have HBo := Lib.hid (fun o => HB0.alloc HB0.size o); have j0 : ∀ o, (w1.alloc o).cell? ⟨w.heap.size + 1, 0, none⟩ = _ := fun o => (HIo.out o).1; have j1 : ∀ o, (w1.alloc o).cell? ⟨w.heap.size + 1, 1, none⟩ = _ := fun o => (HIo.out o).2.1; have j2 : ∀ o, (w1.alloc o).cell? ⟨w.heap.size + 1, 2, none⟩ = _ := fun o => (HIo.out o).2.2.1; have j3 : ∀ o, (w1.alloc o).cell? ⟨w.heap.size + 1, 3, none⟩ = _ := fun o => (HIo.out o).2.2.2.1; have j4 : ∀ o, (w1.alloc o).cell? ⟨w.heap.size + 1, 4, none⟩ = _ := fun o => (HIo.out o).2.2.2.2.1; have j5 : ∀ o, (w1.alloc o).cell? ⟨w.heap.size + 1, 5, none⟩ = _ := fun o => (HIo.out o).2.2.2.2.2.1; have j6 : ∀ o, (w1.alloc o).cell? ⟨w.heap.size + 1, 6, none⟩ = _ := fun o => (HIo.out o).2.2.2.2.2.2.1; have j7 : ∀ o, (w1.alloc o).cell? ⟨w.heap.size + 1, 7, none⟩ = _ := fun o => (HIo.out o).2.2.2.2.2.2.2; clear hb HS0 HI0 HB0) | ((with_reducible apply wpList_store_acc (acc_alloc _ 0 0 0 false)); exact rfl; rw [World.setRow_alloc_new]) | (go_at_call 27; refine (rcheck_any _ _ _ _ _ _ _ _ _).mono ?_; rintro e w2 ⟨rfl, hb⟩; have HS := Lib.hid ((HSo.out _).below hb); have HI := Lib.hid ((HIo.out _).below hb (by simp; omega)); have HB := Lib.hid ((HBo.out _).trans (hb.mono (HBo.out _).size)); obtain ⟨i0, i1, i2, i3, i4, i5, i6, i7⟩ := HI.out; clear hb j0 j1 j2 j3 j4 j5 j6 j7) | (go_at_call 30; refine (rtaken_any _ _ _ _ _ _ _ _ _ _).mono ?_; rintro e w3 ⟨rfl, hb⟩; replace HB := Lib.hid (HB.out.trans (hb.mono HB.out.size)); clear hb) | ((with_reducible refine wpList_load_st ((state_alloc w s).alloc _) ?_ ?_); exact rfl) | ((with_reducible refine wpList_load_st HS.out ?_ ?_); exact rfl))
  go_ret
  refine ⟨wret_int ?_, HB.out⟩
  simp only [Cs.cycles, hz, if_true]
set_option maxHeartbeats 4000000 in
set_option maxRecDepth 10000 in
theorem rcycles_m (s : Cs.St) (op rd rn rm ra imm cond : Int) (wide : Bool) (w : World) (hz : (Th.check ⟨op, rd, rn, rm, ra, imm, cond, wide⟩ != 0) = false) (hA : Cs.accessB ⟨op, rd, rn, rm, ra, imm, cond, wide⟩ = true) (hm : Cs.mem op = true) :
    Calls Try.prog 15 #[.agg (Cs.cells s), .agg #[.int .i64 op, .int .i64 rd, .int .i64 rn, .int .i64 rm, .int .i64 ra, .int .i64 imm, .int .i64 cond, .bool wide]] w fun e w' => e = .returned (.int .i64 (Cs.cycles s ⟨op, rd, rn, rm, ra, imm, cond, wide⟩)) ∧ Below w.heap.size w w' := by
  go_enter Try.func15, Try.ntmps15
  go_wp2_with (first | (go_at_call 13; refine (raccess_any _ _ _ _ _ _ _ _ _ _).mono ?_; rintro e w1 ⟨rfl, hb⟩; have HS0 := ((state_alloc w s).alloc (.cells #[.int .i64 op, .int .i64 rd, .int .i64 rn, .int .i64 rm, .int .i64 ra, .int .i64 imm, .int .i64 cond, .bool wide] 26)).below hb; have HI0 := (ins_alloc2 w s op rd rn rm ra imm cond wide).below hb (by simp); have HB0 := (((Below.refl _ w).alloc (Nat.le_refl _) _).alloc (by simp) _).trans (hb.mono (by simp; omega)); have hlt : w.heap.size + 1 < w1.heap.size := (by have := hb.size; simp at this; omega); have HSo := Lib.hid (fun o => HS0.alloc o); have HIo := Lib.hid (fun o => HI0.alloc hlt o); have HBo := Lib.hid (fun o => HB0.alloc HB0.size o); have j0 : ∀ o, (w1.alloc o).cell? ⟨w.heap.size + 1, 0, none⟩ = _ := fun o => (HIo.out o).1; have j1 : ∀ o, (w1.alloc o).cell? ⟨w.heap.size + 1, 1, none⟩ = _ := fun o => (HIo.out o).2.1; have j2 : ∀ o, (w1.alloc o).cell? ⟨w.heap.size + 1, 2, none⟩ = _ := fun o => (HIo.out o).2.2.1; have j3 : ∀ o, (w1.alloc o).cell? ⟨w.heap.size + 1, 3, none⟩ = _ := fun o => (HIo.out o).2.2.2.1; have j4 : ∀ o, (w1.alloc o).cell? ⟨w.heap.size + 1, 4, none⟩ = _ := fun o => (HIo.out o).2.2.2.2.1; have j5 : ∀ o, (w1.alloc o).cell? ⟨w.heap.size + 1, 5, none⟩ = _ := fun o => (HIo.out o).2.2.2.2.2.1; have j6 : ∀ o, (w1.alloc o).cell? ⟨w.heap.size + 1, 6, none⟩ = _ := fun o => (HIo.out o).2.2.2.2.2.2.1; have j7 : ∀ o, (w1.alloc o).cell? ⟨w.heap.size + 1, 7, none⟩ = _ := fun o => (HIo.out o).2.2.2.2.2.2.2; clear hb HS0 HI0 HB0) | ((with_reducible apply wpList_store_acc (acc_alloc _ 0 0 0 false)); exact rfl; rw [World.setRow_alloc_new]) | (go_at_call 27; refine (rcheck_any _ _ _ _ _ _ _ _ _).mono ?_; rintro e w2 ⟨rfl, hb⟩; have HS := Lib.hid ((HSo.out _).below hb); have HI := Lib.hid ((HIo.out _).below hb (by simp; omega)); have HB := Lib.hid ((HBo.out _).trans (hb.mono (HBo.out _).size)); obtain ⟨i0, i1, i2, i3, i4, i5, i6, i7⟩ := HI.out; clear hb j0 j1 j2 j3 j4 j5 j6 j7) | (go_at_call 30; refine (rtaken_any _ _ _ _ _ _ _ _ _ _).mono ?_; rintro e w3 ⟨rfl, hb⟩; replace HB := Lib.hid (HB.out.trans (hb.mono HB.out.size)); clear hb) | ((with_reducible refine wpList_load_st ((state_alloc w s).alloc _) ?_ ?_); exact rfl) | ((with_reducible refine wpList_load_st HS.out ?_ ?_); exact rfl))
  go_ret
  refine ⟨wret_int ?_, HB.out⟩
  simp only [Cs.cycles, hz, hm, Bool.false_eq_true, if_false, if_true]
set_option maxHeartbeats 4000000 in
set_option maxRecDepth 10000 in
theorem rcycles_17 (s : Cs.St) (rd rn rm ra imm cond : Int) (wide : Bool) (w : World) (hz : (Th.check ⟨17, rd, rn, rm, ra, imm, cond, wide⟩ != 0) = false) (hA : Cs.accessB ⟨17, rd, rn, rm, ra, imm, cond, wide⟩ = false) :
    Calls Try.prog 15 #[.agg (Cs.cells s), .agg #[.int .i64 17, .int .i64 rd, .int .i64 rn, .int .i64 rm, .int .i64 ra, .int .i64 imm, .int .i64 cond, .bool wide]] w fun e w' => e = .returned (.int .i64 (Cs.cycles s ⟨17, rd, rn, rm, ra, imm, cond, wide⟩)) ∧ Below w.heap.size w w' := by
  go_enter Try.func15, Try.ntmps15
  go_wp2_with (first | (go_at_call 13; refine (raccess_any _ _ _ _ _ _ _ _ _ _).mono ?_; rintro e w1 ⟨rfl, hb⟩; have HS0 := ((state_alloc w s).alloc (.cells #[.int .i64 17, .int .i64 rd, .int .i64 rn, .int .i64 rm, .int .i64 ra, .int .i64 imm, .int .i64 cond, .bool wide] 26)).below hb; have HI0 := (ins_alloc2 w s 17 rd rn rm ra imm cond wide).below hb (by simp); have HB0 := (((Below.refl _ w).alloc (Nat.le_refl _) _).alloc (by simp) _).trans (hb.mono (by simp; omega)); have hlt : w.heap.size + 1 < w1.heap.size := (by have := hb.size; simp at this; omega); have HSo := Lib.hid (fun o => HS0.alloc o); have HIo := Lib.hid (fun o => HI0.alloc hlt o); have HBo := Lib.hid (fun o => HB0.alloc HB0.size o); have j0 : ∀ o, (w1.alloc o).cell? ⟨w.heap.size + 1, 0, none⟩ = _ := fun o => (HIo.out o).1; have j1 : ∀ o, (w1.alloc o).cell? ⟨w.heap.size + 1, 1, none⟩ = _ := fun o => (HIo.out o).2.1; have j2 : ∀ o, (w1.alloc o).cell? ⟨w.heap.size + 1, 2, none⟩ = _ := fun o => (HIo.out o).2.2.1; have j3 : ∀ o, (w1.alloc o).cell? ⟨w.heap.size + 1, 3, none⟩ = _ := fun o => (HIo.out o).2.2.2.1; have j4 : ∀ o, (w1.alloc o).cell? ⟨w.heap.size + 1, 4, none⟩ = _ := fun o => (HIo.out o).2.2.2.2.1; have j5 : ∀ o, (w1.alloc o).cell? ⟨w.heap.size + 1, 5, none⟩ = _ := fun o => (HIo.out o).2.2.2.2.2.1; have j6 : ∀ o, (w1.alloc o).cell? ⟨w.heap.size + 1, 6, none⟩ = _ := fun o => (HIo.out o).2.2.2.2.2.2.1; have j7 : ∀ o, (w1.alloc o).cell? ⟨w.heap.size + 1, 7, none⟩ = _ := fun o => (HIo.out o).2.2.2.2.2.2.2; clear hb HS0 HI0 HB0) | ((with_reducible apply wpList_store_acc (acc_alloc _ 0 0 0 false)); exact rfl; rw [World.setRow_alloc_new]) | (go_at_call 27; refine (rcheck_any _ _ _ _ _ _ _ _ _).mono ?_; rintro e w2 ⟨rfl, hb⟩; have HS := Lib.hid ((HSo.out _).below hb); have HI := Lib.hid ((HIo.out _).below hb (by simp; omega)); have HB := Lib.hid ((HBo.out _).trans (hb.mono (HBo.out _).size)); obtain ⟨i0, i1, i2, i3, i4, i5, i6, i7⟩ := HI.out; clear hb j0 j1 j2 j3 j4 j5 j6 j7) | (go_at_call 30; refine (rtaken_any _ _ _ _ _ _ _ _ _ _).mono ?_; rintro e w3 ⟨rfl, hb⟩; replace HB := Lib.hid (HB.out.trans (hb.mono HB.out.size)); clear hb) | ((with_reducible refine wpList_load_st ((state_alloc w s).alloc _) ?_ ?_); exact rfl) | ((with_reducible refine wpList_load_st HS.out ?_ ?_); exact rfl))
  go_ret
  refine ⟨wret_int ?_, HB.out⟩
  simp only [Cs.cycles, Cs.mem, hz, Bool.false_eq_true, if_false]; rfl
set_option maxHeartbeats 4000000 in
set_option maxRecDepth 10000 in
theorem rcycles_ot (s : Cs.St) (op rd rn rm ra imm cond : Int) (wide : Bool) (w : World) (hz : (Th.check ⟨op, rd, rn, rm, ra, imm, cond, wide⟩ != 0) = false) (hA : Cs.accessB ⟨op, rd, rn, rm, ra, imm, cond, wide⟩ = false) (hm : Cs.mem op = false) (o17 : (op == 17) = false) (ht : Cs.taken s op cond = true) :
    Calls Try.prog 15 #[.agg (Cs.cells s), .agg #[.int .i64 op, .int .i64 rd, .int .i64 rn, .int .i64 rm, .int .i64 ra, .int .i64 imm, .int .i64 cond, .bool wide]] w fun e w' => e = .returned (.int .i64 (Cs.cycles s ⟨op, rd, rn, rm, ra, imm, cond, wide⟩)) ∧ Below w.heap.size w w' := by
  go_enter Try.func15, Try.ntmps15
  go_wp2_with (first | (go_at_call 13; refine (raccess_any _ _ _ _ _ _ _ _ _ _).mono ?_; rintro e w1 ⟨rfl, hb⟩; have HS0 := ((state_alloc w s).alloc (.cells #[.int .i64 op, .int .i64 rd, .int .i64 rn, .int .i64 rm, .int .i64 ra, .int .i64 imm, .int .i64 cond, .bool wide] 26)).below hb; have HI0 := (ins_alloc2 w s op rd rn rm ra imm cond wide).below hb (by simp); have HB0 := (((Below.refl _ w).alloc (Nat.le_refl _) _).alloc (by simp) _).trans (hb.mono (by simp; omega)); have hlt : w.heap.size + 1 < w1.heap.size := (by have := hb.size; simp at this; omega); have HSo := Lib.hid (fun o => HS0.alloc o); have HIo := Lib.hid (fun o => HI0.alloc hlt o); have HBo := Lib.hid (fun o => HB0.alloc HB0.size o); have j0 : ∀ o, (w1.alloc o).cell? ⟨w.heap.size + 1, 0, none⟩ = _ := fun o => (HIo.out o).1; have j1 : ∀ o, (w1.alloc o).cell? ⟨w.heap.size + 1, 1, none⟩ = _ := fun o => (HIo.out o).2.1; have j2 : ∀ o, (w1.alloc o).cell? ⟨w.heap.size + 1, 2, none⟩ = _ := fun o => (HIo.out o).2.2.1; have j3 : ∀ o, (w1.alloc o).cell? ⟨w.heap.size + 1, 3, none⟩ = _ := fun o => (HIo.out o).2.2.2.1; have j4 : ∀ o, (w1.alloc o).cell? ⟨w.heap.size + 1, 4, none⟩ = _ := fun o => (HIo.out o).2.2.2.2.1; have j5 : ∀ o, (w1.alloc o).cell? ⟨w.heap.size + 1, 5, none⟩ = _ := fun o => (HIo.out o).2.2.2.2.2.1; have j6 : ∀ o, (w1.alloc o).cell? ⟨w.heap.size + 1, 6, none⟩ = _ := fun o => (HIo.out o).2.2.2.2.2.2.1; have j7 : ∀ o, (w1.alloc o).cell? ⟨w.heap.size + 1, 7, none⟩ = _ := fun o => (HIo.out o).2.2.2.2.2.2.2; clear hb HS0 HI0 HB0) | ((with_reducible apply wpList_store_acc (acc_alloc _ 0 0 0 false)); exact rfl; rw [World.setRow_alloc_new]) | (go_at_call 27; refine (rcheck_any _ _ _ _ _ _ _ _ _).mono ?_; rintro e w2 ⟨rfl, hb⟩; have HS := Lib.hid ((HSo.out _).below hb); have HI := Lib.hid ((HIo.out _).below hb (by simp; omega)); have HB := Lib.hid ((HBo.out _).trans (hb.mono (HBo.out _).size)); obtain ⟨i0, i1, i2, i3, i4, i5, i6, i7⟩ := HI.out; clear hb j0 j1 j2 j3 j4 j5 j6 j7) | (go_at_call 30; refine (rtaken_any _ _ _ _ _ _ _ _ _ _).mono ?_; rintro e w3 ⟨rfl, hb⟩; replace HB := Lib.hid (HB.out.trans (hb.mono HB.out.size)); clear hb) | ((with_reducible refine wpList_load_st ((state_alloc w s).alloc _) ?_ ?_); exact rfl) | ((with_reducible refine wpList_load_st HS.out ?_ ?_); exact rfl))
  go_ret
  refine ⟨wret_int ?_, HB.out⟩
  simp only [Cs.cycles, hz, hm, o17, ht, Bool.false_eq_true, if_false, if_true]
set_option maxHeartbeats 4000000 in
set_option maxRecDepth 10000 in
theorem rcycles_of (s : Cs.St) (op rd rn rm ra imm cond : Int) (wide : Bool) (w : World) (hz : (Th.check ⟨op, rd, rn, rm, ra, imm, cond, wide⟩ != 0) = false) (hA : Cs.accessB ⟨op, rd, rn, rm, ra, imm, cond, wide⟩ = false) (hm : Cs.mem op = false) (o17 : (op == 17) = false) (ht : Cs.taken s op cond = false) :
    Calls Try.prog 15 #[.agg (Cs.cells s), .agg #[.int .i64 op, .int .i64 rd, .int .i64 rn, .int .i64 rm, .int .i64 ra, .int .i64 imm, .int .i64 cond, .bool wide]] w fun e w' => e = .returned (.int .i64 (Cs.cycles s ⟨op, rd, rn, rm, ra, imm, cond, wide⟩)) ∧ Below w.heap.size w w' := by
  go_enter Try.func15, Try.ntmps15
  go_wp2_with (first | (go_at_call 13; refine (raccess_any _ _ _ _ _ _ _ _ _ _).mono ?_; rintro e w1 ⟨rfl, hb⟩; have HS0 := ((state_alloc w s).alloc (.cells #[.int .i64 op, .int .i64 rd, .int .i64 rn, .int .i64 rm, .int .i64 ra, .int .i64 imm, .int .i64 cond, .bool wide] 26)).below hb; have HI0 := (ins_alloc2 w s op rd rn rm ra imm cond wide).below hb (by simp); have HB0 := (((Below.refl _ w).alloc (Nat.le_refl _) _).alloc (by simp) _).trans (hb.mono (by simp; omega)); have hlt : w.heap.size + 1 < w1.heap.size := (by have := hb.size; simp at this; omega); have HSo := Lib.hid (fun o => HS0.alloc o); have HIo := Lib.hid (fun o => HI0.alloc hlt o); have HBo := Lib.hid (fun o => HB0.alloc HB0.size o); have j0 : ∀ o, (w1.alloc o).cell? ⟨w.heap.size + 1, 0, none⟩ = _ := fun o => (HIo.out o).1; have j1 : ∀ o, (w1.alloc o).cell? ⟨w.heap.size + 1, 1, none⟩ = _ := fun o => (HIo.out o).2.1; have j2 : ∀ o, (w1.alloc o).cell? ⟨w.heap.size + 1, 2, none⟩ = _ := fun o => (HIo.out o).2.2.1; have j3 : ∀ o, (w1.alloc o).cell? ⟨w.heap.size + 1, 3, none⟩ = _ := fun o => (HIo.out o).2.2.2.1; have j4 : ∀ o, (w1.alloc o).cell? ⟨w.heap.size + 1, 4, none⟩ = _ := fun o => (HIo.out o).2.2.2.2.1; have j5 : ∀ o, (w1.alloc o).cell? ⟨w.heap.size + 1, 5, none⟩ = _ := fun o => (HIo.out o).2.2.2.2.2.1; have j6 : ∀ o, (w1.alloc o).cell? ⟨w.heap.size + 1, 6, none⟩ = _ := fun o => (HIo.out o).2.2.2.2.2.2.1; have j7 : ∀ o, (w1.alloc o).cell? ⟨w.heap.size + 1, 7, none⟩ = _ := fun o => (HIo.out o).2.2.2.2.2.2.2; clear hb HS0 HI0 HB0) | ((with_reducible apply wpList_store_acc (acc_alloc _ 0 0 0 false)); exact rfl; rw [World.setRow_alloc_new]) | (go_at_call 27; refine (rcheck_any _ _ _ _ _ _ _ _ _).mono ?_; rintro e w2 ⟨rfl, hb⟩; have HS := Lib.hid ((HSo.out _).below hb); have HI := Lib.hid ((HIo.out _).below hb (by simp; omega)); have HB := Lib.hid ((HBo.out _).trans (hb.mono (HBo.out _).size)); obtain ⟨i0, i1, i2, i3, i4, i5, i6, i7⟩ := HI.out; clear hb j0 j1 j2 j3 j4 j5 j6 j7) | (go_at_call 30; refine (rtaken_any _ _ _ _ _ _ _ _ _ _).mono ?_; rintro e w3 ⟨rfl, hb⟩; replace HB := Lib.hid (HB.out.trans (hb.mono HB.out.size)); clear hb) | ((with_reducible refine wpList_load_st ((state_alloc w s).alloc _) ?_ ?_); exact rfl) | ((with_reducible refine wpList_load_st HS.out ?_ ?_); exact rfl))
  go_ret
  refine ⟨wret_int ?_, HB.out⟩
  simp only [Cs.cycles, hz, hm, o17, ht, Bool.false_eq_true, if_false, if_true]
theorem rcycles_any (s : Cs.St) (op rd rn rm ra imm cond : Int) (wide : Bool) (w : World) :
    Calls Try.prog 15 #[.agg (Cs.cells s), .agg #[.int .i64 op, .int .i64 rd, .int .i64 rn, .int .i64 rm, .int .i64 ra, .int .i64 imm, .int .i64 cond, .bool wide]] w fun e w' => e = .returned (.int .i64 (Cs.cycles s ⟨op, rd, rn, rm, ra, imm, cond, wide⟩)) ∧ Below w.heap.size w w' := by
  cases hz : (Th.check ⟨op, rd, rn, rm, ra, imm, cond, wide⟩ != 0)
  · have hA : Cs.accessB ⟨op, rd, rn, rm, ra, imm, cond, wide⟩ = Cs.mem op := by simp [Cs.accessB, beq_of_bnf hz]
    cases hm : Cs.mem op
    · rw [hm] at hA
      by_cases h17 : op = 17
      · subst h17; exact rcycles_17 s rd rn rm ra imm cond wide w hz hA
      cases ht : Cs.taken s op cond
      · exact rcycles_of s op rd rn rm ra imm cond wide w hz hA hm (by simpa using h17) ht
      · exact rcycles_ot s op rd rn rm ra imm cond wide w hz hA hm (by simpa using h17) ht
    · rw [hm] at hA
      exact rcycles_m s op rd rn rm ra imm cond wide w hz hA hm
  · exact rcycles_a s op rd rn rm ra imm cond wide w hz
theorem rstep_any (s : Cs.St) (op rd rn rm ra imm cond l : Int) (wide : Bool) (w : World) :
    Calls Try.prog 10 #[.agg (Cs.cells s), .agg #[.int .i64 op, .int .i64 rd, .int .i64 rn, .int .i64 rm, .int .i64 ra, .int .i64 imm, .int .i64 cond, .bool wide], .int .i64 l] w fun e w' => e = .returned (.tuple #[.agg (Cs.cells (Cs.stepS s ⟨op, rd, rn, rm, ra, imm, cond, wide⟩ l)), .bool (Cs.stepB ⟨op, rd, rn, rm, ra, imm, cond, wide⟩)]) ∧ Below w.heap.size w w' := by
  cases hz : (Th.check ⟨op, rd, rn, rm, ra, imm, cond, wide⟩ != 0)
  · have hz0 : Th.check ⟨op, rd, rn, rm, ra, imm, cond, wide⟩ = 0 := beq_of_bnf hz
    have hz2 := Cs.check_size _ hz0
    by_cases h2 : op = 2
    · exact rstep_b s op rd rn rm ra imm cond l wide w hz hz2 (by simpa using h2)
    have hr := Cs.in_regs hz0
    simp only at hr
    obtain ⟨d, rfl⟩ := Int.eq_ofNat_of_zero_le hr.1.1
    obtain ⟨n, rfl⟩ := Int.eq_ofNat_of_zero_le hr.2.1.1
    obtain ⟨m, rfl⟩ := Int.eq_ofNat_of_zero_le hr.2.2.1
    have hd : d < 13 := by omega
    have hn : n < 13 := by omega
    have hm : m < 13 := by omega
    clear hr
    by_cases h24 : op = 24
    · subst h24; exact rstep_c24 s d n m ra imm cond l wide w hd hn hm hz hz2 rfl
    cases ht : Cs.taken (Cs.words s) op cond
    · by_cases h25 : op = 25
      · subst h25; exact rstep_n25 s d n m ra imm cond l wide w hd hn hm hz hz2 ht
      by_cases h1 : op = 1
      · subst h1; exact rstep_n1 s d n m ra imm cond l wide w hd hn hm hz hz2 ht
      by_cases h23 : op = 23
      · subst h23; exact rstep_23 s d n m ra imm cond l wide w hd hn hm hz hz2 ht
      by_cases h17 : op = 17
      · subst h17
        obtain ⟨a0, a1, -⟩ := Cs.in_17 hz0
        obtain ⟨a, rfl⟩ := Int.eq_ofNat_of_zero_le a0
        exact rstep_17 s d n m a imm cond l wide w hd hn hm (by omega) hz hz2 ht
      exact rstep_p s d n m op ra imm cond l wide w hd hn hm hz hz2 ht (by simpa using h2) (by simpa using h1) (by simpa using h23) (by simpa using h24) (by simpa using h25) (by simpa using h17)
    · by_cases h25 : op = 25
      · subst h25; exact rstep_c25 s d n m ra imm cond l wide w hd hn hm hz hz2 ht
      · exfalso
        simp [Cs.taken, h24, h25] at ht
  · have hz2 : (Th.size ⟨op, rd, rn, rm, ra, imm, cond, wide⟩ == 0) = true := by
      have hb : (Th.check ⟨op, rd, rn, rm, ra, imm, cond, wide⟩ == 0) = false := beq_of_bne hz
      unfold Th.size; rw [if_neg (by rw [hb]; decide)]; rfl
    exact rstep_a s op rd rn rm ra imm cond l wide w hz hz2
end Go.Proofs.Ytennhpfhgbmnfaa
