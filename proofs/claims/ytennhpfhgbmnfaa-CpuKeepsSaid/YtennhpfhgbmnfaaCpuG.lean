/-
  What Access and Cycles of package cpu, and of the document, return of any instruction; the document's Step.
-/
import Derived.Test.YtennhpfhgbmnfaaCpuF
import Derived.Test.YtennhpfhgbmnfaaCpuE2
import Derived.Test.YtennhpfhgbmnfaaCpuE3
namespace Go.Proofs.Ytennhpfhgbmnfaa
open Go.ChangeShapes Go.WideShapes Go.ChangeAt Go.RowKit
set_option linter.unusedVariables false
set_option linter.unusedSimpArgs false

theorem access_any (s : Cs.St) (op rd rn rm ra imm cond : Int) (wide : Bool) (w : World) :
    Calls Try.prog 12 #[.agg (Cs.cells s), .agg #[.int .i64 op, .int .i64 rd, .int .i64 rn, .int .i64 rm, .int .i64 ra, .int .i64 imm, .int .i64 cond, .bool wide]] w fun e w' => e = .returned (.tuple #[.agg #[.int .i64 (Cs.access s ⟨op, rd, rn, rm, ra, imm, cond, wide⟩).addr, .int .i64 (Cs.access s ⟨op, rd, rn, rm, ra, imm, cond, wide⟩).size, .int .i64 (Cs.access s ⟨op, rd, rn, rm, ra, imm, cond, wide⟩).value, .bool (Cs.access s ⟨op, rd, rn, rm, ra, imm, cond, wide⟩).write], .bool (Cs.accessB ⟨op, rd, rn, rm, ra, imm, cond, wide⟩)]) ∧ Below w.heap.size w w' := by
  cases hz : (Th.check ⟨op, rd, rn, rm, ra, imm, cond, wide⟩ != 0)
  · have hz' := hz
    have hz0 : Th.check ⟨op, rd, rn, rm, ra, imm, cond, wide⟩ = 0 := beq_of_bnf hz
    have hr := Cs.in_regs hz0
    have ho := Cs.in_ops hz0
    simp only at hr ho
    obtain ⟨d, rfl⟩ := Int.eq_ofNat_of_zero_le hr.1.1
    obtain ⟨n, rfl⟩ := Int.eq_ofNat_of_zero_le hr.2.1.1
    obtain ⟨m, rfl⟩ := Int.eq_ofNat_of_zero_le hr.2.2.1
    have hd : d < 13 := by omega
    have hn : n < 13 := by omega
    have hm : m < 13 := by omega
    by_cases h19 : op = 19
    · subst h19; exact access_19 s d n m ra imm cond wide w hd hn hz
    by_cases h20 : op = 20
    · subst h20; exact access_20 s d n m ra imm cond wide w hd hn hz
    by_cases h21 : op = 21
    · subst h21; exact access_21 s d n m ra imm cond wide w hd hn hz
    by_cases h22 : op = 22
    · subst h22; exact access_22 s d n m ra imm cond wide w hd hn hz
    exact access_o s op d n m ra imm cond wide w hd hn hz (by simpa using h19) (by simpa using h20) (by simpa using h21) (by simpa using h22)
  · exact access_a s op rd rn rm ra imm cond wide w hz
theorem ins_alloc2 (w : World) (s : Cs.St) (op rd rn rm ra imm cond : Int) (wide : Bool) : InsAt ((w.alloc (.cells (Cs.cells s) 24)).alloc (.cells #[.int .i64 op, .int .i64 rd, .int .i64 rn, .int .i64 rm, .int .i64 ra, .int .i64 imm, .int .i64 cond, .bool wide] 26)) (w.heap.size + 1) op rd rn rm ra imm cond wide := by
  have h := ins_alloc (w.alloc (.cells (Cs.cells s) 24)) 26 op rd rn rm ra imm cond wide
  simpa using h
set_option maxHeartbeats 4000000 in
set_option maxRecDepth 10000 in
theorem cycles_a (s : Cs.St) (op rd rn rm ra imm cond : Int) (wide : Bool) (w : World) (hz : (Th.check ⟨op, rd, rn, rm, ra, imm, cond, wide⟩ != 0) = true) :
    Calls Try.prog 14 #[.agg (Cs.cells s), .agg #[.int .i64 op, .int .i64 rd, .int .i64 rn, .int .i64 rm, .int .i64 ra, .int .i64 imm, .int .i64 cond, .bool wide]] w fun e w' => e = .returned (.int .i64 (Cs.cycles s ⟨op, rd, rn, rm, ra, imm, cond, wide⟩)) ∧ Below w.heap.size w w' := by
  go_enter Try.func14, Try.ntmps14
  go_wp2_with (first | (go_at_call 18; refine (check_any _ _ _ _ _ _ _ _ _).mono ?_; rintro e w1 ⟨rfl, hb⟩; have HS := Lib.hid (((state_alloc w s).alloc _).below hb); have HI := Lib.hid ((ins_alloc2 w s op rd rn rm ra imm cond wide).below hb (by simp)); have HB := Lib.hid ((((Below.refl _ w).alloc (Nat.le_refl _) _).alloc (by simp) _).trans (hb.mono (by simp; omega))); clear hb; obtain ⟨i0, i1, i2, i3, i4, i5, i6, i7⟩ := HI.out) | (go_at_call 23; refine (taken_any _ _ _ _ _ _ _ _ _ _).mono ?_; rintro e w2 ⟨rfl, hb⟩; replace HB := Lib.hid (HB.out.trans (hb.mono HB.out.size)); clear hb) | ((with_reducible refine wpList_load_st HS.out ?_ ?_); exact rfl))
  go_ret
  refine ⟨wret_int ?_, HB.out⟩
  simp only [Cs.cycles, hz, if_true]
set_option maxHeartbeats 4000000 in
set_option maxRecDepth 10000 in
theorem cycles_19 (s : Cs.St) (op rd rn rm ra imm cond : Int) (wide : Bool) (w : World) (hz : (Th.check ⟨op, rd, rn, rm, ra, imm, cond, wide⟩ != 0) = false) (ho : op = 19) :
    Calls Try.prog 14 #[.agg (Cs.cells s), .agg #[.int .i64 op, .int .i64 rd, .int .i64 rn, .int .i64 rm, .int .i64 ra, .int .i64 imm, .int .i64 cond, .bool wide]] w fun e w' => e = .returned (.int .i64 (Cs.cycles s ⟨op, rd, rn, rm, ra, imm, cond, wide⟩)) ∧ Below w.heap.size w w' := by
  subst ho
  go_enter Try.func14, Try.ntmps14
  go_wp2_with (first | (go_at_call 18; refine (check_any _ _ _ _ _ _ _ _ _).mono ?_; rintro e w1 ⟨rfl, hb⟩; have HS := Lib.hid (((state_alloc w s).alloc _).below hb); have HI := Lib.hid ((ins_alloc2 w s 19 rd rn rm ra imm cond wide).below hb (by simp)); have HB := Lib.hid ((((Below.refl _ w).alloc (Nat.le_refl _) _).alloc (by simp) _).trans (hb.mono (by simp; omega))); clear hb; obtain ⟨i0, i1, i2, i3, i4, i5, i6, i7⟩ := HI.out) | (go_at_call 23; refine (taken_any _ _ _ _ _ _ _ _ _ _).mono ?_; rintro e w2 ⟨rfl, hb⟩; replace HB := Lib.hid (HB.out.trans (hb.mono HB.out.size)); clear hb) | ((with_reducible refine wpList_load_st HS.out ?_ ?_); exact rfl))
  go_ret
  refine ⟨wret_int ?_, HB.out⟩
  simp only [Cs.cycles, Cs.mem, hz, Bool.false_eq_true, if_false]; rfl
set_option maxHeartbeats 4000000 in
set_option maxRecDepth 10000 in
theorem cycles_20 (s : Cs.St) (op rd rn rm ra imm cond : Int) (wide : Bool) (w : World) (hz : (Th.check ⟨op, rd, rn, rm, ra, imm, cond, wide⟩ != 0) = false) (ho : op = 20) :
    Calls Try.prog 14 #[.agg (Cs.cells s), .agg #[.int .i64 op, .int .i64 rd, .int .i64 rn, .int .i64 rm, .int .i64 ra, .int .i64 imm, .int .i64 cond, .bool wide]] w fun e w' => e = .returned (.int .i64 (Cs.cycles s ⟨op, rd, rn, rm, ra, imm, cond, wide⟩)) ∧ Below w.heap.size w w' := by
  subst ho
  go_enter Try.func14, Try.ntmps14
  go_wp2_with (first | (go_at_call 18; refine (check_any _ _ _ _ _ _ _ _ _).mono ?_; rintro e w1 ⟨rfl, hb⟩; have HS := Lib.hid (((state_alloc w s).alloc _).below hb); have HI := Lib.hid ((ins_alloc2 w s 20 rd rn rm ra imm cond wide).below hb (by simp)); have HB := Lib.hid ((((Below.refl _ w).alloc (Nat.le_refl _) _).alloc (by simp) _).trans (hb.mono (by simp; omega))); clear hb; obtain ⟨i0, i1, i2, i3, i4, i5, i6, i7⟩ := HI.out) | (go_at_call 23; refine (taken_any _ _ _ _ _ _ _ _ _ _).mono ?_; rintro e w2 ⟨rfl, hb⟩; replace HB := Lib.hid (HB.out.trans (hb.mono HB.out.size)); clear hb) | ((with_reducible refine wpList_load_st HS.out ?_ ?_); exact rfl))
  go_ret
  refine ⟨wret_int ?_, HB.out⟩
  simp only [Cs.cycles, Cs.mem, hz, Bool.false_eq_true, if_false]; rfl
set_option maxHeartbeats 4000000 in
set_option maxRecDepth 10000 in
theorem cycles_21 (s : Cs.St) (op rd rn rm ra imm cond : Int) (wide : Bool) (w : World) (hz : (Th.check ⟨op, rd, rn, rm, ra, imm, cond, wide⟩ != 0) = false) (ho : op = 21) :
    Calls Try.prog 14 #[.agg (Cs.cells s), .agg #[.int .i64 op, .int .i64 rd, .int .i64 rn, .int .i64 rm, .int .i64 ra, .int .i64 imm, .int .i64 cond, .bool wide]] w fun e w' => e = .returned (.int .i64 (Cs.cycles s ⟨op, rd, rn, rm, ra, imm, cond, wide⟩)) ∧ Below w.heap.size w w' := by
  subst ho
  go_enter Try.func14, Try.ntmps14
  go_wp2_with (first | (go_at_call 18; refine (check_any _ _ _ _ _ _ _ _ _).mono ?_; rintro e w1 ⟨rfl, hb⟩; have HS := Lib.hid (((state_alloc w s).alloc _).below hb); have HI := Lib.hid ((ins_alloc2 w s 21 rd rn rm ra imm cond wide).below hb (by simp)); have HB := Lib.hid ((((Below.refl _ w).alloc (Nat.le_refl _) _).alloc (by simp) _).trans (hb.mono (by simp; omega))); clear hb; obtain ⟨i0, i1, i2, i3, i4, i5, i6, i7⟩ := HI.out) | (go_at_call 23; refine (taken_any _ _ _ _ _ _ _ _ _ _).mono ?_; rintro e w2 ⟨rfl, hb⟩; replace HB := Lib.hid (HB.out.trans (hb.mono HB.out.size)); clear hb) | ((with_reducible refine wpList_load_st HS.out ?_ ?_); exact rfl))
  go_ret
  refine ⟨wret_int ?_, HB.out⟩
  simp only [Cs.cycles, Cs.mem, hz, Bool.false_eq_true, if_false]; rfl
set_option maxHeartbeats 4000000 in
set_option maxRecDepth 10000 in
theorem cycles_22 (s : Cs.St) (op rd rn rm ra imm cond : Int) (wide : Bool) (w : World) (hz : (Th.check ⟨op, rd, rn, rm, ra, imm, cond, wide⟩ != 0) = false) (ho : op = 22) :
    Calls Try.prog 14 #[.agg (Cs.cells s), .agg #[.int .i64 op, .int .i64 rd, .int .i64 rn, .int .i64 rm, .int .i64 ra, .int .i64 imm, .int .i64 cond, .bool wide]] w fun e w' => e = .returned (.int .i64 (Cs.cycles s ⟨op, rd, rn, rm, ra, imm, cond, wide⟩)) ∧ Below w.heap.size w w' := by
  subst ho
  go_enter Try.func14, Try.ntmps14
  go_wp2_with (first | (go_at_call 18; refine (check_any _ _ _ _ _ _ _ _ _).mono ?_; rintro e w1 ⟨rfl, hb⟩; have HS := Lib.hid (((state_alloc w s).alloc _).below hb); have HI := Lib.hid ((ins_alloc2 w s 22 rd rn rm ra imm cond wide).below hb (by simp)); have HB := Lib.hid ((((Below.refl _ w).alloc (Nat.le_refl _) _).alloc (by simp) _).trans (hb.mono (by simp; omega))); clear hb; obtain ⟨i0, i1, i2, i3, i4, i5, i6, i7⟩ := HI.out) | (go_at_call 23; refine (taken_any _ _ _ _ _ _ _ _ _ _).mono ?_; rintro e w2 ⟨rfl, hb⟩; replace HB := Lib.hid (HB.out.trans (hb.mono HB.out.size)); clear hb) | ((with_reducible refine wpList_load_st HS.out ?_ ?_); exact rfl))
  go_ret
  refine ⟨wret_int ?_, HB.out⟩
  simp only [Cs.cycles, Cs.mem, hz, Bool.false_eq_true, if_false]; rfl
set_option maxHeartbeats 4000000 in
set_option maxRecDepth 10000 in
theorem cycles_17 (s : Cs.St) (op rd rn rm ra imm cond : Int) (wide : Bool) (w : World) (hz : (Th.check ⟨op, rd, rn, rm, ra, imm, cond, wide⟩ != 0) = false) (ho : op = 17) :
    Calls Try.prog 14 #[.agg (Cs.cells s), .agg #[.int .i64 op, .int .i64 rd, .int .i64 rn, .int .i64 rm, .int .i64 ra, .int .i64 imm, .int .i64 cond, .bool wide]] w fun e w' => e = .returned (.int .i64 (Cs.cycles s ⟨op, rd, rn, rm, ra, imm, cond, wide⟩)) ∧ Below w.heap.size w w' := by
  subst ho
  go_enter Try.func14, Try.ntmps14
  go_wp2_with (first | (go_at_call 18; refine (check_any _ _ _ _ _ _ _ _ _).mono ?_; rintro e w1 ⟨rfl, hb⟩; have HS := Lib.hid (((state_alloc w s).alloc _).below hb); have HI := Lib.hid ((ins_alloc2 w s 17 rd rn rm ra imm cond wide).below hb (by simp)); have HB := Lib.hid ((((Below.refl _ w).alloc (Nat.le_refl _) _).alloc (by simp) _).trans (hb.mono (by simp; omega))); clear hb; obtain ⟨i0, i1, i2, i3, i4, i5, i6, i7⟩ := HI.out) | (go_at_call 23; refine (taken_any _ _ _ _ _ _ _ _ _ _).mono ?_; rintro e w2 ⟨rfl, hb⟩; replace HB := Lib.hid (HB.out.trans (hb.mono HB.out.size)); clear hb) | ((with_reducible refine wpList_load_st HS.out ?_ ?_); exact rfl))
  go_ret
  refine ⟨wret_int ?_, HB.out⟩
  simp only [Cs.cycles, Cs.mem, hz, Bool.false_eq_true, if_false]; rfl
set_option maxHeartbeats 4000000 in
set_option maxRecDepth 10000 in
theorem cycles_ot (s : Cs.St) (op rd rn rm ra imm cond : Int) (wide : Bool) (w : World) (hz : (Th.check ⟨op, rd, rn, rm, ra, imm, cond, wide⟩ != 0) = false) (o19 : (op == 19) = false) (o20 : (op == 20) = false) (o21 : (op == 21) = false) (o22 : (op == 22) = false) (o17 : (op == 17) = false) (ht : Cs.taken s op cond = true) :
    Calls Try.prog 14 #[.agg (Cs.cells s), .agg #[.int .i64 op, .int .i64 rd, .int .i64 rn, .int .i64 rm, .int .i64 ra, .int .i64 imm, .int .i64 cond, .bool wide]] w fun e w' => e = .returned (.int .i64 (Cs.cycles s ⟨op, rd, rn, rm, ra, imm, cond, wide⟩)) ∧ Below w.heap.size w w' := by
  go_enter Try.func14, Try.ntmps14
  go_wp2_with (first | (go_at_call 18; refine (check_any _ _ _ _ _ _ _ _ _).mono ?_; rintro e w1 ⟨rfl, hb⟩; have HS := Lib.hid (((state_alloc w s).alloc _).below hb); have HI := Lib.hid ((ins_alloc2 w s op rd rn rm ra imm cond wide).below hb (by simp)); have HB := Lib.hid ((((Below.refl _ w).alloc (Nat.le_refl _) _).alloc (by simp) _).trans (hb.mono (by simp; omega))); clear hb; obtain ⟨i0, i1, i2, i3, i4, i5, i6, i7⟩ := HI.out) | (go_at_call 23; refine (taken_any _ _ _ _ _ _ _ _ _ _).mono ?_; rintro e w2 ⟨rfl, hb⟩; replace HB := Lib.hid (HB.out.trans (hb.mono HB.out.size)); clear hb) | ((with_reducible refine wpList_load_st HS.out ?_ ?_); exact rfl))
  go_ret
  refine ⟨wret_int ?_, HB.out⟩
  simp only [Cs.cycles, Cs.mem, hz, o19, o20, o21, o22, o17, ht, Bool.or_false, Bool.false_eq_true, if_false, if_true]
set_option maxHeartbeats 4000000 in
set_option maxRecDepth 10000 in
theorem cycles_of (s : Cs.St) (op rd rn rm ra imm cond : Int) (wide : Bool) (w : World) (hz : (Th.check ⟨op, rd, rn, rm, ra, imm, cond, wide⟩ != 0) = false) (o19 : (op == 19) = false) (o20 : (op == 20) = false) (o21 : (op == 21) = false) (o22 : (op == 22) = false) (o17 : (op == 17) = false) (ht : Cs.taken s op cond = false) :
    Calls Try.prog 14 #[.agg (Cs.cells s), .agg #[.int .i64 op, .int .i64 rd, .int .i64 rn, .int .i64 rm, .int .i64 ra, .int .i64 imm, .int .i64 cond, .bool wide]] w fun e w' => e = .returned (.int .i64 (Cs.cycles s ⟨op, rd, rn, rm, ra, imm, cond, wide⟩)) ∧ Below w.heap.size w w' := by
  go_enter Try.func14, Try.ntmps14
  go_wp2_with (first | (go_at_call 18; refine (check_any _ _ _ _ _ _ _ _ _).mono ?_; rintro e w1 ⟨rfl, hb⟩; have HS := Lib.hid (((state_alloc w s).alloc _).below hb); have HI := Lib.hid ((ins_alloc2 w s op rd rn rm ra imm cond wide).below hb (by simp)); have HB := Lib.hid ((((Below.refl _ w).alloc (Nat.le_refl _) _).alloc (by simp) _).trans (hb.mono (by simp; omega))); clear hb; obtain ⟨i0, i1, i2, i3, i4, i5, i6, i7⟩ := HI.out) | (go_at_call 23; refine (taken_any _ _ _ _ _ _ _ _ _ _).mono ?_; rintro e w2 ⟨rfl, hb⟩; replace HB := Lib.hid (HB.out.trans (hb.mono HB.out.size)); clear hb) | ((with_reducible refine wpList_load_st HS.out ?_ ?_); exact rfl))
  go_ret
  refine ⟨wret_int ?_, HB.out⟩
  simp only [Cs.cycles, Cs.mem, hz, o19, o20, o21, o22, o17, ht, Bool.or_false, Bool.false_eq_true, if_false, if_true]
theorem cycles_any (s : Cs.St) (op rd rn rm ra imm cond : Int) (wide : Bool) (w : World) :
    Calls Try.prog 14 #[.agg (Cs.cells s), .agg #[.int .i64 op, .int .i64 rd, .int .i64 rn, .int .i64 rm, .int .i64 ra, .int .i64 imm, .int .i64 cond, .bool wide]] w fun e w' => e = .returned (.int .i64 (Cs.cycles s ⟨op, rd, rn, rm, ra, imm, cond, wide⟩)) ∧ Below w.heap.size w w' := by
  cases hz : (Th.check ⟨op, rd, rn, rm, ra, imm, cond, wide⟩ != 0)
  · by_cases h19 : op = 19
    · exact cycles_19 s op rd rn rm ra imm cond wide w hz h19
    by_cases h20 : op = 20
    · exact cycles_20 s op rd rn rm ra imm cond wide w hz h20
    by_cases h21 : op = 21
    · exact cycles_21 s op rd rn rm ra imm cond wide w hz h21
    by_cases h22 : op = 22
    · exact cycles_22 s op rd rn rm ra imm cond wide w hz h22
    by_cases h17 : op = 17
    · exact cycles_17 s op rd rn rm ra imm cond wide w hz h17
    cases ht : Cs.taken s op cond
    · exact cycles_of s op rd rn rm ra imm cond wide w hz (by simpa using h19) (by simpa using h20) (by simpa using h21) (by simpa using h22) (by simpa using h17) ht
    · exact cycles_ot s op rd rn rm ra imm cond wide w hz (by simpa using h19) (by simpa using h20) (by simpa using h21) (by simpa using h22) (by simpa using h17) ht
  · exact cycles_a s op rd rn rm ra imm cond wide w hz
abbrev Cs.azero : Array Value := #[.int .i64 0, .int .i64 0, .int .i64 0, .bool false]
theorem acc_alloc (W : World) (x y z : Int) (v : Bool) : AccAt (W.alloc (.cells #[.int .i64 x, .int .i64 y, .int .i64 z, .bool v] 32)) W.heap.size ⟨x, y, z, v⟩ := heap_alloc_last W _
set_option maxHeartbeats 4000000 in
set_option maxRecDepth 10000 in
theorem raccess_b19 (s : Cs.St) (rd rn rm ra imm cond : Int) (wide : Bool) (w : World) (hz : (Th.check ⟨19, rd, rn, rm, ra, imm, cond, wide⟩ != 0) = true) :
    Calls Try.prog 13 #[.agg (Cs.cells s), .agg #[.int .i64 19, .int .i64 rd, .int .i64 rn, .int .i64 rm, .int .i64 ra, .int .i64 imm, .int .i64 cond, .bool wide]] w fun e w' => e = .returned (.tuple #[.agg #[.int .i64 (Cs.access s ⟨19, rd, rn, rm, ra, imm, cond, wide⟩).addr, .int .i64 (Cs.access s ⟨19, rd, rn, rm, ra, imm, cond, wide⟩).size, .int .i64 (Cs.access s ⟨19, rd, rn, rm, ra, imm, cond, wide⟩).value, .bool (Cs.access s ⟨19, rd, rn, rm, ra, imm, cond, wide⟩).write], .bool (Cs.accessB ⟨19, rd, rn, rm, ra, imm, cond, wide⟩)]) ∧ Below w.heap.size w w' := by
  have H := Lib.hid (CpuA.new w s 19 rd rn rm ra imm cond wide)
  go_enter Try.func13, Try.ntmps13
  go_wp2_with (first | go_skip | (go_at_call 27; refine (rcheck_any _ _ _ _ _ _ _ _ _).mono ?_; rintro e w1 ⟨rfl, hb⟩; replace H := Lib.hid (H.out.kept hb); obtain ⟨i0, i1, i2, i3, i4, i5, i6, i7⟩ := H.out.ins; have a0 := H.out.res.c0; have a1 := H.out.res.c1; have a2 := H.out.res.c2; have a3 := H.out.res.c3; have af := H.out.res.open; clear hb) | ((with_reducible apply wpList_store_acc H.out.res); exact rfl))
  try simp only [Exit.inBlock, Exit.then]
  refine bp_acc2 rfl rfl (H.out.res.row _ _ _ _) rfl ⟨?_, below_setRow H.out.bel (by omega) _⟩
  rw [show Cs.access s ⟨19, rd, rn, rm, ra, imm, cond, wide⟩ = ⟨0, 0, 0, false⟩ by simp only [Cs.access, hz, if_true], show Cs.accessB ⟨19, rd, rn, rm, ra, imm, cond, wide⟩ = false by simp [Cs.accessB, beq_of_bne hz]]
  rfl
set_option maxHeartbeats 4000000 in
set_option maxRecDepth 10000 in
theorem raccess_19 (s : Cs.St) (rd rn rm : Nat) (ra imm cond : Int) (wide : Bool) (w : World) (hd : rd < 13) (hn : rn < 13) (hz : (Th.check ⟨19, (rd : Int), (rn : Int), (rm : Int), ra, imm, cond, wide⟩ != 0) = false) :
    Calls Try.prog 13 #[.agg (Cs.cells s), .agg #[.int .i64 19, .int .i64 (rd : Int), .int .i64 (rn : Int), .int .i64 (rm : Int), .int .i64 ra, .int .i64 imm, .int .i64 cond, .bool wide]] w fun e w' => e = .returned (.tuple #[.agg #[.int .i64 (Cs.access s ⟨19, (rd : Int), (rn : Int), (rm : Int), ra, imm, cond, wide⟩).addr, .int .i64 (Cs.access s ⟨19, (rd : Int), (rn : Int), (rm : Int), ra, imm, cond, wide⟩).size, .int .i64 (Cs.access s ⟨19, (rd : Int), (rn : Int), (rm : Int), ra, imm, cond, wide⟩).value, .bool (Cs.access s ⟨19, (rd : Int), (rn : Int), (rm : Int), ra, imm, cond, wide⟩).write], .bool (Cs.accessB ⟨19, (rd : Int), (rn : Int), (rm : Int), ra, imm, cond, wide⟩)]) ∧ Below w.heap.size w w' := by
  have bd : (rd : Int) < 15 := by omega
  have bn : (rn : Int) < 15 := by omega
  have bd0 : (0 : Int) ≤ (rd : Int) := by omega
  have bn0 : (0 : Int) ≤ (rn : Int) := by omega
  have H := Lib.hid (CpuA.new w s 19 (rd : Int) (rn : Int) (rm : Int) ra imm cond wide)
  have hwb := Wd.wrap_bd (s.r rd)
  have hmod : (Wd.wrap (s.r rd)).tmod 256 = Wd.wrap (s.r rd) % 256 := Int.tmod_eq_emod_of_nonneg hwb.1
  have h0m : (0 : Int).tmod 256 = 0 := rfl
  go_enter Try.func13, Try.ntmps13
  go_wp2_with (first | go_skip | (go_at_call 27; refine (rcheck_any _ _ _ _ _ _ _ _ _).mono ?_; rintro e w1 ⟨rfl, hb⟩; replace H := Lib.hid (H.out.kept hb); obtain ⟨i0, i1, i2, i3, i4, i5, i6, i7⟩ := H.out.ins; have a0 := H.out.res.c0; have a1 := H.out.res.c1; have a2 := H.out.res.c2; have a3 := H.out.res.c3; have af := H.out.res.open; have jo : ∀ o, (w1.alloc o).cell? ⟨w.heap.size + 1, 0, none⟩ = _ := fun o => (H.out.ins.alloc (by have := H.out.res.lt; omega) o).1; have jd : ∀ o, (w1.alloc o).cell? ⟨w.heap.size + 1, 1, none⟩ = _ := fun o => (H.out.ins.alloc (by have := H.out.res.lt; omega) o).2.1; have sdo : ∀ o, (w1.alloc o).cell? ⟨w.heap.size, rd, none⟩ = _ := fun o => (H.out.st.alloc o).reg rd (by omega); have sd := H.out.st.reg rd (by omega); have sn := H.out.st.reg rn (by omega); clear hb) | (go_at_call 28; refine (rwrap_any _ _).mono ?_; rintro e w' ⟨rfl, rfl⟩) | ((with_reducible apply wpList_store_acc (acc_alloc _ 0 0 0 false)); exact rfl; rw [World.setRow_alloc_new]) | ((with_reducible refine wpList_load_acc (acc_alloc _ _ _ _ _) ?_ ?_); exact rfl) | ((with_reducible apply wpList_store_acc (H.out.kept ((Below.refl _ _).alloc (Nat.le_refl _) _)).res); exact rfl))
  try simp only [Exit.inBlock, Exit.then]
  refine bp_acc2 rfl rfl ((H.out.kept ((Below.refl _ _).alloc (Nat.le_refl _) _)).res.row _ _ _ _) rfl ⟨?_, below_setRow (H.out.kept ((Below.refl _ _).alloc (Nat.le_refl _) _)).bel (by omega) _⟩
  rw [show Cs.access s ⟨19, (rd : Int), (rn : Int), (rm : Int), ra, imm, cond, wide⟩ = ⟨Wd.wrap (s.r rn), 4, 0, false⟩ by simp only [Cs.access, hz, Bool.false_eq_true, if_false]; rfl, show Cs.accessB ⟨19, (rd : Int), (rn : Int), (rm : Int), ra, imm, cond, wide⟩ = true by simp [Cs.accessB, Cs.mem, beq_of_bnf hz]]
  rfl
set_option maxHeartbeats 4000000 in
set_option maxRecDepth 10000 in
theorem raccess_b20 (s : Cs.St) (rd rn rm ra imm cond : Int) (wide : Bool) (w : World) (hz : (Th.check ⟨20, rd, rn, rm, ra, imm, cond, wide⟩ != 0) = true) :
    Calls Try.prog 13 #[.agg (Cs.cells s), .agg #[.int .i64 20, .int .i64 rd, .int .i64 rn, .int .i64 rm, .int .i64 ra, .int .i64 imm, .int .i64 cond, .bool wide]] w fun e w' => e = .returned (.tuple #[.agg #[.int .i64 (Cs.access s ⟨20, rd, rn, rm, ra, imm, cond, wide⟩).addr, .int .i64 (Cs.access s ⟨20, rd, rn, rm, ra, imm, cond, wide⟩).size, .int .i64 (Cs.access s ⟨20, rd, rn, rm, ra, imm, cond, wide⟩).value, .bool (Cs.access s ⟨20, rd, rn, rm, ra, imm, cond, wide⟩).write], .bool (Cs.accessB ⟨20, rd, rn, rm, ra, imm, cond, wide⟩)]) ∧ Below w.heap.size w w' := by
  have H := Lib.hid (CpuA.new w s 20 rd rn rm ra imm cond wide)
  go_enter Try.func13, Try.ntmps13
  go_wp2_with (first | go_skip | (go_at_call 27; refine (rcheck_any _ _ _ _ _ _ _ _ _).mono ?_; rintro e w1 ⟨rfl, hb⟩; replace H := Lib.hid (H.out.kept hb); obtain ⟨i0, i1, i2, i3, i4, i5, i6, i7⟩ := H.out.ins; have a0 := H.out.res.c0; have a1 := H.out.res.c1; have a2 := H.out.res.c2; have a3 := H.out.res.c3; have af := H.out.res.open; clear hb) | ((with_reducible apply wpList_store_acc H.out.res); exact rfl))
  try simp only [Exit.inBlock, Exit.then]
  refine bp_acc2 rfl rfl (H.out.res.row _ _ _ _) rfl ⟨?_, below_setRow H.out.bel (by omega) _⟩
  rw [show Cs.access s ⟨20, rd, rn, rm, ra, imm, cond, wide⟩ = ⟨0, 0, 0, false⟩ by simp only [Cs.access, hz, if_true], show Cs.accessB ⟨20, rd, rn, rm, ra, imm, cond, wide⟩ = false by simp [Cs.accessB, beq_of_bne hz]]
  rfl
set_option maxHeartbeats 4000000 in
set_option maxRecDepth 10000 in
theorem raccess_20 (s : Cs.St) (rd rn rm : Nat) (ra imm cond : Int) (wide : Bool) (w : World) (hd : rd < 13) (hn : rn < 13) (hz : (Th.check ⟨20, (rd : Int), (rn : Int), (rm : Int), ra, imm, cond, wide⟩ != 0) = false) :
    Calls Try.prog 13 #[.agg (Cs.cells s), .agg #[.int .i64 20, .int .i64 (rd : Int), .int .i64 (rn : Int), .int .i64 (rm : Int), .int .i64 ra, .int .i64 imm, .int .i64 cond, .bool wide]] w fun e w' => e = .returned (.tuple #[.agg #[.int .i64 (Cs.access s ⟨20, (rd : Int), (rn : Int), (rm : Int), ra, imm, cond, wide⟩).addr, .int .i64 (Cs.access s ⟨20, (rd : Int), (rn : Int), (rm : Int), ra, imm, cond, wide⟩).size, .int .i64 (Cs.access s ⟨20, (rd : Int), (rn : Int), (rm : Int), ra, imm, cond, wide⟩).value, .bool (Cs.access s ⟨20, (rd : Int), (rn : Int), (rm : Int), ra, imm, cond, wide⟩).write], .bool (Cs.accessB ⟨20, (rd : Int), (rn : Int), (rm : Int), ra, imm, cond, wide⟩)]) ∧ Below w.heap.size w w' := by
  have bd : (rd : Int) < 15 := by omega
  have bn : (rn : Int) < 15 := by omega
  have bd0 : (0 : Int) ≤ (rd : Int) := by omega
  have bn0 : (0 : Int) ≤ (rn : Int) := by omega
  have H := Lib.hid (CpuA.new w s 20 (rd : Int) (rn : Int) (rm : Int) ra imm cond wide)
  have hwb := Wd.wrap_bd (s.r rd)
  have hmod : (Wd.wrap (s.r rd)).tmod 256 = Wd.wrap (s.r rd) % 256 := Int.tmod_eq_emod_of_nonneg hwb.1
  have h0m : (0 : Int).tmod 256 = 0 := rfl
  go_enter Try.func13, Try.ntmps13
  go_wp2_with (first | go_skip | (go_at_call 27; refine (rcheck_any _ _ _ _ _ _ _ _ _).mono ?_; rintro e w1 ⟨rfl, hb⟩; replace H := Lib.hid (H.out.kept hb); obtain ⟨i0, i1, i2, i3, i4, i5, i6, i7⟩ := H.out.ins; have a0 := H.out.res.c0; have a1 := H.out.res.c1; have a2 := H.out.res.c2; have a3 := H.out.res.c3; have af := H.out.res.open; have jo : ∀ o, (w1.alloc o).cell? ⟨w.heap.size + 1, 0, none⟩ = _ := fun o => (H.out.ins.alloc (by have := H.out.res.lt; omega) o).1; have jd : ∀ o, (w1.alloc o).cell? ⟨w.heap.size + 1, 1, none⟩ = _ := fun o => (H.out.ins.alloc (by have := H.out.res.lt; omega) o).2.1; have sdo : ∀ o, (w1.alloc o).cell? ⟨w.heap.size, rd, none⟩ = _ := fun o => (H.out.st.alloc o).reg rd (by omega); have sd := H.out.st.reg rd (by omega); have sn := H.out.st.reg rn (by omega); clear hb) | (go_at_call 28; refine (rwrap_any _ _).mono ?_; rintro e w' ⟨rfl, rfl⟩) | ((with_reducible apply wpList_store_acc (acc_alloc _ 0 0 0 false)); exact rfl; rw [World.setRow_alloc_new]) | ((with_reducible refine wpList_load_acc (acc_alloc _ _ _ _ _) ?_ ?_); exact rfl) | ((with_reducible apply wpList_store_acc (H.out.kept ((Below.refl _ _).alloc (Nat.le_refl _) _)).res); exact rfl))
  try simp only [Exit.inBlock, Exit.then]
  refine bp_acc2 rfl rfl ((H.out.kept ((Below.refl _ _).alloc (Nat.le_refl _) _)).res.row _ _ _ _) rfl ⟨?_, below_setRow (H.out.kept ((Below.refl _ _).alloc (Nat.le_refl _) _)).bel (by omega) _⟩
  rw [show Cs.access s ⟨20, (rd : Int), (rn : Int), (rm : Int), ra, imm, cond, wide⟩ = ⟨Wd.wrap (s.r rn), 4, Wd.wrap (s.r rd), true⟩ by simp only [Cs.access, hz, Bool.false_eq_true, if_false]; rfl, show Cs.accessB ⟨20, (rd : Int), (rn : Int), (rm : Int), ra, imm, cond, wide⟩ = true by simp [Cs.accessB, Cs.mem, beq_of_bnf hz]]
  rfl
set_option maxHeartbeats 4000000 in
set_option maxRecDepth 10000 in
theorem raccess_b21 (s : Cs.St) (rd rn rm ra imm cond : Int) (wide : Bool) (w : World) (hz : (Th.check ⟨21, rd, rn, rm, ra, imm, cond, wide⟩ != 0) = true) :
    Calls Try.prog 13 #[.agg (Cs.cells s), .agg #[.int .i64 21, .int .i64 rd, .int .i64 rn, .int .i64 rm, .int .i64 ra, .int .i64 imm, .int .i64 cond, .bool wide]] w fun e w' => e = .returned (.tuple #[.agg #[.int .i64 (Cs.access s ⟨21, rd, rn, rm, ra, imm, cond, wide⟩).addr, .int .i64 (Cs.access s ⟨21, rd, rn, rm, ra, imm, cond, wide⟩).size, .int .i64 (Cs.access s ⟨21, rd, rn, rm, ra, imm, cond, wide⟩).value, .bool (Cs.access s ⟨21, rd, rn, rm, ra, imm, cond, wide⟩).write], .bool (Cs.accessB ⟨21, rd, rn, rm, ra, imm, cond, wide⟩)]) ∧ Below w.heap.size w w' := by
  have H := Lib.hid (CpuA.new w s 21 rd rn rm ra imm cond wide)
  go_enter Try.func13, Try.ntmps13
  go_wp2_with (first | go_skip | (go_at_call 27; refine (rcheck_any _ _ _ _ _ _ _ _ _).mono ?_; rintro e w1 ⟨rfl, hb⟩; replace H := Lib.hid (H.out.kept hb); obtain ⟨i0, i1, i2, i3, i4, i5, i6, i7⟩ := H.out.ins; have a0 := H.out.res.c0; have a1 := H.out.res.c1; have a2 := H.out.res.c2; have a3 := H.out.res.c3; have af := H.out.res.open; clear hb) | ((with_reducible apply wpList_store_acc H.out.res); exact rfl))
  try simp only [Exit.inBlock, Exit.then]
  refine bp_acc2 rfl rfl (H.out.res.row _ _ _ _) rfl ⟨?_, below_setRow H.out.bel (by omega) _⟩
  rw [show Cs.access s ⟨21, rd, rn, rm, ra, imm, cond, wide⟩ = ⟨0, 0, 0, false⟩ by simp only [Cs.access, hz, if_true], show Cs.accessB ⟨21, rd, rn, rm, ra, imm, cond, wide⟩ = false by simp [Cs.accessB, beq_of_bne hz]]
  rfl
set_option maxHeartbeats 4000000 in
set_option maxRecDepth 10000 in
theorem raccess_21 (s : Cs.St) (rd rn rm : Nat) (ra imm cond : Int) (wide : Bool) (w : World) (hd : rd < 13) (hn : rn < 13) (hz : (Th.check ⟨21, (rd : Int), (rn : Int), (rm : Int), ra, imm, cond, wide⟩ != 0) = false) :
    Calls Try.prog 13 #[.agg (Cs.cells s), .agg #[.int .i64 21, .int .i64 (rd : Int), .int .i64 (rn : Int), .int .i64 (rm : Int), .int .i64 ra, .int .i64 imm, .int .i64 cond, .bool wide]] w fun e w' => e = .returned (.tuple #[.agg #[.int .i64 (Cs.access s ⟨21, (rd : Int), (rn : Int), (rm : Int), ra, imm, cond, wide⟩).addr, .int .i64 (Cs.access s ⟨21, (rd : Int), (rn : Int), (rm : Int), ra, imm, cond, wide⟩).size, .int .i64 (Cs.access s ⟨21, (rd : Int), (rn : Int), (rm : Int), ra, imm, cond, wide⟩).value, .bool (Cs.access s ⟨21, (rd : Int), (rn : Int), (rm : Int), ra, imm, cond, wide⟩).write], .bool (Cs.accessB ⟨21, (rd : Int), (rn : Int), (rm : Int), ra, imm, cond, wide⟩)]) ∧ Below w.heap.size w w' := by
  have bd : (rd : Int) < 15 := by omega
  have bn : (rn : Int) < 15 := by omega
  have bd0 : (0 : Int) ≤ (rd : Int) := by omega
  have bn0 : (0 : Int) ≤ (rn : Int) := by omega
  have H := Lib.hid (CpuA.new w s 21 (rd : Int) (rn : Int) (rm : Int) ra imm cond wide)
  have hwb := Wd.wrap_bd (s.r rd)
  have hmod : (Wd.wrap (s.r rd)).tmod 256 = Wd.wrap (s.r rd) % 256 := Int.tmod_eq_emod_of_nonneg hwb.1
  have h0m : (0 : Int).tmod 256 = 0 := rfl
  go_enter Try.func13, Try.ntmps13
  go_wp2_with (first | go_skip | (go_at_call 27; refine (rcheck_any _ _ _ _ _ _ _ _ _).mono ?_; rintro e w1 ⟨rfl, hb⟩; replace H := Lib.hid (H.out.kept hb); obtain ⟨i0, i1, i2, i3, i4, i5, i6, i7⟩ := H.out.ins; have a0 := H.out.res.c0; have a1 := H.out.res.c1; have a2 := H.out.res.c2; have a3 := H.out.res.c3; have af := H.out.res.open; have jo : ∀ o, (w1.alloc o).cell? ⟨w.heap.size + 1, 0, none⟩ = _ := fun o => (H.out.ins.alloc (by have := H.out.res.lt; omega) o).1; have jd : ∀ o, (w1.alloc o).cell? ⟨w.heap.size + 1, 1, none⟩ = _ := fun o => (H.out.ins.alloc (by have := H.out.res.lt; omega) o).2.1; have sdo : ∀ o, (w1.alloc o).cell? ⟨w.heap.size, rd, none⟩ = _ := fun o => (H.out.st.alloc o).reg rd (by omega); have sd := H.out.st.reg rd (by omega); have sn := H.out.st.reg rn (by omega); clear hb) | (go_at_call 28; refine (rwrap_any _ _).mono ?_; rintro e w' ⟨rfl, rfl⟩) | ((with_reducible apply wpList_store_acc (acc_alloc _ 0 0 0 false)); exact rfl; rw [World.setRow_alloc_new]) | ((with_reducible refine wpList_load_acc (acc_alloc _ _ _ _ _) ?_ ?_); exact rfl) | ((with_reducible apply wpList_store_acc (H.out.kept ((Below.refl _ _).alloc (Nat.le_refl _) _)).res); exact rfl))
  try simp only [Exit.inBlock, Exit.then]
  refine bp_acc2 rfl rfl ((H.out.kept ((Below.refl _ _).alloc (Nat.le_refl _) _)).res.row _ _ _ _) rfl ⟨?_, below_setRow (H.out.kept ((Below.refl _ _).alloc (Nat.le_refl _) _)).bel (by omega) _⟩
  rw [show Cs.access s ⟨21, (rd : Int), (rn : Int), (rm : Int), ra, imm, cond, wide⟩ = ⟨Wd.wrap (s.r rn), 1, 0, false⟩ by simp only [Cs.access, hz, Bool.false_eq_true, if_false]; rfl, show Cs.accessB ⟨21, (rd : Int), (rn : Int), (rm : Int), ra, imm, cond, wide⟩ = true by simp [Cs.accessB, Cs.mem, beq_of_bnf hz]]
  rfl
set_option maxHeartbeats 4000000 in
set_option maxRecDepth 10000 in
theorem raccess_b22 (s : Cs.St) (rd rn rm ra imm cond : Int) (wide : Bool) (w : World) (hz : (Th.check ⟨22, rd, rn, rm, ra, imm, cond, wide⟩ != 0) = true) :
    Calls Try.prog 13 #[.agg (Cs.cells s), .agg #[.int .i64 22, .int .i64 rd, .int .i64 rn, .int .i64 rm, .int .i64 ra, .int .i64 imm, .int .i64 cond, .bool wide]] w fun e w' => e = .returned (.tuple #[.agg #[.int .i64 (Cs.access s ⟨22, rd, rn, rm, ra, imm, cond, wide⟩).addr, .int .i64 (Cs.access s ⟨22, rd, rn, rm, ra, imm, cond, wide⟩).size, .int .i64 (Cs.access s ⟨22, rd, rn, rm, ra, imm, cond, wide⟩).value, .bool (Cs.access s ⟨22, rd, rn, rm, ra, imm, cond, wide⟩).write], .bool (Cs.accessB ⟨22, rd, rn, rm, ra, imm, cond, wide⟩)]) ∧ Below w.heap.size w w' := by
  have H := Lib.hid (CpuA.new w s 22 rd rn rm ra imm cond wide)
  go_enter Try.func13, Try.ntmps13
  go_wp2_with (first | go_skip | (go_at_call 27; refine (rcheck_any _ _ _ _ _ _ _ _ _).mono ?_; rintro e w1 ⟨rfl, hb⟩; replace H := Lib.hid (H.out.kept hb); obtain ⟨i0, i1, i2, i3, i4, i5, i6, i7⟩ := H.out.ins; have a0 := H.out.res.c0; have a1 := H.out.res.c1; have a2 := H.out.res.c2; have a3 := H.out.res.c3; have af := H.out.res.open; clear hb) | ((with_reducible apply wpList_store_acc H.out.res); exact rfl))
  try simp only [Exit.inBlock, Exit.then]
  refine bp_acc2 rfl rfl (H.out.res.row _ _ _ _) rfl ⟨?_, below_setRow H.out.bel (by omega) _⟩
  rw [show Cs.access s ⟨22, rd, rn, rm, ra, imm, cond, wide⟩ = ⟨0, 0, 0, false⟩ by simp only [Cs.access, hz, if_true], show Cs.accessB ⟨22, rd, rn, rm, ra, imm, cond, wide⟩ = false by simp [Cs.accessB, beq_of_bne hz]]
  rfl
set_option maxHeartbeats 4000000 in
set_option maxRecDepth 10000 in
theorem raccess_22 (s : Cs.St) (rd rn rm : Nat) (ra imm cond : Int) (wide : Bool) (w : World) (hd : rd < 13) (hn : rn < 13) (hz : (Th.check ⟨22, (rd : Int), (rn : Int), (rm : Int), ra, imm, cond, wide⟩ != 0) = false) :
    Calls Try.prog 13 #[.agg (Cs.cells s), .agg #[.int .i64 22, .int .i64 (rd : Int), .int .i64 (rn : Int), .int .i64 (rm : Int), .int .i64 ra, .int .i64 imm, .int .i64 cond, .bool wide]] w fun e w' => e = .returned (.tuple #[.agg #[.int .i64 (Cs.access s ⟨22, (rd : Int), (rn : Int), (rm : Int), ra, imm, cond, wide⟩).addr, .int .i64 (Cs.access s ⟨22, (rd : Int), (rn : Int), (rm : Int), ra, imm, cond, wide⟩).size, .int .i64 (Cs.access s ⟨22, (rd : Int), (rn : Int), (rm : Int), ra, imm, cond, wide⟩).value, .bool (Cs.access s ⟨22, (rd : Int), (rn : Int), (rm : Int), ra, imm, cond, wide⟩).write], .bool (Cs.accessB ⟨22, (rd : Int), (rn : Int), (rm : Int), ra, imm, cond, wide⟩)]) ∧ Below w.heap.size w w' := by
  have bd : (rd : Int) < 15 := by omega
  have bn : (rn : Int) < 15 := by omega
  have bd0 : (0 : Int) ≤ (rd : Int) := by omega
  have bn0 : (0 : Int) ≤ (rn : Int) := by omega
  have H := Lib.hid (CpuA.new w s 22 (rd : Int) (rn : Int) (rm : Int) ra imm cond wide)
  have hwb := Wd.wrap_bd (s.r rd)
  have hmod : (Wd.wrap (s.r rd)).tmod 256 = Wd.wrap (s.r rd) % 256 := Int.tmod_eq_emod_of_nonneg hwb.1
  have h0m : (0 : Int).tmod 256 = 0 := rfl
  go_enter Try.func13, Try.ntmps13
  go_wp2_with (first | go_skip | (go_at_call 27; refine (rcheck_any _ _ _ _ _ _ _ _ _).mono ?_; rintro e w1 ⟨rfl, hb⟩; replace H := Lib.hid (H.out.kept hb); obtain ⟨i0, i1, i2, i3, i4, i5, i6, i7⟩ := H.out.ins; have a0 := H.out.res.c0; have a1 := H.out.res.c1; have a2 := H.out.res.c2; have a3 := H.out.res.c3; have af := H.out.res.open; have jo : ∀ o, (w1.alloc o).cell? ⟨w.heap.size + 1, 0, none⟩ = _ := fun o => (H.out.ins.alloc (by have := H.out.res.lt; omega) o).1; have jd : ∀ o, (w1.alloc o).cell? ⟨w.heap.size + 1, 1, none⟩ = _ := fun o => (H.out.ins.alloc (by have := H.out.res.lt; omega) o).2.1; have sdo : ∀ o, (w1.alloc o).cell? ⟨w.heap.size, rd, none⟩ = _ := fun o => (H.out.st.alloc o).reg rd (by omega); have sd := H.out.st.reg rd (by omega); have sn := H.out.st.reg rn (by omega); clear hb) | (go_at_call 28; refine (rwrap_any _ _).mono ?_; rintro e w' ⟨rfl, rfl⟩) | ((with_reducible apply wpList_store_acc (acc_alloc _ 0 0 0 false)); exact rfl; rw [World.setRow_alloc_new]) | ((with_reducible refine wpList_load_acc (acc_alloc _ _ _ _ _) ?_ ?_); exact rfl) | ((with_reducible apply wpList_store_acc (H.out.kept ((Below.refl _ _).alloc (Nat.le_refl _) _)).res); exact rfl))
  try simp only [Exit.inBlock, Exit.then]
  refine bp_acc2 rfl rfl ((H.out.kept ((Below.refl _ _).alloc (Nat.le_refl _) _)).res.row _ _ _ _) rfl ⟨?_, below_setRow (H.out.kept ((Below.refl _ _).alloc (Nat.le_refl _) _)).bel (by omega) _⟩
  rw [show Cs.access s ⟨22, (rd : Int), (rn : Int), (rm : Int), ra, imm, cond, wide⟩ = ⟨Wd.wrap (s.r rn), 1, Wd.wrap (s.r rd) % 256, true⟩ by simp only [Cs.access, hz, Bool.false_eq_true, if_false]; rfl, show Cs.accessB ⟨22, (rd : Int), (rn : Int), (rm : Int), ra, imm, cond, wide⟩ = true by simp [Cs.accessB, Cs.mem, beq_of_bnf hz]]
  rfl
set_option maxHeartbeats 4000000 in
set_option maxRecDepth 10000 in
theorem raccess_bop (s : Cs.St) (op rd rn rm ra imm cond : Int) (wide : Bool) (w : World) (hz : (Th.check ⟨op, rd, rn, rm, ra, imm, cond, wide⟩ != 0) = true) (o19 : (op == 19) = false) (o20 : (op == 20) = false) (o21 : (op == 21) = false) (o22 : (op == 22) = false) :
    Calls Try.prog 13 #[.agg (Cs.cells s), .agg #[.int .i64 op, .int .i64 rd, .int .i64 rn, .int .i64 rm, .int .i64 ra, .int .i64 imm, .int .i64 cond, .bool wide]] w fun e w' => e = .returned (.tuple #[.agg #[.int .i64 (Cs.access s ⟨op, rd, rn, rm, ra, imm, cond, wide⟩).addr, .int .i64 (Cs.access s ⟨op, rd, rn, rm, ra, imm, cond, wide⟩).size, .int .i64 (Cs.access s ⟨op, rd, rn, rm, ra, imm, cond, wide⟩).value, .bool (Cs.access s ⟨op, rd, rn, rm, ra, imm, cond, wide⟩).write], .bool (Cs.accessB ⟨op, rd, rn, rm, ra, imm, cond, wide⟩)]) ∧ Below w.heap.size w w' := by
  have H := Lib.hid (CpuA.new w s op rd rn rm ra imm cond wide)
  go_enter Try.func13, Try.ntmps13
  go_wp2_with (first | go_skip | (go_at_call 27; refine (rcheck_any _ _ _ _ _ _ _ _ _).mono ?_; rintro e w1 ⟨rfl, hb⟩; replace H := Lib.hid (H.out.kept hb); obtain ⟨i0, i1, i2, i3, i4, i5, i6, i7⟩ := H.out.ins; have a0 := H.out.res.c0; have a1 := H.out.res.c1; have a2 := H.out.res.c2; have a3 := H.out.res.c3; have af := H.out.res.open; clear hb) | ((with_reducible apply wpList_store_acc H.out.res); exact rfl))
  try simp only [Exit.inBlock, Exit.then]
  refine bp_acc2 rfl rfl (H.out.res.row _ _ _ _) rfl ⟨?_, below_setRow H.out.bel (by omega) _⟩
  rw [show Cs.access s ⟨op, rd, rn, rm, ra, imm, cond, wide⟩ = ⟨0, 0, 0, false⟩ by simp only [Cs.access, hz, if_true], show Cs.accessB ⟨op, rd, rn, rm, ra, imm, cond, wide⟩ = false by simp [Cs.accessB, beq_of_bne hz]]
  rfl
set_option maxHeartbeats 4000000 in
set_option maxRecDepth 10000 in
theorem raccess_o (s : Cs.St) (op : Int) (rd rn rm : Nat) (ra imm cond : Int) (wide : Bool) (w : World) (hd : rd < 13) (hn : rn < 13) (hz : (Th.check ⟨op, (rd : Int), (rn : Int), (rm : Int), ra, imm, cond, wide⟩ != 0) = false) (o19 : (op == 19) = false) (o20 : (op == 20) = false) (o21 : (op == 21) = false) (o22 : (op == 22) = false) :
    Calls Try.prog 13 #[.agg (Cs.cells s), .agg #[.int .i64 op, .int .i64 (rd : Int), .int .i64 (rn : Int), .int .i64 (rm : Int), .int .i64 ra, .int .i64 imm, .int .i64 cond, .bool wide]] w fun e w' => e = .returned (.tuple #[.agg #[.int .i64 (Cs.access s ⟨op, (rd : Int), (rn : Int), (rm : Int), ra, imm, cond, wide⟩).addr, .int .i64 (Cs.access s ⟨op, (rd : Int), (rn : Int), (rm : Int), ra, imm, cond, wide⟩).size, .int .i64 (Cs.access s ⟨op, (rd : Int), (rn : Int), (rm : Int), ra, imm, cond, wide⟩).value, .bool (Cs.access s ⟨op, (rd : Int), (rn : Int), (rm : Int), ra, imm, cond, wide⟩).write], .bool (Cs.accessB ⟨op, (rd : Int), (rn : Int), (rm : Int), ra, imm, cond, wide⟩)]) ∧ Below w.heap.size w w' := by
  have H := Lib.hid (CpuA.new w s op (rd : Int) (rn : Int) (rm : Int) ra imm cond wide)
  go_enter Try.func13, Try.ntmps13
  go_wp2_with (first | go_skip | (go_at_call 27; refine (rcheck_any _ _ _ _ _ _ _ _ _).mono ?_; rintro e w1 ⟨rfl, hb⟩; replace H := Lib.hid (H.out.kept hb); obtain ⟨i0, i1, i2, i3, i4, i5, i6, i7⟩ := H.out.ins; have a0 := H.out.res.c0; have a1 := H.out.res.c1; have a2 := H.out.res.c2; have a3 := H.out.res.c3; have af := H.out.res.open; clear hb) | ((with_reducible apply wpList_store_acc H.out.res); exact rfl))
  try simp only [Exit.inBlock, Exit.then]
  refine bp_acc2 rfl rfl (H.out.res.row _ _ _ _) rfl ⟨?_, below_setRow H.out.bel (by omega) _⟩
  rw [show Cs.access s ⟨op, (rd : Int), (rn : Int), (rm : Int), ra, imm, cond, wide⟩ = ⟨0, 0, 0, false⟩ by simp only [Cs.access, hz, o19, o20, o21, o22, Bool.false_eq_true, if_false], show Cs.accessB ⟨op, (rd : Int), (rn : Int), (rm : Int), ra, imm, cond, wide⟩ = false by simp [Cs.accessB, Cs.mem, o19, o20, o21, o22]]
  rfl
theorem raccess_any (s : Cs.St) (op rd rn rm ra imm cond : Int) (wide : Bool) (w : World) :
    Calls Try.prog 13 #[.agg (Cs.cells s), .agg #[.int .i64 op, .int .i64 rd, .int .i64 rn, .int .i64 rm, .int .i64 ra, .int .i64 imm, .int .i64 cond, .bool wide]] w fun e w' => e = .returned (.tuple #[.agg #[.int .i64 (Cs.access s ⟨op, rd, rn, rm, ra, imm, cond, wide⟩).addr, .int .i64 (Cs.access s ⟨op, rd, rn, rm, ra, imm, cond, wide⟩).size, .int .i64 (Cs.access s ⟨op, rd, rn, rm, ra, imm, cond, wide⟩).value, .bool (Cs.access s ⟨op, rd, rn, rm, ra, imm, cond, wide⟩).write], .bool (Cs.accessB ⟨op, rd, rn, rm, ra, imm, cond, wide⟩)]) ∧ Below w.heap.size w w' := by
  cases hz : (Th.check ⟨op, rd, rn, rm, ra, imm, cond, wide⟩ != 0)
  · have hz' := hz
    have hz0 : Th.check ⟨op, rd, rn, rm, ra, imm, cond, wide⟩ = 0 := beq_of_bnf hz
    have hr := Cs.in_regs hz0
    have ho := Cs.in_ops hz0
    simp only at hr ho
    obtain ⟨d, rfl⟩ := Int.eq_ofNat_of_zero_le hr.1.1
    obtain ⟨n, rfl⟩ := Int.eq_ofNat_of_zero_le hr.2.1.1
    obtain ⟨m, rfl⟩ := Int.eq_ofNat_of_zero_le hr.2.2.1
    have hd : d < 13 := by omega
    have hn : n < 13 := by omega
    have hm : m < 13 := by omega
    by_cases h19 : op = 19
    · subst h19; exact raccess_19 s d n m ra imm cond wide w hd hn hz
    by_cases h20 : op = 20
    · subst h20; exact raccess_20 s d n m ra imm cond wide w hd hn hz
    by_cases h21 : op = 21
    · subst h21; exact raccess_21 s d n m ra imm cond wide w hd hn hz
    by_cases h22 : op = 22
    · subst h22; exact raccess_22 s d n m ra imm cond wide w hd hn hz
    exact raccess_o s op d n m ra imm cond wide w hd hn hz (by simpa using h19) (by simpa using h20) (by simpa using h21) (by simpa using h22)
  · by_cases h19 : op = 19
    · subst h19; exact raccess_b19 s rd rn rm ra imm cond wide w hz
    by_cases h20 : op = 20
    · subst h20; exact raccess_b20 s rd rn rm ra imm cond wide w hz
    by_cases h21 : op = 21
    · subst h21; exact raccess_b21 s rd rn rm ra imm cond wide w hz
    by_cases h22 : op = 22
    · subst h22; exact raccess_b22 s rd rn rm ra imm cond wide w hz
    exact raccess_bop s op rd rn rm ra imm cond wide w hz (by simpa using h19) (by simpa using h20) (by simpa using h21) (by simpa using h22)
end Go.Proofs.Ytennhpfhgbmnfaa
