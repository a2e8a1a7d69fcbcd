/-
What Access and Cycles of package cpu, and of the document, return of any instruction; the document's Step.
What package decode's read returns.
-/
import Derived.Test.YthciobjklhkkcaaGreatP08c
import Derived.Test.YthciobjklhkkcaaGreatP07a
import Derived.Test.YthciobjklhkkcaaGreatP05b
import Derived.Test.YthciobjklhkkcaaGreatP05a
import Derived.Test.YthciobjklhkkcaaGreatP01a
import Derived.IntWalk
section
namespace Go.Proofs.YthciobjklhkkcaaGreat
open Go.ChangeShapes Go.WideShapes Go.ChangeAt Go.RowKit
set_option maxHeartbeats 4000000
set_option maxRecDepth 10000
set_option linter.unusedVariables false
set_option linter.unusedSimpArgs false

theorem access_any (s : Cs.St) (op rd rn rm ra imm cond : Int) (wide : Bool) (w : World) :
  Calls Tryz.prog 112 #[.agg (Cs.cells s), .agg #[.int .i64 op, .int .i64 rd, .int .i64 rn, .int .i64 rm, .int .i64 ra, .int .i64 imm, .int .i64 cond, .bool wide]] w fun e w' => e = .returned (.tuple #[.agg #[.int .i64 (Cs.access s ⟨op, rd, rn, rm, ra, imm, cond, wide⟩).addr, .int .i64 (Cs.access s ⟨op, rd, rn, rm, ra, imm, cond, wide⟩).size, .int .i64 (Cs.access s ⟨op, rd, rn, rm, ra, imm, cond, wide⟩).value, .bool (Cs.access s ⟨op, rd, rn, rm, ra, imm, cond, wide⟩).write], .bool (Cs.accessB ⟨op, rd, rn, rm, ra, imm, cond, wide⟩)]) ∧ Below w.heap.size w w' := by
 cases hz : (Th.check ⟨op, rd, rn, rm, ra, imm, cond, wide⟩ != 0)
 ·have hz' := hz
  have hz0 : Th.check ⟨op, rd, rn, rm, ra, imm, cond, wide⟩ = 0 := beq_of_bnf hz
  have hr := Cs.in_regs hz0
  have ho := Cs.in_ops hz0
  simp only at hr ho
  obtain ⟨d, rfl⟩ := Int.eq_ofNat_of_zero_le hr.1.1
  obtain ⟨n, rfl⟩ := Int.eq_ofNat_of_zero_le hr.2.1.1
  obtain ⟨m, rfl⟩ := Int.eq_ofNat_of_zero_le hr.2.2.1
  have hd : d < 13 := by omega
  have hn : n < 13 := by omega
  have hm : m < 13 := by omega
  by_cases h19 : op = 19
  ·subst h19; exact access_19 s d n m ra imm cond wide w hd hn hz
  by_cases h20 : op = 20
  ·subst h20; exact access_20 s d n m ra imm cond wide w hd hn hz
  by_cases h21 : op = 21
  ·subst h21; exact access_21 s d n m ra imm cond wide w hd hn hz
  by_cases h22 : op = 22
  ·subst h22; exact access_22 s d n m ra imm cond wide w hd hn hz
  exact access_o s op d n m ra imm cond wide w hd hn hz (by simpa using h19) (by simpa using h20) (by simpa using h21) (by simpa using h22)
 ·exact access_a s op rd rn rm ra imm cond wide w hz
theorem ins_alloc2 (w : World) (s : Cs.St) (op rd rn rm ra imm cond : Int) (wide : Bool) : InsAt ((w.alloc (.cells (Cs.cells s) 56)).alloc (.cells #[.int .i64 op, .int .i64 rd, .int .i64 rn, .int .i64 rm, .int .i64 ra, .int .i64 imm, .int .i64 cond, .bool wide] 123)) (w.heap.size + 1) op rd rn rm ra imm cond wide := by
 have h := ins_alloc (w.alloc (.cells (Cs.cells s) 56)) 123 op rd rn rm ra imm cond wide
 simpa using h
theorem cycles_a (s : Cs.St) (op rd rn rm ra imm cond : Int) (wide : Bool) (w : World) (hz : (Th.check ⟨op, rd, rn, rm, ra, imm, cond, wide⟩ != 0) = true) :
  Calls Tryz.prog 87 #[.agg (Cs.cells s), .agg #[.int .i64 op, .int .i64 rd, .int .i64 rn, .int .i64 rm, .int .i64 ra, .int .i64 imm, .int .i64 cond, .bool wide]] w fun e w' => e = .returned (.int .i64 (Cs.cycles s ⟨op, rd, rn, rm, ra, imm, cond, wide⟩)) ∧ Below w.heap.size w w' := by
 go_enter Tryz.func87, Tryz.ntmps87
 go_wp2_with (first | (go_at_call 118; refine (check_any _ _ _ _ _ _ _ _ _).mono ?_; rintro e w1 ⟨rfl, hb⟩; have HS := Lib.hid (((state_alloc w s).alloc _).below hb); have HI := Lib.hid ((ins_alloc2 w s op rd rn rm ra imm cond wide).below hb (by simp)); have HB := Lib.hid ((((Below.refl _ w).alloc (Nat.le_refl _) _).alloc (by simp) _).trans (hb.mono (by simp; omega))); clear hb; obtain ⟨i0, i1, i2, i3, i4, i5, i6, i7⟩ := HI.out) | (go_at_call 116; refine (taken_any _ _ _ _ _ _ _ _ _ _).mono ?_; rintro e w2 ⟨rfl, hb⟩; replace HB := Lib.hid (HB.out.trans (hb.mono HB.out.size)); clear hb) | ((with_reducible refine wpList_load_st HS.out ?_ ?_); exact rfl))
 go_ret
 refine ⟨wret_int ?_, HB.out⟩
 simp only [Cs.cycles, hz, if_true]
theorem cycles_19 (s : Cs.St) (op rd rn rm ra imm cond : Int) (wide : Bool) (w : World) (hz : (Th.check ⟨op, rd, rn, rm, ra, imm, cond, wide⟩ != 0) = false) (ho : op = 19) :
  Calls Tryz.prog 87 #[.agg (Cs.cells s), .agg #[.int .i64 op, .int .i64 rd, .int .i64 rn, .int .i64 rm, .int .i64 ra, .int .i64 imm, .int .i64 cond, .bool wide]] w fun e w' => e = .returned (.int .i64 (Cs.cycles s ⟨op, rd, rn, rm, ra, imm, cond, wide⟩)) ∧ Below w.heap.size w w' := by
 subst ho
 go_enter Tryz.func87, Tryz.ntmps87
 go_wp2_with (first | (go_at_call 118; refine (check_any _ _ _ _ _ _ _ _ _).mono ?_; rintro e w1 ⟨rfl, hb⟩; have HS := Lib.hid (((state_alloc w s).alloc _).below hb); have HI := Lib.hid ((ins_alloc2 w s 19 rd rn rm ra imm cond wide).below hb (by simp)); have HB := Lib.hid ((((Below.refl _ w).alloc (Nat.le_refl _) _).alloc (by simp) _).trans (hb.mono (by simp; omega))); clear hb; obtain ⟨i0, i1, i2, i3, i4, i5, i6, i7⟩ := HI.out) | (go_at_call 116; refine (taken_any _ _ _ _ _ _ _ _ _ _).mono ?_; rintro e w2 ⟨rfl, hb⟩; replace HB := Lib.hid (HB.out.trans (hb.mono HB.out.size)); clear hb) | ((with_reducible refine wpList_load_st HS.out ?_ ?_); exact rfl))
 go_ret
 refine ⟨wret_int ?_, HB.out⟩
 simp only [Cs.cycles, Cs.mem, hz, Bool.false_eq_true, if_false]; rfl
theorem cycles_20 (s : Cs.St) (op rd rn rm ra imm cond : Int) (wide : Bool) (w : World) (hz : (Th.check ⟨op, rd, rn, rm, ra, imm, cond, wide⟩ != 0) = false) (ho : op = 20) :
  Calls Tryz.prog 87 #[.agg (Cs.cells s), .agg #[.int .i64 op, .int .i64 rd, .int .i64 rn, .int .i64 rm, .int .i64 ra, .int .i64 imm, .int .i64 cond, .bool wide]] w fun e w' => e = .returned (.int .i64 (Cs.cycles s ⟨op, rd, rn, rm, ra, imm, cond, wide⟩)) ∧ Below w.heap.size w w' := by
 subst ho
 go_enter Tryz.func87, Tryz.ntmps87
 go_wp2_with (first | (go_at_call 118; refine (check_any _ _ _ _ _ _ _ _ _).mono ?_; rintro e w1 ⟨rfl, hb⟩; have HS := Lib.hid (((state_alloc w s).alloc _).below hb); have HI := Lib.hid ((ins_alloc2 w s 20 rd rn rm ra imm cond wide).below hb (by simp)); have HB := Lib.hid ((((Below.refl _ w).alloc (Nat.le_refl _) _).alloc (by simp) _).trans (hb.mono (by simp; omega))); clear hb; obtain ⟨i0, i1, i2, i3, i4, i5, i6, i7⟩ := HI.out) | (go_at_call 116; refine (taken_any _ _ _ _ _ _ _ _ _ _).mono ?_; rintro e w2 ⟨rfl, hb⟩; replace HB := Lib.hid (HB.out.trans (hb.mono HB.out.size)); clear hb) | ((with_reducible refine wpList_load_st HS.out ?_ ?_); exact rfl))
 go_ret
 refine ⟨wret_int ?_, HB.out⟩
 simp only [Cs.cycles, Cs.mem, hz, Bool.false_eq_true, if_false]; rfl
theorem cycles_21 (s : Cs.St) (op rd rn rm ra imm cond : Int) (wide : Bool) (w : World) (hz : (Th.check ⟨op, rd, rn, rm, ra, imm, cond, wide⟩ != 0) = false) (ho : op = 21) :
  Calls Tryz.prog 87 #[.agg (Cs.cells s), .agg #[.int .i64 op, .int .i64 rd, .int .i64 rn, .int .i64 rm, .int .i64 ra, .int .i64 imm, .int .i64 cond, .bool wide]] w fun e w' => e = .returned (.int .i64 (Cs.cycles s ⟨op, rd, rn, rm, ra, imm, cond, wide⟩)) ∧ Below w.heap.size w w' := by
 subst ho
 go_enter Tryz.func87, Tryz.ntmps87
 go_wp2_with (first | (go_at_call 118; refine (check_any _ _ _ _ _ _ _ _ _).mono ?_; rintro e w1 ⟨rfl, hb⟩; have HS := Lib.hid (((state_alloc w s).alloc _).below hb); have HI := Lib.hid ((ins_alloc2 w s 21 rd rn rm ra imm cond wide).below hb (by simp)); have HB := Lib.hid ((((Below.refl _ w).alloc (Nat.le_refl _) _).alloc (by simp) _).trans (hb.mono (by simp; omega))); clear hb; obtain ⟨i0, i1, i2, i3, i4, i5, i6, i7⟩ := HI.out) | (go_at_call 116; refine (taken_any _ _ _ _ _ _ _ _ _ _).mono ?_; rintro e w2 ⟨rfl, hb⟩; replace HB := Lib.hid (HB.out.trans (hb.mono HB.out.size)); clear hb) | ((with_reducible refine wpList_load_st HS.out ?_ ?_); exact rfl))
 go_ret
 refine ⟨wret_int ?_, HB.out⟩
 simp only [Cs.cycles, Cs.mem, hz, Bool.false_eq_true, if_false]; rfl
theorem cycles_22 (s : Cs.St) (op rd rn rm ra imm cond : Int) (wide : Bool) (w : World) (hz : (Th.check ⟨op, rd, rn, rm, ra, imm, cond, wide⟩ != 0) = false) (ho : op = 22) :
  Calls Tryz.prog 87 #[.agg (Cs.cells s), .agg #[.int .i64 op, .int .i64 rd, .int .i64 rn, .int .i64 rm, .int .i64 ra, .int .i64 imm, .int .i64 cond, .bool wide]] w fun e w' => e = .returned (.int .i64 (Cs.cycles s ⟨op, rd, rn, rm, ra, imm, cond, wide⟩)) ∧ Below w.heap.size w w' := by
 subst ho
 go_enter Tryz.func87, Tryz.ntmps87
 go_wp2_with (first | (go_at_call 118; refine (check_any _ _ _ _ _ _ _ _ _).mono ?_; rintro e w1 ⟨rfl, hb⟩; have HS := Lib.hid (((state_alloc w s).alloc _).below hb); have HI := Lib.hid ((ins_alloc2 w s 22 rd rn rm ra imm cond wide).below hb (by simp)); have HB := Lib.hid ((((Below.refl _ w).alloc (Nat.le_refl _) _).alloc (by simp) _).trans (hb.mono (by simp; omega))); clear hb; obtain ⟨i0, i1, i2, i3, i4, i5, i6, i7⟩ := HI.out) | (go_at_call 116; refine (taken_any _ _ _ _ _ _ _ _ _ _).mono ?_; rintro e w2 ⟨rfl, hb⟩; replace HB := Lib.hid (HB.out.trans (hb.mono HB.out.size)); clear hb) | ((with_reducible refine wpList_load_st HS.out ?_ ?_); exact rfl))
 go_ret
 refine ⟨wret_int ?_, HB.out⟩
 simp only [Cs.cycles, Cs.mem, hz, Bool.false_eq_true, if_false]; rfl
theorem cycles_17 (s : Cs.St) (op rd rn rm ra imm cond : Int) (wide : Bool) (w : World) (hz : (Th.check ⟨op, rd, rn, rm, ra, imm, cond, wide⟩ != 0) = false) (ho : op = 17) :
  Calls Tryz.prog 87 #[.agg (Cs.cells s), .agg #[.int .i64 op, .int .i64 rd, .int .i64 rn, .int .i64 rm, .int .i64 ra, .int .i64 imm, .int .i64 cond, .bool wide]] w fun e w' => e = .returned (.int .i64 (Cs.cycles s ⟨op, rd, rn, rm, ra, imm, cond, wide⟩)) ∧ Below w.heap.size w w' := by
 subst ho
 go_enter Tryz.func87, Tryz.ntmps87
 go_wp2_with (first | (go_at_call 118; refine (check_any _ _ _ _ _ _ _ _ _).mono ?_; rintro e w1 ⟨rfl, hb⟩; have HS := Lib.hid (((state_alloc w s).alloc _).below hb); have HI := Lib.hid ((ins_alloc2 w s 17 rd rn rm ra imm cond wide).below hb (by simp)); have HB := Lib.hid ((((Below.refl _ w).alloc (Nat.le_refl _) _).alloc (by simp) _).trans (hb.mono (by simp; omega))); clear hb; obtain ⟨i0, i1, i2, i3, i4, i5, i6, i7⟩ := HI.out) | (go_at_call 116; refine (taken_any _ _ _ _ _ _ _ _ _ _).mono ?_; rintro e w2 ⟨rfl, hb⟩; replace HB := Lib.hid (HB.out.trans (hb.mono HB.out.size)); clear hb) | ((with_reducible refine wpList_load_st HS.out ?_ ?_); exact rfl))
 go_ret
 refine ⟨wret_int ?_, HB.out⟩
 simp only [Cs.cycles, Cs.mem, hz, Bool.false_eq_true, if_false]; rfl
theorem cycles_ot (s : Cs.St) (op rd rn rm ra imm cond : Int) (wide : Bool) (w : World) (hz : (Th.check ⟨op, rd, rn, rm, ra, imm, cond, wide⟩ != 0) = false) (o19 : (op == 19) = false) (o20 : (op == 20) = false) (o21 : (op == 21) = false) (o22 : (op == 22) = false) (o17 : (op == 17) = false) (ht : Cs.taken s op cond = true) :
  Calls Tryz.prog 87 #[.agg (Cs.cells s), .agg #[.int .i64 op, .int .i64 rd, .int .i64 rn, .int .i64 rm, .int .i64 ra, .int .i64 imm, .int .i64 cond, .bool wide]] w fun e w' => e = .returned (.int .i64 (Cs.cycles s ⟨op, rd, rn, rm, ra, imm, cond, wide⟩)) ∧ Below w.heap.size w w' := by
 go_enter Tryz.func87, Tryz.ntmps87
 go_wp2_with (first | (go_at_call 118; refine (check_any _ _ _ _ _ _ _ _ _).mono ?_; rintro e w1 ⟨rfl, hb⟩; have HS := Lib.hid (((state_alloc w s).alloc _).below hb); have HI := Lib.hid ((ins_alloc2 w s op rd rn rm ra imm cond wide).below hb (by simp)); have HB := Lib.hid ((((Below.refl _ w).alloc (Nat.le_refl _) _).alloc (by simp) _).trans (hb.mono (by simp; omega))); clear hb; obtain ⟨i0, i1, i2, i3, i4, i5, i6, i7⟩ := HI.out) | (go_at_call 116; refine (taken_any _ _ _ _ _ _ _ _ _ _).mono ?_; rintro e w2 ⟨rfl, hb⟩; replace HB := Lib.hid (HB.out.trans (hb.mono HB.out.size)); clear hb) | ((with_reducible refine wpList_load_st HS.out ?_ ?_); exact rfl))
 go_ret
 refine ⟨wret_int ?_, HB.out⟩
 simp only [Cs.cycles, Cs.mem, hz, o19, o20, o21, o22, o17, ht, Bool.or_false, Bool.false_eq_true, if_false, if_true]
theorem cycles_of (s : Cs.St) (op rd rn rm ra imm cond : Int) (wide : Bool) (w : World) (hz : (Th.check ⟨op, rd, rn, rm, ra, imm, cond, wide⟩ != 0) = false) (o19 : (op == 19) = false) (o20 : (op == 20) = false) (o21 : (op == 21) = false) (o22 : (op == 22) = false) (o17 : (op == 17) = false) (ht : Cs.taken s op cond = false) :
  Calls Tryz.prog 87 #[.agg (Cs.cells s), .agg #[.int .i64 op, .int .i64 rd, .int .i64 rn, .int .i64 rm, .int .i64 ra, .int .i64 imm, .int .i64 cond, .bool wide]] w fun e w' => e = .returned (.int .i64 (Cs.cycles s ⟨op, rd, rn, rm, ra, imm, cond, wide⟩)) ∧ Below w.heap.size w w' := by
 go_enter Tryz.func87, Tryz.ntmps87
 go_wp2_with (first | (go_at_call 118; refine (check_any _ _ _ _ _ _ _ _ _).mono ?_; rintro e w1 ⟨rfl, hb⟩; have HS := Lib.hid (((state_alloc w s).alloc _).below hb); have HI := Lib.hid ((ins_alloc2 w s op rd rn rm ra imm cond wide).below hb (by simp)); have HB := Lib.hid ((((Below.refl _ w).alloc (Nat.le_refl _) _).alloc (by simp) _).trans (hb.mono (by simp; omega))); clear hb; obtain ⟨i0, i1, i2, i3, i4, i5, i6, i7⟩ := HI.out) | (go_at_call 116; refine (taken_any _ _ _ _ _ _ _ _ _ _).mono ?_; rintro e w2 ⟨rfl, hb⟩; replace HB := Lib.hid (HB.out.trans (hb.mono HB.out.size)); clear hb) | ((with_reducible refine wpList_load_st HS.out ?_ ?_); exact rfl))
 go_ret
 refine ⟨wret_int ?_, HB.out⟩
 simp only [Cs.cycles, Cs.mem, hz, o19, o20, o21, o22, o17, ht, Bool.or_false, Bool.false_eq_true, if_false, if_true]
theorem cycles_any (s : Cs.St) (op rd rn rm ra imm cond : Int) (wide : Bool) (w : World) :
  Calls Tryz.prog 87 #[.agg (Cs.cells s), .agg #[.int .i64 op, .int .i64 rd, .int .i64 rn, .int .i64 rm, .int .i64 ra, .int .i64 imm, .int .i64 cond, .bool wide]] w fun e w' => e = .returned (.int .i64 (Cs.cycles s ⟨op, rd, rn, rm, ra, imm, cond, wide⟩)) ∧ Below w.heap.size w w' := by
 cases hz : (Th.check ⟨op, rd, rn, rm, ra, imm, cond, wide⟩ != 0)
 ·by_cases h19 : op = 19
  ·exact cycles_19 s op rd rn rm ra imm cond wide w hz h19
  by_cases h20 : op = 20
  ·exact cycles_20 s op rd rn rm ra imm cond wide w hz h20
  by_cases h21 : op = 21
  ·exact cycles_21 s op rd rn rm ra imm cond wide w hz h21
  by_cases h22 : op = 22
  ·exact cycles_22 s op rd rn rm ra imm cond wide w hz h22
  by_cases h17 : op = 17
  ·exact cycles_17 s op rd rn rm ra imm cond wide w hz h17
  cases ht : Cs.taken s op cond
  ·exact cycles_of s op rd rn rm ra imm cond wide w hz (by simpa using h19) (by simpa using h20) (by simpa using h21) (by simpa using h22) (by simpa using h17) ht
  ·exact cycles_ot s op rd rn rm ra imm cond wide w hz (by simpa using h19) (by simpa using h20) (by simpa using h21) (by simpa using h22) (by simpa using h17) ht
 ·exact cycles_a s op rd rn rm ra imm cond wide w hz
end Go.Proofs.YthciobjklhkkcaaGreat
end
section
namespace Go.Proofs.YthciobjklhkkcaaGreat
open Go.ChangeShapes Go.WideShapes Go.ChangeAt Go.RowKit
set_option maxHeartbeats 4000000
set_option maxRecDepth 100000
set_option linter.unusedVariables false

theorem read17 (x : Nat) (w : World) (hx : x < 4294967296) :
  Calls Tryz.prog 109 #[.int .i64 17, .int .u32 (x : Int)] w fun e w' => e = .returned (.agg #[.int .i64 17, .int .i64 (((De.pt x 12 4 : Nat) : Int)), .int .i64 (((De.pt x 16 4 : Nat) : Int)), .int .i64 (((De.pt x 0 4 : Nat) : Int)), .int .i64 (((De.pt x 8 4 : Nat) : Int)), .int .i64 (0), .int .i64 (0), .bool false]) ∧ Below w.heap.size w w' := by
 go_enter Tryz.func109, Tryz.ntmps109
 go_wp2_with (first | (go_at_call 142; refine (part_int _ _ _ _ hx (by decide) (by decide) (by decide) (by decide)).mono ?_; rintro e w' ⟨rfl, n, rfl⟩) | (go_at_call 143; refine (shift_any _ _ hx).mono ?_; rintro e w' ⟨rfl, n, rfl⟩))
 exact bodyPost_ret (v := (.agg #[.int .i64 17, .int .i64 (((De.pt x 12 4 : Nat) : Int)), .int .i64 (((De.pt x 16 4 : Nat) : Int)), .int .i64 (((De.pt x 0 4 : Nat) : Int)), .int .i64 (((De.pt x 8 4 : Nat) : Int)), .int .i64 (0), .int .i64 (0), .bool false])) (by simp [results, Tryz.results109, go_sem]) rfl ⟨rfl, by (go_grown; (try (refine below_drewN ?_ _; go_grown; (try (refine below_drewN ?_ _; go_grown; (try (refine below_drewN ?_ _; go_grown)))))))⟩
theorem read18 (x : Nat) (w : World) (hx : x < 4294967296) :
  Calls Tryz.prog 109 #[.int .i64 18, .int .u32 (x : Int)] w fun e w' => e = .returned (.agg #[.int .i64 18, .int .i64 (((De.pt x 8 4 : Nat) : Int)), .int .i64 (((De.pt x 16 4 : Nat) : Int)), .int .i64 (0), .int .i64 (((De.pt x 0 5 : Nat) : Int) + 1 - ((De.shift x : Nat) : Int)), .int .i64 (((De.shift x : Nat) : Int)), .int .i64 (0), .bool false]) ∧ Below w.heap.size w w' := by
 have b5 := De.pt_lt x 0 5
 have bs : De.shift x < 32 := by unfold De.shift; have := De.pt_lt x 12 3; have := De.pt_lt x 6 2; omega
 have e1 : IntKind.i64.wrap ((De.pt x 0 5 : Int) + 1) = (De.pt x 0 5 : Int) + 1 := IntWalk.i64_in _ (by omega)
 have e2 : IntKind.i64.wrap ((De.pt x 0 5 : Int) + 1 - (De.shift x : Int)) = (De.pt x 0 5 : Int) + 1 - (De.shift x : Int) := IntWalk.i64_in _ (by omega)
 go_enter Tryz.func109, Tryz.ntmps109
 go_wp2_with (first | (go_at_call 142; refine (part_int _ _ _ _ hx (by decide) (by decide) (by decide) (by decide)).mono ?_; rintro e w' ⟨rfl, n, rfl⟩) | (go_at_call 143; refine (shift_any _ _ hx).mono ?_; rintro e w' ⟨rfl, n, rfl⟩))
 go_region_with ((go_at_call 142; refine (part_int _ _ _ _ hx (by decide) (by decide) (by decide) (by decide)).mono ?_; rintro e w' ⟨rfl, n, rfl⟩))
 all_goals
  go_wp2
  exact bodyPost_ret (v := (.agg #[.int .i64 18, .int .i64 (((De.pt x 8 4 : Nat) : Int)), .int .i64 (((De.pt x 16 4 : Nat) : Int)), .int .i64 (0), .int .i64 (((De.pt x 0 5 : Nat) : Int) + 1 - ((De.shift x : Nat) : Int)), .int .i64 (((De.shift x : Nat) : Int)), .int .i64 (0), .bool false])) (by simp [results, Tryz.results109, go_sem]) rfl ⟨rfl, by (go_grown; (try (refine below_drewN ?_ _; go_grown; (try (refine below_drewN ?_ _; go_grown; (try (refine below_drewN ?_ _; go_grown)))))))⟩
theorem read19 (x : Nat) (w : World) (hx : x < 4294967296) :
  Calls Tryz.prog 109 #[.int .i64 19, .int .u32 (x : Int)] w fun e w' => e = .returned (.agg #[.int .i64 19, .int .i64 (((De.pt x 0 3 : Nat) : Int)), .int .i64 (((De.pt x 3 3 : Nat) : Int)), .int .i64 (0), .int .i64 (0), .int .i64 (0), .int .i64 (0), .bool false]) ∧ Below w.heap.size w w' := by
 go_enter Tryz.func109, Tryz.ntmps109
 go_wp2_with (first | (go_at_call 142; refine (part_int _ _ _ _ hx (by decide) (by decide) (by decide) (by decide)).mono ?_; rintro e w' ⟨rfl, n, rfl⟩) | (go_at_call 143; refine (shift_any _ _ hx).mono ?_; rintro e w' ⟨rfl, n, rfl⟩))
 exact bodyPost_ret (v := (.agg #[.int .i64 19, .int .i64 (((De.pt x 0 3 : Nat) : Int)), .int .i64 (((De.pt x 3 3 : Nat) : Int)), .int .i64 (0), .int .i64 (0), .int .i64 (0), .int .i64 (0), .bool false])) (by simp [results, Tryz.results109, go_sem]) rfl ⟨rfl, by (go_grown; (try (refine below_drewN ?_ _; go_grown; (try (refine below_drewN ?_ _; go_grown; (try (refine below_drewN ?_ _; go_grown)))))))⟩
theorem read20 (x : Nat) (w : World) (hx : x < 4294967296) :
  Calls Tryz.prog 109 #[.int .i64 20, .int .u32 (x : Int)] w fun e w' => e = .returned (.agg #[.int .i64 20, .int .i64 (((De.pt x 0 3 : Nat) : Int)), .int .i64 (((De.pt x 3 3 : Nat) : Int)), .int .i64 (0), .int .i64 (0), .int .i64 (0), .int .i64 (0), .bool false]) ∧ Below w.heap.size w w' := by
 go_enter Tryz.func109, Tryz.ntmps109
 go_wp2_with (first | (go_at_call 142; refine (part_int _ _ _ _ hx (by decide) (by decide) (by decide) (by decide)).mono ?_; rintro e w' ⟨rfl, n, rfl⟩) | (go_at_call 143; refine (shift_any _ _ hx).mono ?_; rintro e w' ⟨rfl, n, rfl⟩))
 exact bodyPost_ret (v := (.agg #[.int .i64 20, .int .i64 (((De.pt x 0 3 : Nat) : Int)), .int .i64 (((De.pt x 3 3 : Nat) : Int)), .int .i64 (0), .int .i64 (0), .int .i64 (0), .int .i64 (0), .bool false])) (by simp [results, Tryz.results109, go_sem]) rfl ⟨rfl, by (go_grown; (try (refine below_drewN ?_ _; go_grown; (try (refine below_drewN ?_ _; go_grown; (try (refine below_drewN ?_ _; go_grown)))))))⟩
theorem read21 (x : Nat) (w : World) (hx : x < 4294967296) :
  Calls Tryz.prog 109 #[.int .i64 21, .int .u32 (x : Int)] w fun e w' => e = .returned (.agg #[.int .i64 21, .int .i64 (((De.pt x 0 3 : Nat) : Int)), .int .i64 (((De.pt x 3 3 : Nat) : Int)), .int .i64 (0), .int .i64 (0), .int .i64 (0), .int .i64 (0), .bool false]) ∧ Below w.heap.size w w' := by
 go_enter Tryz.func109, Tryz.ntmps109
 go_wp2_with (first | (go_at_call 142; refine (part_int _ _ _ _ hx (by decide) (by decide) (by decide) (by decide)).mono ?_; rintro e w' ⟨rfl, n, rfl⟩) | (go_at_call 143; refine (shift_any _ _ hx).mono ?_; rintro e w' ⟨rfl, n, rfl⟩))
 exact bodyPost_ret (v := (.agg #[.int .i64 21, .int .i64 (((De.pt x 0 3 : Nat) : Int)), .int .i64 (((De.pt x 3 3 : Nat) : Int)), .int .i64 (0), .int .i64 (0), .int .i64 (0), .int .i64 (0), .bool false])) (by simp [results, Tryz.results109, go_sem]) rfl ⟨rfl, by (go_grown; (try (refine below_drewN ?_ _; go_grown; (try (refine below_drewN ?_ _; go_grown; (try (refine below_drewN ?_ _; go_grown)))))))⟩
theorem read22 (x : Nat) (w : World) (hx : x < 4294967296) :
  Calls Tryz.prog 109 #[.int .i64 22, .int .u32 (x : Int)] w fun e w' => e = .returned (.agg #[.int .i64 22, .int .i64 (((De.pt x 0 3 : Nat) : Int)), .int .i64 (((De.pt x 3 3 : Nat) : Int)), .int .i64 (0), .int .i64 (0), .int .i64 (0), .int .i64 (0), .bool false]) ∧ Below w.heap.size w w' := by
 go_enter Tryz.func109, Tryz.ntmps109
 go_wp2_with (first | (go_at_call 142; refine (part_int _ _ _ _ hx (by decide) (by decide) (by decide) (by decide)).mono ?_; rintro e w' ⟨rfl, n, rfl⟩) | (go_at_call 143; refine (shift_any _ _ hx).mono ?_; rintro e w' ⟨rfl, n, rfl⟩))
 exact bodyPost_ret (v := (.agg #[.int .i64 22, .int .i64 (((De.pt x 0 3 : Nat) : Int)), .int .i64 (((De.pt x 3 3 : Nat) : Int)), .int .i64 (0), .int .i64 (0), .int .i64 (0), .int .i64 (0), .bool false])) (by simp [results, Tryz.results109, go_sem]) rfl ⟨rfl, by (go_grown; (try (refine below_drewN ?_ _; go_grown; (try (refine below_drewN ?_ _; go_grown; (try (refine below_drewN ?_ _; go_grown)))))))⟩
theorem read23 (x : Nat) (w : World) (hx : x < 4294967296) :
  Calls Tryz.prog 109 #[.int .i64 23, .int .u32 (x : Int)] w fun e w' => e = .returned (.agg #[.int .i64 23, .int .i64 (0), .int .i64 (((De.pt x 0 3 : Nat) : Int)), .int .i64 (((De.pt x 3 3 : Nat) : Int)), .int .i64 (0), .int .i64 (0), .int .i64 (0), .bool false]) ∧ Below w.heap.size w w' := by
 go_enter Tryz.func109, Tryz.ntmps109
 go_wp2_with (first | (go_at_call 142; refine (part_int _ _ _ _ hx (by decide) (by decide) (by decide) (by decide)).mono ?_; rintro e w' ⟨rfl, n, rfl⟩) | (go_at_call 143; refine (shift_any _ _ hx).mono ?_; rintro e w' ⟨rfl, n, rfl⟩))
 exact bodyPost_ret (v := (.agg #[.int .i64 23, .int .i64 (0), .int .i64 (((De.pt x 0 3 : Nat) : Int)), .int .i64 (((De.pt x 3 3 : Nat) : Int)), .int .i64 (0), .int .i64 (0), .int .i64 (0), .bool false])) (by simp [results, Tryz.results109, go_sem]) rfl ⟨rfl, by (go_grown; (try (refine below_drewN ?_ _; go_grown; (try (refine below_drewN ?_ _; go_grown; (try (refine below_drewN ?_ _; go_grown)))))))⟩
theorem read24w (x : Nat) (w : World) (hx : x < 4294967296) (hw : 65536 ≤ x) :
  Calls Tryz.prog 109 #[.int .i64 24, .int .u32 (x : Int)] w fun e w' => e = .returned (.agg #[.int .i64 24, .int .i64 (0), .int .i64 (0), .int .i64 (0), .int .i64 (0), .int .i64 (De.signed (De.b24w x) 25), .int .i64 (0), .bool true]) ∧ Below w.heap.size w w' := by
 go_enter Tryz.func109, Tryz.ntmps109
 go_wp2_with (first | (go_at_call 144; refine (readb24w _ _ hx hw).mono ?_; rintro e w1 ⟨rfl, hb1⟩; obtain ⟨c0, c1, c2, c3, c4, c5, c6, c7⟩ := ((ins_alloc w 123 0 0 0 0 0 0 0 false).alloc (by simp) _).below hb1 (by simp; omega); have HB : Hid (Below w.heap.size w w1) := (((Below.refl _ _).alloc (Nat.le_refl _) _).alloc (by simp) _).trans (hb1.mono (by simp; omega)); obtain ⟨hc, hf⟩ := bcell hb1; have hz := hb1.size; simp at hz; clear hb1 hc))
 exact bodyPost_ret (v := (.agg #[.int .i64 24, .int .i64 (0), .int .i64 (0), .int .i64 (0), .int .i64 (0), .int .i64 (De.signed (De.b24w x) 25), .int .i64 (0), .bool true])) (by simp [results, Tryz.results109, go_sem, c0, c1, c2, c3, c4, c5, c6, c7]) rfl ⟨rfl, by (iterate 8 (refine Below.setCell ?_ (by simp) _)); exact HB.out⟩
theorem read24n (x : Nat) (w : World) (hx : x < 4294967296) (hw : x < 65536) :
  Calls Tryz.prog 109 #[.int .i64 24, .int .u32 (x : Int)] w fun e w' => e = .returned (.agg #[.int .i64 24, .int .i64 (0), .int .i64 (0), .int .i64 (0), .int .i64 (0), .int .i64 (De.signed (De.b24n x) 12), .int .i64 (0), .bool false]) ∧ Below w.heap.size w w' := by
 go_enter Tryz.func109, Tryz.ntmps109
 go_wp2_with (first | (go_at_call 144; refine (readb24n _ _ hx hw).mono ?_; rintro e w1 ⟨rfl, hb1⟩; obtain ⟨c0, c1, c2, c3, c4, c5, c6, c7⟩ := ((ins_alloc w 123 0 0 0 0 0 0 0 false).alloc (by simp) _).below hb1 (by simp; omega); have HB : Hid (Below w.heap.size w w1) := (((Below.refl _ _).alloc (Nat.le_refl _) _).alloc (by simp) _).trans (hb1.mono (by simp; omega)); obtain ⟨hc, hf⟩ := bcell hb1; have hz := hb1.size; simp at hz; clear hb1 hc))
 exact bodyPost_ret (v := (.agg #[.int .i64 24, .int .i64 (0), .int .i64 (0), .int .i64 (0), .int .i64 (0), .int .i64 (De.signed (De.b24n x) 12), .int .i64 (0), .bool false])) (by simp [results, Tryz.results109, go_sem, c0, c1, c2, c3, c4, c5, c6, c7]) rfl ⟨rfl, by (iterate 8 (refine Below.setCell ?_ (by simp) _)); exact HB.out⟩
theorem read25w (x : Nat) (w : World) (hx : x < 4294967296) (hw : 65536 ≤ x) :
  Calls Tryz.prog 109 #[.int .i64 25, .int .u32 (x : Int)] w fun e w' => e = .returned (.agg #[.int .i64 25, .int .i64 (0), .int .i64 (0), .int .i64 (0), .int .i64 (0), .int .i64 (De.signed (De.b25w x) 21), .int .i64 (((De.pt x 22 4 : Nat) : Int)), .bool true]) ∧ Below w.heap.size w w' := by
 go_enter Tryz.func109, Tryz.ntmps109
 go_wp2_with (first | (go_at_call 144; refine (readb25w _ _ hx hw).mono ?_; rintro e w1 ⟨rfl, hb1⟩; obtain ⟨c0, c1, c2, c3, c4, c5, c6, c7⟩ := ((ins_alloc w 123 0 0 0 0 0 0 0 false).alloc (by simp) _).below hb1 (by simp; omega); have HB : Hid (Below w.heap.size w w1) := (((Below.refl _ _).alloc (Nat.le_refl _) _).alloc (by simp) _).trans (hb1.mono (by simp; omega)); obtain ⟨hc, hf⟩ := bcell hb1; have hz := hb1.size; simp at hz; clear hb1 hc))
 exact bodyPost_ret (v := (.agg #[.int .i64 25, .int .i64 (0), .int .i64 (0), .int .i64 (0), .int .i64 (0), .int .i64 (De.signed (De.b25w x) 21), .int .i64 (((De.pt x 22 4 : Nat) : Int)), .bool true])) (by simp [results, Tryz.results109, go_sem, c0, c1, c2, c3, c4, c5, c6, c7]) rfl ⟨rfl, by (iterate 8 (refine Below.setCell ?_ (by simp) _)); exact HB.out⟩
theorem read25n (x : Nat) (w : World) (hx : x < 4294967296) (hw : x < 65536) :
  Calls Tryz.prog 109 #[.int .i64 25, .int .u32 (x : Int)] w fun e w' => e = .returned (.agg #[.int .i64 25, .int .i64 (0), .int .i64 (0), .int .i64 (0), .int .i64 (0), .int .i64 (De.signed (De.b25n x) 9), .int .i64 (((De.pt x 8 4 : Nat) : Int)), .bool false]) ∧ Below w.heap.size w w' := by
 go_enter Tryz.func109, Tryz.ntmps109
 go_wp2_with (first | (go_at_call 144; refine (readb25n _ _ hx hw).mono ?_; rintro e w1 ⟨rfl, hb1⟩; obtain ⟨c0, c1, c2, c3, c4, c5, c6, c7⟩ := ((ins_alloc w 123 0 0 0 0 0 0 0 false).alloc (by simp) _).below hb1 (by simp; omega); have HB : Hid (Below w.heap.size w w1) := (((Below.refl _ _).alloc (Nat.le_refl _) _).alloc (by simp) _).trans (hb1.mono (by simp; omega)); obtain ⟨hc, hf⟩ := bcell hb1; have hz := hb1.size; simp at hz; clear hb1 hc))
 exact bodyPost_ret (v := (.agg #[.int .i64 25, .int .i64 (0), .int .i64 (0), .int .i64 (0), .int .i64 (0), .int .i64 (De.signed (De.b25n x) 9), .int .i64 (((De.pt x 8 4 : Nat) : Int)), .bool false])) (by simp [results, Tryz.results109, go_sem, c0, c1, c2, c3, c4, c5, c6, c7]) rfl ⟨rfl, by (iterate 8 (refine Below.setCell ?_ (by simp) _)); exact HB.out⟩
end Go.Proofs.YthciobjklhkkcaaGreat
end
