/-
What made, Step, Access and Cycles of package cpu return.
Package memory: what Load and Store return.
-/
import Derived.Test.YthciobjklhkkcaaGreatP06b
import Derived.Test.YthciobjklhkkcaaGreatP06a
import Derived.Test.YthciobjklhkkcaaGreatP04a
import Derived.Test.YthciobjklhkkcaaGreatP05a
section
namespace Go.Proofs.YthciobjklhkkcaaGreat
open Go.ChangeShapes Go.WideShapes Go.ChangeAt Go.RowKit
set_option maxHeartbeats 4000000
set_option maxRecDepth 10000
set_option linter.unusedVariables false

theorem made_any (s : Cs.St) (op rd rn rm ra imm cond l : Int) (wide : Bool) (w : World) (h0 : Th.check ⟨op, rd, rn, rm, ra, imm, cond, wide⟩ = 0) (h2 : (op == 2) = false) (h24 : (op == 24) = false) (hw : ∀ j, 0 ≤ s.r j ∧ s.r j < 4294967296) :
  Calls Tryz.prog 117 #[.agg (Cs.cells s), .agg #[.int .i64 op, .int .i64 rd, .int .i64 rn, .int .i64 rm, .int .i64 ra, .int .i64 imm, .int .i64 cond, .bool wide], .int .i64 l] w fun e w' => e = .returned (.agg (Cs.cells (Cs.made s ⟨op, rd, rn, rm, ra, imm, cond, wide⟩ l))) ∧ Below w.heap.size w w' := by
 have hr := Cs.in_regs h0
 have ho := Cs.in_ops h0
 simp only at hr ho
 obtain ⟨d, rfl⟩ := Int.eq_ofNat_of_zero_le hr.1.1
 obtain ⟨n, rfl⟩ := Int.eq_ofNat_of_zero_le hr.2.1.1
 obtain ⟨m, rfl⟩ := Int.eq_ofNat_of_zero_le hr.2.2.1
 have hd : d < 13 := by omega
 have hn : n < 13 := by omega
 have hm : m < 13 := by omega
 have h2' : op ≠ 2 := by simpa using h2
 have h24' : op ≠ 24 := by simpa using h24
 have ho' : op = 17 ∨ op = 18 ∨ op = 1 ∨ op = 3 ∨ op = 4 ∨ op = 5 ∨ op = 6 ∨ op = 7 ∨ op = 8 ∨ op = 9 ∨ op = 10 ∨ op = 11 ∨ op = 12 ∨ op = 13 ∨ op = 14 ∨ op = 15 ∨ op = 16 ∨ op = 19 ∨ op = 20 ∨ op = 21 ∨ op = 22 ∨ op = 23 ∨ op = 25 := by omega
 clear hr ho h2 h24 h2' h24'
 rcases ho' with rfl | rfl | rfl | rfl | rfl | rfl | rfl | rfl | rfl | rfl | rfl | rfl | rfl | rfl | rfl | rfl | rfl | rfl | rfl | rfl | rfl | rfl | rfl
 ·obtain ⟨a0, a1, -⟩ := Cs.in_17 h0
  obtain ⟨a, rfl⟩ := Int.eq_ofNat_of_zero_le a0
  exact made_17 s d n m a imm cond l wide w hd hn hm hw (by omega)
 ·obtain ⟨a0, a1, a2⟩ := Cs.in_18 h0
  obtain ⟨k, rfl⟩ := Int.eq_ofNat_of_zero_le (show 0 ≤ ra by omega)
  obtain ⟨a, rfl⟩ := Int.eq_ofNat_of_zero_le a1
  exact made_18 s d n m k a cond l wide w hd hn hm hw (by omega) (by omega)
 ·exact made_1 s d n m ra imm cond l wide w hd hn hm hw
 ·exact made_3 s d n m ra imm cond l wide w hd hn hm hw
 ·exact made_4 s d n m ra imm cond l wide w hd hn hm hw
 ·exact made_5 s d n m ra imm cond l wide w hd hn hm hw
 ·exact made_6 s d n m ra imm cond l wide w hd hn hm hw
 ·exact made_7 s d n m ra imm cond l wide w hd hn hm hw
 ·exact made_8 s d n m ra imm cond l wide w hd hn hm hw
 ·exact made_9 s d n m ra imm cond l wide w hd hn hm hw
 ·exact made_10 s d n m ra imm cond l wide w hd hn hm hw
 ·exact made_11 s d n m ra imm cond l wide w hd hn hm hw
 ·exact made_12 s d n m ra imm cond l wide w hd hn hm hw
 ·exact made_13 s d n m ra imm cond l wide w hd hn hm hw
 ·exact made_14 s d n m ra imm cond l wide w hd hn hm hw
 ·exact made_15 s d n m ra imm cond l wide w hd hn hm hw
 ·exact made_16 s d n m ra imm cond l wide w hd hn hm hw
 ·exact made_19 s d n m ra imm cond l wide w hd hn hm hw
 ·exact made_20 s d n m ra imm cond l wide w hd hn hm hw
 ·exact made_21 s d n m ra imm cond l wide w hd hn hm hw
 ·exact made_22 s d n m ra imm cond l wide w hd hn hm hw
 ·exact made_23 s d n m ra imm cond l wide w hd hn hm hw
 ·exact made_25 s d n m ra imm cond l wide w hd hn hm hw

theorem step_a (s : Cs.St) (op rd rn rm ra imm cond l : Int) (wide : Bool) (w : World) (hz : (Th.size ⟨op, rd, rn, rm, ra, imm, cond, wide⟩ == 0) = true) :
  Calls Tryz.prog 86 #[.agg (Cs.cells s), .agg #[.int .i64 op, .int .i64 rd, .int .i64 rn, .int .i64 rm, .int .i64 ra, .int .i64 imm, .int .i64 cond, .bool wide], .int .i64 l] w fun e w' => e = .returned (.tuple #[.agg (Cs.cells (Cs.stepS s ⟨op, rd, rn, rm, ra, imm, cond, wide⟩ l)), .bool (Cs.stepB ⟨op, rd, rn, rm, ra, imm, cond, wide⟩)]) ∧ Below w.heap.size w w' := by
 have H := Lib.hid (Cpu3.new w s op rd rn rm ra imm cond wide)
 go_enter Tryz.func86, Tryz.ntmps86
 go_wp2_with (first | (go_at_call 114; refine (words_any _ _).mono ?_; rintro e w1 ⟨rfl, hb⟩; replace H := Lib.hid (H.out.kept hb); (try clear i0 i1 i2 i3 i4 i5 i6 i7 ipc fz); obtain ⟨i0, i1, i2, i3, i4, i5, i6, i7⟩ := H.out.ins; have ipc := H.out.st.pc; have fz := H.out.st.open; clear hb) | (go_at_call 115; refine (size_any _ _ _ _ _ _ _ _ _).mono ?_; rintro e w1 ⟨rfl, hb⟩; replace H := Lib.hid (H.out.kept hb); (try clear i0 i1 i2 i3 i4 i5 i6 i7 ipc fz); obtain ⟨i0, i1, i2, i3, i4, i5, i6, i7⟩ := H.out.ins; have ipc := H.out.st.pc; have fz := H.out.st.open; clear hb) | ((with_reducible refine wpList_load_st H.out.st ?_ ?_); exact rfl) | ((with_reducible refine wpList_store_st H.out.st (Cs.words s) ?_ ?_); exact rfl; replace H := Lib.hid (H.out.row (Cs.words s)); (try clear i0 i1 i2 i3 i4 i5 i6 i7 ipc fz); generalize World.setRow _ w.heap.size _ = V at *; obtain ⟨i0, i1, i2, i3, i4, i5, i6, i7⟩ := H.out.ins; have ipc := H.out.st.pc; have fz := H.out.st.open) | ((with_reducible apply wpList_store_st H.out.res); exact rfl))
 try simp only [Exit.inBlock, Exit.then]
 refine bp_state2 rfl rfl ((H.out).res.setRow _) rfl ⟨?_, (H.out).end _⟩
 rw [show Cs.stepS s ⟨op, rd, rn, rm, ra, imm, cond, wide⟩ l = Cs.words s by simp only [Cs.stepS, hz, Bool.true_or, if_true], show Cs.stepB ⟨op, rd, rn, rm, ra, imm, cond, wide⟩ = false by simp [Cs.stepB, hz]]
 rfl
theorem step_b (s : Cs.St) (op rd rn rm ra imm cond l : Int) (wide : Bool) (w : World) (hz : (Th.size ⟨op, rd, rn, rm, ra, imm, cond, wide⟩ == 0) = false) (h2 : (op == 2) = true) :
  Calls Tryz.prog 86 #[.agg (Cs.cells s), .agg #[.int .i64 op, .int .i64 rd, .int .i64 rn, .int .i64 rm, .int .i64 ra, .int .i64 imm, .int .i64 cond, .bool wide], .int .i64 l] w fun e w' => e = .returned (.tuple #[.agg (Cs.cells (Cs.stepS s ⟨op, rd, rn, rm, ra, imm, cond, wide⟩ l)), .bool (Cs.stepB ⟨op, rd, rn, rm, ra, imm, cond, wide⟩)]) ∧ Below w.heap.size w w' := by
 have H := Lib.hid (Cpu3.new w s op rd rn rm ra imm cond wide)
 go_enter Tryz.func86, Tryz.ntmps86
 go_wp2_with (first | (go_at_call 114; refine (words_any _ _).mono ?_; rintro e w1 ⟨rfl, hb⟩; replace H := Lib.hid (H.out.kept hb); (try clear i0 i1 i2 i3 i4 i5 i6 i7 ipc fz); obtain ⟨i0, i1, i2, i3, i4, i5, i6, i7⟩ := H.out.ins; have ipc := H.out.st.pc; have fz := H.out.st.open; clear hb) | (go_at_call 115; refine (size_any _ _ _ _ _ _ _ _ _).mono ?_; rintro e w1 ⟨rfl, hb⟩; replace H := Lib.hid (H.out.kept hb); (try clear i0 i1 i2 i3 i4 i5 i6 i7 ipc fz); obtain ⟨i0, i1, i2, i3, i4, i5, i6, i7⟩ := H.out.ins; have ipc := H.out.st.pc; have fz := H.out.st.open; clear hb) | ((with_reducible refine wpList_load_st H.out.st ?_ ?_); exact rfl) | ((with_reducible refine wpList_store_st H.out.st (Cs.words s) ?_ ?_); exact rfl; replace H := Lib.hid (H.out.row (Cs.words s)); (try clear i0 i1 i2 i3 i4 i5 i6 i7 ipc fz); generalize World.setRow _ w.heap.size _ = V at *; obtain ⟨i0, i1, i2, i3, i4, i5, i6, i7⟩ := H.out.ins; have ipc := H.out.st.pc; have fz := H.out.st.open) | ((with_reducible apply wpList_store_st H.out.res); exact rfl))
 try simp only [Exit.inBlock, Exit.then]
 refine bp_state2 rfl rfl ((H.out).res.setRow _) rfl ⟨?_, (H.out).end _⟩
 rw [show Cs.stepS s ⟨op, rd, rn, rm, ra, imm, cond, wide⟩ l = Cs.words s by simp only [Cs.stepS, h2, Bool.or_true, if_true], show Cs.stepB ⟨op, rd, rn, rm, ra, imm, cond, wide⟩ = false by simp [Cs.stepB, h2]]
 rfl
theorem step_c (s : Cs.St) (op rd rn rm ra imm cond l : Int) (wide : Bool) (w : World) (hz : (Th.size ⟨op, rd, rn, rm, ra, imm, cond, wide⟩ == 0) = false) (h2 : (op == 2) = false) (ht : Cs.taken (Cs.words s) op cond = true) :
  Calls Tryz.prog 86 #[.agg (Cs.cells s), .agg #[.int .i64 op, .int .i64 rd, .int .i64 rn, .int .i64 rm, .int .i64 ra, .int .i64 imm, .int .i64 cond, .bool wide], .int .i64 l] w fun e w' => e = .returned (.tuple #[.agg (Cs.cells (Cs.stepS s ⟨op, rd, rn, rm, ra, imm, cond, wide⟩ l)), .bool (Cs.stepB ⟨op, rd, rn, rm, ra, imm, cond, wide⟩)]) ∧ Below w.heap.size w w' := by
 have H := Lib.hid (Cpu3.new w s op rd rn rm ra imm cond wide)
 go_enter Tryz.func86, Tryz.ntmps86
 go_wp2_with (first | (go_at_call 114; refine (words_any _ _).mono ?_; rintro e w1 ⟨rfl, hb⟩; replace H := Lib.hid (H.out.kept hb); (try clear i0 i1 i2 i3 i4 i5 i6 i7 ipc fz); obtain ⟨i0, i1, i2, i3, i4, i5, i6, i7⟩ := H.out.ins; have ipc := H.out.st.pc; have fz := H.out.st.open; clear hb) | (go_at_call 115; refine (size_any _ _ _ _ _ _ _ _ _).mono ?_; rintro e w1 ⟨rfl, hb⟩; replace H := Lib.hid (H.out.kept hb); (try clear i0 i1 i2 i3 i4 i5 i6 i7 ipc fz); obtain ⟨i0, i1, i2, i3, i4, i5, i6, i7⟩ := H.out.ins; have ipc := H.out.st.pc; have fz := H.out.st.open; clear hb) | (go_at_call 116; refine (taken_any _ _ _ _ _ _ _ _ _ _).mono ?_; rintro e w1 ⟨rfl, hb⟩; replace H := Lib.hid (H.out.kept hb); (try clear i0 i1 i2 i3 i4 i5 i6 i7 ipc fz); obtain ⟨i0, i1, i2, i3, i4, i5, i6, i7⟩ := H.out.ins; have ipc := H.out.st.pc; have fz := H.out.st.open; clear hb) | (go_at_call 57; refine (add_any _ _ _).mono ?_; rintro e w1 ⟨rfl, rfl⟩) | ((with_reducible refine wpList_load_st H.out.st ?_ ?_); exact rfl) | ((with_reducible refine wpList_store_st H.out.st (Cs.words s) ?_ ?_); exact rfl; replace H := Lib.hid (H.out.row (Cs.words s)); (try clear i0 i1 i2 i3 i4 i5 i6 i7 ipc fz); generalize World.setRow _ w.heap.size _ = V at *; obtain ⟨i0, i1, i2, i3, i4, i5, i6, i7⟩ := H.out.ins; have ipc := H.out.st.pc; have fz := H.out.st.open) | ((with_reducible refine wpList_load_st (H.out.pc _).st ?_ ?_); exact rfl) | ((with_reducible apply wpList_store_st (H.out.pc _).res); exact rfl))
 try simp only [Exit.inBlock, Exit.then]
 refine bp_state2 rfl rfl ((H.out.pc _).res.setRow _) rfl ⟨?_, (H.out.pc _).end _⟩
 rw [show Cs.stepS s ⟨op, rd, rn, rm, ra, imm, cond, wide⟩ l = { Cs.words s with pc := Wd.add (Cs.words s).pc (wrap64 (4 + imm)) } by simp only [Cs.stepS, hz, h2, Bool.or_false, Bool.false_eq_true, if_false]; rw [if_pos (by rw [← Cs.taken_words]; exact ht), Cs.add_w]; rfl, show Cs.stepB ⟨op, rd, rn, rm, ra, imm, cond, wide⟩ = true by simp [Cs.stepB, hz, h2]]
 rfl
theorem step_d (s : Cs.St) (op rd rn rm ra imm cond l : Int) (wide : Bool) (w : World) (hz : (Th.size ⟨op, rd, rn, rm, ra, imm, cond, wide⟩ == 0) = false) (h2 : (op == 2) = false) (ht : Cs.taken (Cs.words s) op cond = false) :
  Calls Tryz.prog 86 #[.agg (Cs.cells s), .agg #[.int .i64 op, .int .i64 rd, .int .i64 rn, .int .i64 rm, .int .i64 ra, .int .i64 imm, .int .i64 cond, .bool wide], .int .i64 l] w fun e w' => e = .returned (.tuple #[.agg (Cs.cells (Cs.stepS s ⟨op, rd, rn, rm, ra, imm, cond, wide⟩ l)), .bool (Cs.stepB ⟨op, rd, rn, rm, ra, imm, cond, wide⟩)]) ∧ Below w.heap.size w w' := by
 have h0 := Cs.size_check _ hz
 have h24 : (op == 24) = false := by cases h : (op == 24) with
  | false => rfl
  | true => simp [Cs.taken, h] at ht
 have H := Lib.hid (Cpu3.new w s op rd rn rm ra imm cond wide)
 go_enter Tryz.func86, Tryz.ntmps86
 go_wp2_with (first | (go_at_call 114; refine (words_any _ _).mono ?_; rintro e w1 ⟨rfl, hb⟩; replace H := Lib.hid (H.out.kept hb); (try clear i0 i1 i2 i3 i4 i5 i6 i7 ipc fz); obtain ⟨i0, i1, i2, i3, i4, i5, i6, i7⟩ := H.out.ins; have ipc := H.out.st.pc; have fz := H.out.st.open; clear hb) | (go_at_call 115; refine (size_any _ _ _ _ _ _ _ _ _).mono ?_; rintro e w1 ⟨rfl, hb⟩; replace H := Lib.hid (H.out.kept hb); (try clear i0 i1 i2 i3 i4 i5 i6 i7 ipc fz); obtain ⟨i0, i1, i2, i3, i4, i5, i6, i7⟩ := H.out.ins; have ipc := H.out.st.pc; have fz := H.out.st.open; clear hb) | (go_at_call 116; refine (taken_any _ _ _ _ _ _ _ _ _ _).mono ?_; rintro e w1 ⟨rfl, hb⟩; replace H := Lib.hid (H.out.kept hb); (try clear i0 i1 i2 i3 i4 i5 i6 i7 ipc fz); obtain ⟨i0, i1, i2, i3, i4, i5, i6, i7⟩ := H.out.ins; have ipc := H.out.st.pc; have fz := H.out.st.open; clear hb) | (go_at_call 117; refine (made_any _ _ _ _ _ _ _ _ _ _ _ h0 h2 h24 (Cs.words_bd s)).mono ?_; rintro e w1 ⟨rfl, hb⟩; replace H := Lib.hid (H.out.kept hb); (try clear i0 i1 i2 i3 i4 i5 i6 i7 ipc fz); obtain ⟨i0, i1, i2, i3, i4, i5, i6, i7⟩ := H.out.ins; have ipc := H.out.st.pc; have fz := H.out.st.open; clear hb) | (go_at_call 57; refine (add_any _ _ _).mono ?_; rintro e w1 ⟨rfl, rfl⟩) | ((with_reducible refine wpList_load_st H.out.st ?_ ?_); exact rfl) | ((with_reducible refine wpList_store_st H.out.st (Cs.words s) ?_ ?_); exact rfl; replace H := Lib.hid (H.out.row (Cs.words s)); (try clear i0 i1 i2 i3 i4 i5 i6 i7 ipc fz); generalize World.setRow _ w.heap.size _ = V at *; obtain ⟨i0, i1, i2, i3, i4, i5, i6, i7⟩ := H.out.ins; have ipc := H.out.st.pc; have fz := H.out.st.open) | ((with_reducible refine wpList_store_st H.out.st (Cs.made (Cs.words s) ⟨op, rd, rn, rm, ra, imm, cond, wide⟩ l) ?_ ?_); exact rfl; replace H := Lib.hid (H.out.row (Cs.made (Cs.words s) ⟨op, rd, rn, rm, ra, imm, cond, wide⟩ l)); (try clear i0 i1 i2 i3 i4 i5 i6 i7 ipc fz); generalize World.setRow _ w.heap.size _ = V at *; obtain ⟨i0, i1, i2, i3, i4, i5, i6, i7⟩ := H.out.ins; have ipc := H.out.st.pc; have fz := H.out.st.open) | ((with_reducible refine wpList_load_st (H.out.pc _).st ?_ ?_); exact rfl) | ((with_reducible apply wpList_store_st (H.out.pc _).res); exact rfl))
 try simp only [Exit.inBlock, Exit.then]
 refine bp_state2 rfl rfl ((H.out.pc _).res.setRow _) rfl ⟨?_, (H.out.pc _).end _⟩
 rw [show Cs.stepS s ⟨op, rd, rn, rm, ra, imm, cond, wide⟩ l = { Cs.made (Cs.words s) ⟨op, rd, rn, rm, ra, imm, cond, wide⟩ l with pc := Wd.add (Cs.made (Cs.words s) ⟨op, rd, rn, rm, ra, imm, cond, wide⟩ l).pc (Th.size ⟨op, rd, rn, rm, ra, imm, cond, wide⟩) } by simp only [Cs.stepS, hz, h2, Bool.or_false, Bool.false_eq_true, if_false]; rw [if_neg (by rw [← Cs.taken_words, ht]; decide), Cs.made_pc]; rfl, show Cs.stepB ⟨op, rd, rn, rm, ra, imm, cond, wide⟩ = true by simp [Cs.stepB, hz, h2]]
 rfl
theorem step_any (s : Cs.St) (op rd rn rm ra imm cond l : Int) (wide : Bool) (w : World) :
  Calls Tryz.prog 86 #[.agg (Cs.cells s), .agg #[.int .i64 op, .int .i64 rd, .int .i64 rn, .int .i64 rm, .int .i64 ra, .int .i64 imm, .int .i64 cond, .bool wide], .int .i64 l] w fun e w' => e = .returned (.tuple #[.agg (Cs.cells (Cs.stepS s ⟨op, rd, rn, rm, ra, imm, cond, wide⟩ l)), .bool (Cs.stepB ⟨op, rd, rn, rm, ra, imm, cond, wide⟩)]) ∧ Below w.heap.size w w' := by
 cases hz : (Th.size ⟨op, rd, rn, rm, ra, imm, cond, wide⟩ == 0)
 ·cases h2 : (op == 2)
  ·cases ht : Cs.taken (Cs.words s) op cond
   ·exact step_d s op rd rn rm ra imm cond l wide w hz h2 ht
   ·exact step_c s op rd rn rm ra imm cond l wide w hz h2 ht
  ·exact step_b s op rd rn rm ra imm cond l wide w hz h2
 ·exact step_a s op rd rn rm ra imm cond l wide w hz
end Go.Proofs.YthciobjklhkkcaaGreat
end
section
namespace Go.Proofs.YthciobjklhkkcaaGreat
open Go.ChangeShapes Go.WideShapes Go.ChangeAt Go.RowKit
set_option maxHeartbeats 4000000
set_option maxRecDepth 100000
set_option linter.unusedVariables false

theorem load_no (l : My.Loc) (s : My.St) (M : Int → UInt8) (a n E : Int) (w : World) (hm : Hid (MemAt w l s M)) (hg : Hid (My.good s)) (ha : Hid (a ≤ 9223372036854775807)) (hE : Hid (My.fe s a n false = E)) (h0 : ¬ E = 0) :
  Calls Tryz.prog 41 #[.pointer (some ⟨l.p, 0, none⟩), .int .i64 a, .int .i64 n] w fun e w' => e = .returned (.tuple #[.int .i64 0, .int .i64 E]) ∧ Below w.heap.size w w' := by
 go_enter Tryz.func41, Tryz.ntmps41
 go_wp2_with (go_at_call 61; refine (asked_no l s M a n E false w hm hg ha hE h0).mono ?_; rintro e w1 ⟨rfl, hb1⟩; have HB := Lib.hid hb1; clear hb1)
 exact bodyPost_ret (v := .tuple #[.int .i64 0, .int .i64 E]) (by simp [results, Tryz.results41, go_sem]) rfl ⟨rfl, HB.out⟩
theorem addr_add (g o j : Nat) : (⟨g, o, none⟩ : Addr).add j = ⟨g, o + j, none⟩ := by unfold Addr.add; split <;> simp_all
theorem alloc_setRow (W : World) (A B : Array Value) (t : TypeId) : (W.alloc (.cells A t)).setRow W.heap.size B = W.alloc (.cells B t) := by
 unfold World.setRow World.alloc
 simp only
 congr 1
 apply Array.ext
 ·simp
 ·intro i h1 h2
  rw [Array.getElem_modify]
  by_cases e : W.heap.size = i
  ·subst e
   simp
  ·rw [if_neg e]
   have hi : i < W.heap.size := by simp at h2; omega
   simp [Array.getElem_push, hi]
theorem four_cells (b0 b1 b2 b3 : UInt8) : (Lib.byteCells [b0, b1, b2, b3]).toArray = #[.int .u8 (b0.toNat : Int), .int .u8 (b1.toNat : Int), .int .u8 (b2.toNat : Int), .int .u8 (b3.toNat : Int)] := rfl
theorem four_str (b0 b1 b2 b3 : UInt8) : strOfNums [(b0.toNat : Int), (b1.toNat : Int), (b2.toNat : Int), (b3.toNat : Int)] = ⟨#[b0, b1, b2, b3]⟩ := str_row [b0, b1, b2, b3]
/-- the bytes of an access, in the cells of an array -/
def My.arr (M : Int → UInt8) (a : Int) (m : Nat) : List UInt8 := My.row M a m ++ List.replicate (4 - m) 0
theorem My.arr_of (M : Int → UInt8) (a : Int) {m : Nat} (h : m = 1 ∨ m = 4) : ∃ b0 b1 b2 b3, My.arr M a m = [b0, b1, b2, b3] ∧ Wd.four b0 b1 b2 b3 = My.num M a (m : Nat) := by
 rcases h with rfl | rfl
 ·refine ⟨M a, 0, 0, 0, ?_, ?_⟩
  ·show [M (a + 0)] ++ [0, 0, 0] = _
   rw [show a + 0 = a by omega]; rfl
  ·show _ = (if ((1 : Nat) : Int) = 1 then _ else _)
   rw [if_pos (by decide)]
 ·refine ⟨M a, M (a + 1), M (a + 2), M (a + 3), ?_, ?_⟩
  ·show [M (a + 0), M (a + 1), M (a + 2), M (a + 3)] ++ [] = _
   rw [show a + 0 = a by omega]; rfl
  ·show _ = (if ((4 : Nat) : Int) = 1 then _ else _)
   rw [if_neg (by decide)]
theorem run_load {W : World} {g k o m c : Nat} {l : List UInt8} {t : TypeId} (hl : RowAt W g l) (M : Int → UInt8) (a : Int) (hm : m = 1 ∨ m = 4) (hc : (l.drop o).take m = My.row M a m) (ho : o + m ≤ l.length) :
  (Builtin.copy_ #[115, 115] 3 #[.slice (some ⟨W.heap.size, 0, none⟩) 4 4, .slice (some ⟨g, o, none⟩) m c]).run Tryz.prog (W.alloc (.cells #[.int .u8 0, .int .u8 0, .int .u8 0, .int .u8 0] t)) =
   .ok (goInt m) ((W.alloc (.cells #[.int .u8 0, .int .u8 0, .int .u8 0, .int .u8 0] t)).setRow W.heap.size (Lib.byteCells (My.arr M a m)).toArray) := by
 have hcl : (Lib.byteCells (My.row M a m)).length = m := by rw [Lib.byteCells_length, My.row_len]
 have hmin : m = Nat.min m 4 := by show m = min m 4; omega
 have h := run_copy_row Tryz.prog (W.alloc (.cells #[.int .u8 0, .int .u8 0, .int .u8 0, .int .u8 0] t)) 115 115 3 5 W.heap.size 0 4 4 ⟨g, o, none⟩ m c #[.int .u8 0, .int .u8 0, .int .u8 0, .int .u8 0] t (Lib.byteCells (My.row M a m)) Tryz.underlying115 (by kernel_rfl)
  (by show (W.heap.push _)[W.heap.size]? = _; rw [Array.getElem?_push_size]) (by rw [hcl]; exact hmin) (fun j v hj => by
   have hjm : j < m := by
    apply Nat.lt_of_not_le
    intro hge
    rw [List.getElem?_eq_none (by rw [hcl]; exact hge)] at hj
    cases hj
   rw [addr_add]
   have hlt := hl.lt
   have e1 : (W.alloc (.cells #[.int .u8 0, .int .u8 0, .int .u8 0, .int .u8 0] t)).cell? ⟨g, o + j, none⟩ = W.cell? ⟨g, o + j, none⟩ := World.cell?_of_block (w := W) (Below.heap_alloc _ _ _ hlt)
   rw [e1, row_cell hl (o + j) (by omega)]
   rw [← hc] at hj
   simp only [Lib.byteCells, List.getElem?_map, List.getElem?_take, if_pos hjm, List.getElem?_drop] at hj
   rw [List.getElem?_eq_getElem (by omega)] at hj
   simpa using hj) (by rw [hcl]; rcases hm with rfl | rfl <;> decide) (Lib.byteCells_one _)
 rw [h, hcl]
 congr 2
 unfold My.arr
 rw [Lib.byteCells_append]
 rcases hm with rfl | rfl <;> simp [Lib.byteCells, List.replicate]
theorem load_ok (l : My.Loc) (s : My.St) (M : Int → UInt8) (k o m : Nat) (w : World) (hm : Hid (MemAt w l s M)) (hg : Hid (My.good s)) (hk : k < 7) (ho : Hid (o + m ≤ My.ln s k)) (h4 : Hid (m = 1 ∨ m = 4)) (hF : Hid (Mm.find (My.sev s) (My.bs s k + (o : Nat)) (m : Nat) false = ((k : Int), 0))) :
  Calls Tryz.prog 41 #[.pointer (some ⟨l.p, 0, none⟩), .int .i64 (My.bs s k + (o : Nat)), .int .i64 (m : Nat)] w fun e w' => e = .returned (.tuple #[.int .i64 (My.num M (My.bs s k + (o : Nat)) (m : Nat)), .int .i64 0]) ∧ Below w.heap.size w w' := by
 have C : Hid _ := Lib.hid (asked_ok l s M k o m false w hm hg hk ho (by have := h4.out; omega) (by have := h4.out; omega) hF)
 have R : Hid (∀ (w1 : World) (c : Nat) (t : TypeId), Below w.heap.size w w1 → _) := Lib.hid fun w1 c t hb => run_load (g := l.G k) (k := k) (o := o) (m := m) (c := c) (t := t) ((hm.out.kept hb).bytes k hk) M (My.bs s k + (o : Nat)) h4.out (My.row_cut M (My.bs s k) (My.ln s k) o m ho.out) (by rw [My.row_len]; exact ho.out)
 obtain ⟨b0, b1, b2, b3, hA, hN⟩ := My.arr_of M (My.bs s k + (o : Nat)) h4.out
 simp only [hA, alloc_setRow, four_cells] at R
 rw [← hN]
 clear hA hN
 generalize My.bs s k + (o : Nat) = a at *
 go_enter Tryz.func41, Tryz.ntmps41
 go_wp2_with (first
  | (go_at_call 61; refine C.out.mono ?_; rintro e w1 ⟨⟨c1, rfl⟩, hb1⟩; have HR := Lib.hid (R.out w1 c1 132 hb1); have hcv := run_str4 w1 b0.toNat b1.toNat b2.toNat b3.toNat 132; rw [four_str] at hcv; have HB := Lib.hid hb1; clear hb1))
 rw [HR.out]
 simp only [Result.andThen]
 rw [Oper.upon_value]
 clear HR R
 go_wp2_with (go_at_call 62; refine (of_yes _ _ _ _ _).mono ?_; rintro e w2 ⟨rfl, rfl⟩)
 exact bodyPost_ret (v := .tuple #[.int .i64 (Wd.four b0 b1 b2 b3), .int .i64 0]) (by simp [results, Tryz.results41, go_sem]) rfl ⟨rfl, HB.out.alloc HB.out.size _⟩
/-- what Load returns -/
theorem load_any (l : My.Loc) (s : My.St) (M : Int → UInt8) (a n : Int) (w : World) (hm : MemAt w l s M) (hg : My.good s) (ha : a ≤ 9223372036854775807) :
  Calls Tryz.prog 41 #[.pointer (some ⟨l.p, 0, none⟩), .int .i64 a, .int .i64 n] w fun e w' => e = .returned (.tuple #[.int .i64 (My.load s M a n).1, .int .i64 (My.load s M a n).2]) ∧ Below w.heap.size w w' := by
 by_cases h0 : My.fe s a n false = 0
 ·obtain ⟨k, o, m, hk, hF, rfl, rfl, h4, ho, -, -, -⟩ := My.found hg h0
  have := load_ok l s M k o m w (Lib.hid hm) (Lib.hid hg) hk (Lib.hid ho) (Lib.hid h4) (Lib.hid hF)
  unfold My.load
  rw [if_pos h0]
  exact this
 ·have := load_no l s M a n _ w (Lib.hid hm) (Lib.hid hg) (Lib.hid ha) (Lib.hid rfl) h0
  unfold My.load
  rw [if_neg h0]
  exact this
theorem store_no (l : My.Loc) (s : My.St) (M : Int → UInt8) (a n v E : Int) (w : World) (hm : Hid (MemAt w l s M)) (hg : Hid (My.good s)) (ha : Hid (a ≤ 9223372036854775807)) (hE : Hid (My.fe s a n true = E)) (h0 : ¬ E = 0) :
  Calls Tryz.prog 146 #[.pointer (some ⟨l.p, 0, none⟩), .int .i64 a, .int .i64 n, .int .i64 v] w fun e w' => e = .returned (.int .i64 E) ∧ Below w.heap.size w w' := by
 go_enter Tryz.func146, Tryz.ntmps146
 go_wp2_with (go_at_call 61; refine (asked_no l s M a n E true w hm hg ha hE h0).mono ?_; rintro e w1 ⟨rfl, hb1⟩; have HB := Lib.hid hb1; clear hb1)
 go_ret
 exact ⟨rfl, HB.out⟩
theorem cells_take (l : List UInt8) (n : Nat) : (Lib.byteCells l).take n = Lib.byteCells (l.take n) := by simp [Lib.byteCells, List.map_take]
theorem cells_drop (l : List UInt8) (n : Nat) : (Lib.byteCells l).drop n = Lib.byteCells (l.drop n) := by simp [Lib.byteCells, List.map_drop]
/-- a string's bytes are copied over a row's -/
theorem run_over {W : World} {g o d c n : Nat} {l : List UInt8} (hl : RowAt W g l) (s : ByteArray) (hn : Nat.min s.size d = n) (ho : o + n ≤ l.length) :
  (Builtin.copy_ #[115, 9] 3 #[.slice (some ⟨g, o, none⟩) d c, .string s]).run Tryz.prog W =
   .ok (goInt n) (W.setRow g (Lib.byteCells (l.take o ++ s.data.toList.take n ++ l.drop (o + n))).toArray) := by
 have hle : n ≤ s.size := by rw [← hn]; exact Nat.min_le_left _ _
 have hcl : (Lib.byteCells (s.data.toList.take n)).length = n := by rw [Lib.byteCells_length, List.length_take, My.bl]; omega
 have hst := run_storeCells_at Tryz.prog g o 5 (Lib.byteCells (s.data.toList.take n)) 0 (Lib.byteCells l).toArray W hl (by rw [hcl]; simp [Lib.byteCells]; omega) (Lib.byteCells_one _)
 obtain ⟨i, hq, h1, -, -⟩ := info_u8
 simp [Builtin.copy_, run_underlying Tryz.underlying115, Builtin.lenOf, Builtin.firstCells, sizeOf, typeInfo, hq, hn]
 have e : List.take n (List.map (fun b : UInt8 => Value.int IntKind.u8 (b.toNat : Int)) s.data.toList) = Lib.byteCells (s.data.toList.take n) := by simp [Lib.byteCells, List.map_take]
 rw [e, hst]
 simp only [Nat.add_zero, hcl, cells_take, cells_drop, ← Lib.byteCells_append]
 simp [Result.andThen]
theorem store_ok (l : My.Loc) (s : My.St) (M : Int → UInt8) (k o m : Nat) (v : Int) (w : World) (hm : Hid (MemAt w l s M)) (hg : Hid (My.good s)) (hk : k < 7) (ho : Hid (o + m ≤ My.ln s k)) (h4 : Hid (m = 1 ∨ m = 4)) (hF : Hid (Mm.find (My.sev s) (My.bs s k + (o : Nat)) (m : Nat) true = ((k : Int), 0))) :
  Calls Tryz.prog 146 #[.pointer (some ⟨l.p, 0, none⟩), .int .i64 (My.bs s k + (o : Nat)), .int .i64 (m : Nat), .int .i64 v] w fun e w' => e = .returned (.int .i64 0) ∧ MemAt w' l s (My.put M (My.bs s k + (o : Nat)) (m : Nat) v) ∧ Rest l.own w w' := by
 have C : Hid _ := Lib.hid (asked_ok l s M k o m true w hm hg hk ho (by have := h4.out; omega) (by have := h4.out; omega) hF)
 have R : Hid (∀ (w1 : World) (c : Nat), Below w.heap.size w w1 → _) := Lib.hid fun w1 c hb => run_over (g := l.G k) (o := o) (d := m) (c := c) (n := m) ((hm.out.kept hb).bytes k hk) (Wd.bytes v) (by show min 4 m = m; have := h4.out; omega) (by rw [My.row_len]; exact ho.out)
 have P : Hid (∀ w1 : World, Below w.heap.size w w1 → MemAt (w1.setRow (l.G k) (Lib.byteCells (My.row (My.put M (My.bs s k + (o : Nat)) (m : Nat) v) (My.bs s k) (My.ln s k))).toArray) l s (My.put M (My.bs s k + (o : Nat)) (m : Nat) v) ∧ Rest l.own w (w1.setRow (l.G k) (Lib.byteCells (My.row (My.put M (My.bs s k + (o : Nat)) (m : Nat) v) (My.bs s k) (My.ln s k))).toArray)) := Lib.hid fun w1 hb => ⟨(hm.out.kept hb).set hk (fun j hj hne => My.put_far hg.out M hk hj hne ho.out v) rfl, (Rest.of hb).trans (Rest.setRow ⟨k, hk, rfl⟩ _)⟩
 have e := My.row_put M (My.bs s k) (My.ln s k) o m v ho.out (by have := h4.out; omega)
 rw [e] at R
 clear e
 generalize My.put M (My.bs s k + (o : Nat)) (m : Nat) v = M' at *
 generalize My.row M' (My.bs s k) (My.ln s k) = row at *
 generalize My.bs s k + (o : Nat) = a at *
 go_enter Tryz.func146, Tryz.ntmps146
 go_wp2_with (first
  | (go_at_call 61; refine C.out.mono ?_; rintro e w1 ⟨⟨c1, rfl⟩, hb1⟩; have HB := Lib.hid hb1; clear hb1)
  | (go_at_call 78; refine (bytes_any _ _).mono ?_; rintro e w2 ⟨rfl, hb2⟩; have HB2 := Lib.hid (HB.out.trans (hb2.mono HB.out.size)); clear hb2; have HR := Lib.hid (R.out w2 c1 HB2.out)))
 rw [HR.out]
 simp only [Result.andThen]
 rw [Oper.upon_value]
 have HP := Lib.hid (P.out w2 HB2.out)
 clear HR R P
 go_wp2
 go_ret
 exact ⟨rfl, HP.out⟩
/-- what Store returns, and what it changes -/
theorem store_any (l : My.Loc) (s : My.St) (M : Int → UInt8) (a n v : Int) (w : World) (hm : MemAt w l s M) (hg : My.good s) (ha : a ≤ 9223372036854775807) :
  Calls Tryz.prog 146 #[.pointer (some ⟨l.p, 0, none⟩), .int .i64 a, .int .i64 n, .int .i64 v] w fun e w' => e = .returned (.int .i64 (My.fe s a n true)) ∧ MemAt w' l s (if My.fe s a n true = 0 then My.put M a n v else M) ∧ Rest l.own w w' := by
 by_cases h0 : My.fe s a n true = 0
 ·obtain ⟨k, o, m, hk, hF, rfl, rfl, h4, ho, -, -, -⟩ := My.found hg h0
  have := store_ok l s M k o m v w (Lib.hid hm) (Lib.hid hg) hk (Lib.hid ho) (Lib.hid h4) (Lib.hid hF)
  rw [if_pos h0, h0]
  exact this
 ·have := store_no l s M a n v _ w (Lib.hid hm) (Lib.hid hg) (Lib.hid ha) (Lib.hid rfl) h0
  rw [if_neg h0]
  exact this.mono fun e w' ⟨h1, h2⟩ => ⟨h1, hm.kept h2, Rest.of h2⟩
end Go.Proofs.YthciobjklhkkcaaGreat
end
