/-
  What made, Step, Access and Cycles of package cpu return.
-/
import Derived.Test.YtennhpfhgbmnfaaCpuC1
import Derived.Test.YtennhpfhgbmnfaaCpuC2
import Derived.Test.YtennhpfhgbmnfaaCpuC3
import Derived.Test.YtennhpfhgbmnfaaCpuC4
import Derived.Test.YtennhpfhgbmnfaaCpuM3
import Derived.Test.YtennhpfhgbmnfaaThumbK
namespace Go.Proofs.Ytennhpfhgbmnfaa
open Go.ChangeShapes Go.WideShapes Go.ChangeAt Go.RowKit
set_option linter.unusedVariables false

theorem made_any (s : Cs.St) (op rd rn rm ra imm cond l : Int) (wide : Bool) (w : World) (h0 : Th.check ⟨op, rd, rn, rm, ra, imm, cond, wide⟩ = 0) (h2 : (op == 2) = false) (h24 : (op == 24) = false) (hw : ∀ j, 0 ≤ s.r j ∧ s.r j < 4294967296) :
    Calls Try.prog 25 #[.agg (Cs.cells s), .agg #[.int .i64 op, .int .i64 rd, .int .i64 rn, .int .i64 rm, .int .i64 ra, .int .i64 imm, .int .i64 cond, .bool wide], .int .i64 l] w fun e w' => e = .returned (.agg (Cs.cells (Cs.made s ⟨op, rd, rn, rm, ra, imm, cond, wide⟩ l))) ∧ Below w.heap.size w w' := by
  have hr := Cs.in_regs h0
  have ho := Cs.in_ops h0
  simp only at hr ho
  obtain ⟨d, rfl⟩ := Int.eq_ofNat_of_zero_le hr.1.1
  obtain ⟨n, rfl⟩ := Int.eq_ofNat_of_zero_le hr.2.1.1
  obtain ⟨m, rfl⟩ := Int.eq_ofNat_of_zero_le hr.2.2.1
  have hd : d < 13 := by omega
  have hn : n < 13 := by omega
  have hm : m < 13 := by omega
  have h2' : op ≠ 2 := by simpa using h2
  have h24' : op ≠ 24 := by simpa using h24
  have ho' : op = 17 ∨ op = 18 ∨ op = 1 ∨ op = 3 ∨ op = 4 ∨ op = 5 ∨ op = 6 ∨ op = 7 ∨ op = 8 ∨ op = 9 ∨ op = 10 ∨ op = 11 ∨ op = 12 ∨ op = 13 ∨ op = 14 ∨ op = 15 ∨ op = 16 ∨ op = 19 ∨ op = 20 ∨ op = 21 ∨ op = 22 ∨ op = 23 ∨ op = 25 := by omega
  clear hr ho h2 h24 h2' h24'
  rcases ho' with rfl | rfl | rfl | rfl | rfl | rfl | rfl | rfl | rfl | rfl | rfl | rfl | rfl | rfl | rfl | rfl | rfl | rfl | rfl | rfl | rfl | rfl | rfl
  · obtain ⟨a0, a1, -⟩ := Cs.in_17 h0
    obtain ⟨a, rfl⟩ := Int.eq_ofNat_of_zero_le a0
    exact made_17 s d n m a imm cond l wide w hd hn hm hw (by omega)
  · obtain ⟨a0, a1, a2⟩ := Cs.in_18 h0
    obtain ⟨k, rfl⟩ := Int.eq_ofNat_of_zero_le (show 0 ≤ ra by omega)
    obtain ⟨a, rfl⟩ := Int.eq_ofNat_of_zero_le a1
    exact made_18 s d n m k a cond l wide w hd hn hm hw (by omega) (by omega)
  · exact made_1 s d n m ra imm cond l wide w hd hn hm hw
  · exact made_3 s d n m ra imm cond l wide w hd hn hm hw
  · exact made_4 s d n m ra imm cond l wide w hd hn hm hw
  · exact made_5 s d n m ra imm cond l wide w hd hn hm hw
  · exact made_6 s d n m ra imm cond l wide w hd hn hm hw
  · exact made_7 s d n m ra imm cond l wide w hd hn hm hw
  · exact made_8 s d n m ra imm cond l wide w hd hn hm hw
  · exact made_9 s d n m ra imm cond l wide w hd hn hm hw
  · exact made_10 s d n m ra imm cond l wide w hd hn hm hw
  · exact made_11 s d n m ra imm cond l wide w hd hn hm hw
  · exact made_12 s d n m ra imm cond l wide w hd hn hm hw
  · exact made_13 s d n m ra imm cond l wide w hd hn hm hw
  · exact made_14 s d n m ra imm cond l wide w hd hn hm hw
  · exact made_15 s d n m ra imm cond l wide w hd hn hm hw
  · exact made_16 s d n m ra imm cond l wide w hd hn hm hw
  · exact made_19 s d n m ra imm cond l wide w hd hn hm hw
  · exact made_20 s d n m ra imm cond l wide w hd hn hm hw
  · exact made_21 s d n m ra imm cond l wide w hd hn hm hw
  · exact made_22 s d n m ra imm cond l wide w hd hn hm hw
  · exact made_23 s d n m ra imm cond l wide w hd hn hm hw
  · exact made_25 s d n m ra imm cond l wide w hd hn hm hw

/-- a state, an instruction, and a result's state, in three blocks; nothing but new memory is other than it was -/
structure Cpu3 (w : World) (n : Nat) (W : World) (s : Cs.St) (op rd rn rm ra imm cond : Int) (wide : Bool) : Prop where
  st : StateAt W n s
  ins : InsAt W (n + 1) op rd rn rm ra imm cond wide
  res : StateAt W (n + 1 + 1) Cs.none
  bel : Below n w W
section
variable {w W W' : World} {n : Nat} {s : Cs.St} {op rd rn rm ra imm cond : Int} {wide : Bool}
theorem Cpu3.kept (h : Cpu3 w n W s op rd rn rm ra imm cond wide) (hb : Below W.heap.size W W') : Cpu3 w n W' s op rd rn rm ra imm cond wide := by
  have := h.res.lt
  exact ⟨h.st.below hb, h.ins.below hb (by omega), h.res.below hb, h.bel.trans (hb.mono (by omega))⟩
theorem InsAt.setRow {b : Nat} (h : InsAt W b op rd rn rm ra imm cond wide) (g : Nat) (cs : Array Value) (hne : b ≠ g) : InsAt (W.setRow g cs) b op rd rn rm ra imm cond wide := by
  obtain ⟨h0, h1, h2, h3, h4, h5, h6, h7⟩ := h
  refine ⟨?_, ?_, ?_, ?_, ?_, ?_, ?_, ?_⟩ <;> (rw [cell_setRow_other _ _ _ _ hne]; assumption)
theorem Cpu3.row (h : Cpu3 w n W s op rd rn rm ra imm cond wide) (t : Cs.St) : Cpu3 w n (W.setRow n (Cs.cells t)) t op rd rn rm ra imm cond wide :=
  ⟨h.st.setRow t, h.ins.setRow n _ (by omega), h.res.otherRow n _ (by omega), below_setRow h.bel (Nat.le_refl _) _⟩
theorem Cpu3.pc (h : Cpu3 w n W s op rd rn rm ra imm cond wide) (x : Int) : Cpu3 w n (W.setCell ⟨n, 15, none⟩ (.int .i64 x)) { s with pc := x } op rd rn rm ra imm cond wide :=
  ⟨h.st.set 15 _ (Cs.cells_spc s x), h.ins.set _ _ (by show n + 1 ≠ n; omega), h.res.other _ _ (by show n + 1 + 1 ≠ n; omega), h.bel.setCell (Nat.le_refl _) _⟩
theorem Cpu3.end (h : Cpu3 w n W s op rd rn rm ra imm cond wide) (t : Cs.St) : Below n w (W.setRow (n + 1 + 1) (Cs.cells t)) := below_setRow h.bel (by omega) _
theorem Cpu3.new (w : World) (s : Cs.St) (op rd rn rm ra imm cond : Int) (wide : Bool) :
    Cpu3 w w.heap.size (((w.alloc (.cells (Cs.cells s) 24)).alloc (.cells #[.int .i64 op, .int .i64 rd, .int .i64 rn, .int .i64 rm, .int .i64 ra, .int .i64 imm, .int .i64 cond, .bool wide] 26)).alloc (.cells Cs.zero 24)) s op rd rn rm ra imm cond wide := by
  refine ⟨((state_alloc w s).alloc _).alloc _, ?_, state_alloc' _ Cs.none _ (by simp), (((Below.refl _ _).alloc (Nat.le_refl _) _).alloc (by simp) _).alloc (by simp; omega) _⟩
  refine InsAt.alloc ?_ (by simp) _
  have h := ins_alloc (w.alloc (.cells (Cs.cells s) 24)) 26 op rd rn rm ra imm cond wide
  simpa using h
end

set_option maxHeartbeats 4000000 in
set_option maxRecDepth 10000 in
theorem step_a (s : Cs.St) (op rd rn rm ra imm cond l : Int) (wide : Bool) (w : World) (hz : (Th.size ⟨op, rd, rn, rm, ra, imm, cond, wide⟩ == 0) = true) :
    Calls Try.prog 9 #[.agg (Cs.cells s), .agg #[.int .i64 op, .int .i64 rd, .int .i64 rn, .int .i64 rm, .int .i64 ra, .int .i64 imm, .int .i64 cond, .bool wide], .int .i64 l] w fun e w' => e = .returned (.tuple #[.agg (Cs.cells (Cs.stepS s ⟨op, rd, rn, rm, ra, imm, cond, wide⟩ l)), .bool (Cs.stepB ⟨op, rd, rn, rm, ra, imm, cond, wide⟩)]) ∧ Below w.heap.size w w' := by
  have H := Lib.hid (Cpu3.new w s op rd rn rm ra imm cond wide)
  go_enter Try.func9, Try.ntmps9
  go_wp2_with (first | (go_at_call 22; refine (words_any _ _).mono ?_; rintro e w1 ⟨rfl, hb⟩; replace H := Lib.hid (H.out.kept hb); (try clear i0 i1 i2 i3 i4 i5 i6 i7 ipc fz); obtain ⟨i0, i1, i2, i3, i4, i5, i6, i7⟩ := H.out.ins; have ipc := H.out.st.pc; have fz := H.out.st.open; clear hb) | (go_at_call 20; refine (size_any _ _ _ _ _ _ _ _ _).mono ?_; rintro e w1 ⟨rfl, hb⟩; replace H := Lib.hid (H.out.kept hb); (try clear i0 i1 i2 i3 i4 i5 i6 i7 ipc fz); obtain ⟨i0, i1, i2, i3, i4, i5, i6, i7⟩ := H.out.ins; have ipc := H.out.st.pc; have fz := H.out.st.open; clear hb) | ((with_reducible refine wpList_load_st H.out.st ?_ ?_); exact rfl) | ((with_reducible refine wpList_store_st H.out.st (Cs.words s) ?_ ?_); exact rfl; replace H := Lib.hid (H.out.row (Cs.words s)); (try clear i0 i1 i2 i3 i4 i5 i6 i7 ipc fz); generalize World.setRow _ w.heap.size _ = V at *; obtain ⟨i0, i1, i2, i3, i4, i5, i6, i7⟩ := H.out.ins; have ipc := H.out.st.pc; have fz := H.out.st.open) | ((with_reducible apply wpList_store_st H.out.res); exact rfl))
  try simp only [Exit.inBlock, Exit.then]
  refine bp_state2 rfl rfl ((H.out).res.setRow _) rfl ⟨?_, (H.out).end _⟩
  rw [show Cs.stepS s ⟨op, rd, rn, rm, ra, imm, cond, wide⟩ l = Cs.words s by simp only [Cs.stepS, hz, Bool.true_or, if_true], show Cs.stepB ⟨op, rd, rn, rm, ra, imm, cond, wide⟩ = false by simp [Cs.stepB, hz]]
  rfl
set_option maxHeartbeats 4000000 in
set_option maxRecDepth 10000 in
theorem step_b (s : Cs.St) (op rd rn rm ra imm cond l : Int) (wide : Bool) (w : World) (hz : (Th.size ⟨op, rd, rn, rm, ra, imm, cond, wide⟩ == 0) = false) (h2 : (op == 2) = true) :
    Calls Try.prog 9 #[.agg (Cs.cells s), .agg #[.int .i64 op, .int .i64 rd, .int .i64 rn, .int .i64 rm, .int .i64 ra, .int .i64 imm, .int .i64 cond, .bool wide], .int .i64 l] w fun e w' => e = .returned (.tuple #[.agg (Cs.cells (Cs.stepS s ⟨op, rd, rn, rm, ra, imm, cond, wide⟩ l)), .bool (Cs.stepB ⟨op, rd, rn, rm, ra, imm, cond, wide⟩)]) ∧ Below w.heap.size w w' := by
  have H := Lib.hid (Cpu3.new w s op rd rn rm ra imm cond wide)
  go_enter Try.func9, Try.ntmps9
  go_wp2_with (first | (go_at_call 22; refine (words_any _ _).mono ?_; rintro e w1 ⟨rfl, hb⟩; replace H := Lib.hid (H.out.kept hb); (try clear i0 i1 i2 i3 i4 i5 i6 i7 ipc fz); obtain ⟨i0, i1, i2, i3, i4, i5, i6, i7⟩ := H.out.ins; have ipc := H.out.st.pc; have fz := H.out.st.open; clear hb) | (go_at_call 20; refine (size_any _ _ _ _ _ _ _ _ _).mono ?_; rintro e w1 ⟨rfl, hb⟩; replace H := Lib.hid (H.out.kept hb); (try clear i0 i1 i2 i3 i4 i5 i6 i7 ipc fz); obtain ⟨i0, i1, i2, i3, i4, i5, i6, i7⟩ := H.out.ins; have ipc := H.out.st.pc; have fz := H.out.st.open; clear hb) | ((with_reducible refine wpList_load_st H.out.st ?_ ?_); exact rfl) | ((with_reducible refine wpList_store_st H.out.st (Cs.words s) ?_ ?_); exact rfl; replace H := Lib.hid (H.out.row (Cs.words s)); (try clear i0 i1 i2 i3 i4 i5 i6 i7 ipc fz); generalize World.setRow _ w.heap.size _ = V at *; obtain ⟨i0, i1, i2, i3, i4, i5, i6, i7⟩ := H.out.ins; have ipc := H.out.st.pc; have fz := H.out.st.open) | ((with_reducible apply wpList_store_st H.out.res); exact rfl))
  try simp only [Exit.inBlock, Exit.then]
  refine bp_state2 rfl rfl ((H.out).res.setRow _) rfl ⟨?_, (H.out).end _⟩
  rw [show Cs.stepS s ⟨op, rd, rn, rm, ra, imm, cond, wide⟩ l = Cs.words s by simp only [Cs.stepS, h2, Bool.or_true, if_true], show Cs.stepB ⟨op, rd, rn, rm, ra, imm, cond, wide⟩ = false by simp [Cs.stepB, h2]]
  rfl
set_option maxHeartbeats 4000000 in
set_option maxRecDepth 10000 in
theorem step_c (s : Cs.St) (op rd rn rm ra imm cond l : Int) (wide : Bool) (w : World) (hz : (Th.size ⟨op, rd, rn, rm, ra, imm, cond, wide⟩ == 0) = false) (h2 : (op == 2) = false) (ht : Cs.taken (Cs.words s) op cond = true) :
    Calls Try.prog 9 #[.agg (Cs.cells s), .agg #[.int .i64 op, .int .i64 rd, .int .i64 rn, .int .i64 rm, .int .i64 ra, .int .i64 imm, .int .i64 cond, .bool wide], .int .i64 l] w fun e w' => e = .returned (.tuple #[.agg (Cs.cells (Cs.stepS s ⟨op, rd, rn, rm, ra, imm, cond, wide⟩ l)), .bool (Cs.stepB ⟨op, rd, rn, rm, ra, imm, cond, wide⟩)]) ∧ Below w.heap.size w w' := by
  have H := Lib.hid (Cpu3.new w s op rd rn rm ra imm cond wide)
  go_enter Try.func9, Try.ntmps9
  go_wp2_with (first | (go_at_call 22; refine (words_any _ _).mono ?_; rintro e w1 ⟨rfl, hb⟩; replace H := Lib.hid (H.out.kept hb); (try clear i0 i1 i2 i3 i4 i5 i6 i7 ipc fz); obtain ⟨i0, i1, i2, i3, i4, i5, i6, i7⟩ := H.out.ins; have ipc := H.out.st.pc; have fz := H.out.st.open; clear hb) | (go_at_call 20; refine (size_any _ _ _ _ _ _ _ _ _).mono ?_; rintro e w1 ⟨rfl, hb⟩; replace H := Lib.hid (H.out.kept hb); (try clear i0 i1 i2 i3 i4 i5 i6 i7 ipc fz); obtain ⟨i0, i1, i2, i3, i4, i5, i6, i7⟩ := H.out.ins; have ipc := H.out.st.pc; have fz := H.out.st.open; clear hb) | (go_at_call 23; refine (taken_any _ _ _ _ _ _ _ _ _ _).mono ?_; rintro e w1 ⟨rfl, hb⟩; replace H := Lib.hid (H.out.kept hb); (try clear i0 i1 i2 i3 i4 i5 i6 i7 ipc fz); obtain ⟨i0, i1, i2, i3, i4, i5, i6, i7⟩ := H.out.ins; have ipc := H.out.st.pc; have fz := H.out.st.open; clear hb) | (go_at_call 24; refine (add_any _ _ _).mono ?_; rintro e w1 ⟨rfl, rfl⟩) | ((with_reducible refine wpList_load_st H.out.st ?_ ?_); exact rfl) | ((with_reducible refine wpList_store_st H.out.st (Cs.words s) ?_ ?_); exact rfl; replace H := Lib.hid (H.out.row (Cs.words s)); (try clear i0 i1 i2 i3 i4 i5 i6 i7 ipc fz); generalize World.setRow _ w.heap.size _ = V at *; obtain ⟨i0, i1, i2, i3, i4, i5, i6, i7⟩ := H.out.ins; have ipc := H.out.st.pc; have fz := H.out.st.open) | ((with_reducible refine wpList_load_st (H.out.pc _).st ?_ ?_); exact rfl) | ((with_reducible apply wpList_store_st (H.out.pc _).res); exact rfl))
  try simp only [Exit.inBlock, Exit.then]
  refine bp_state2 rfl rfl ((H.out.pc _).res.setRow _) rfl ⟨?_, (H.out.pc _).end _⟩
  rw [show Cs.stepS s ⟨op, rd, rn, rm, ra, imm, cond, wide⟩ l = { Cs.words s with pc := Wd.add (Cs.words s).pc (wrap64 (4 + imm)) } by simp only [Cs.stepS, hz, h2, Bool.or_false, Bool.false_eq_true, if_false]; rw [if_pos (by rw [← Cs.taken_words]; exact ht), Cs.add_w]; rfl, show Cs.stepB ⟨op, rd, rn, rm, ra, imm, cond, wide⟩ = true by simp [Cs.stepB, hz, h2]]
  rfl
set_option maxHeartbeats 4000000 in
set_option maxRecDepth 10000 in
theorem step_d (s : Cs.St) (op rd rn rm ra imm cond l : Int) (wide : Bool) (w : World) (hz : (Th.size ⟨op, rd, rn, rm, ra, imm, cond, wide⟩ == 0) = false) (h2 : (op == 2) = false) (ht : Cs.taken (Cs.words s) op cond = false) :
    Calls Try.prog 9 #[.agg (Cs.cells s), .agg #[.int .i64 op, .int .i64 rd, .int .i64 rn, .int .i64 rm, .int .i64 ra, .int .i64 imm, .int .i64 cond, .bool wide], .int .i64 l] w fun e w' => e = .returned (.tuple #[.agg (Cs.cells (Cs.stepS s ⟨op, rd, rn, rm, ra, imm, cond, wide⟩ l)), .bool (Cs.stepB ⟨op, rd, rn, rm, ra, imm, cond, wide⟩)]) ∧ Below w.heap.size w w' := by
  have h0 := Cs.size_check _ hz
  have h24 : (op == 24) = false := by cases h : (op == 24) with
    | false => rfl
    | true => simp [Cs.taken, h] at ht
  have H := Lib.hid (Cpu3.new w s op rd rn rm ra imm cond wide)
  go_enter Try.func9, Try.ntmps9
  go_wp2_with (first | (go_at_call 22; refine (words_any _ _).mono ?_; rintro e w1 ⟨rfl, hb⟩; replace H := Lib.hid (H.out.kept hb); (try clear i0 i1 i2 i3 i4 i5 i6 i7 ipc fz); obtain ⟨i0, i1, i2, i3, i4, i5, i6, i7⟩ := H.out.ins; have ipc := H.out.st.pc; have fz := H.out.st.open; clear hb) | (go_at_call 20; refine (size_any _ _ _ _ _ _ _ _ _).mono ?_; rintro e w1 ⟨rfl, hb⟩; replace H := Lib.hid (H.out.kept hb); (try clear i0 i1 i2 i3 i4 i5 i6 i7 ipc fz); obtain ⟨i0, i1, i2, i3, i4, i5, i6, i7⟩ := H.out.ins; have ipc := H.out.st.pc; have fz := H.out.st.open; clear hb) | (go_at_call 23; refine (taken_any _ _ _ _ _ _ _ _ _ _).mono ?_; rintro e w1 ⟨rfl, hb⟩; replace H := Lib.hid (H.out.kept hb); (try clear i0 i1 i2 i3 i4 i5 i6 i7 ipc fz); obtain ⟨i0, i1, i2, i3, i4, i5, i6, i7⟩ := H.out.ins; have ipc := H.out.st.pc; have fz := H.out.st.open; clear hb) | (go_at_call 25; refine (made_any _ _ _ _ _ _ _ _ _ _ _ h0 h2 h24 (Cs.words_bd s)).mono ?_; rintro e w1 ⟨rfl, hb⟩; replace H := Lib.hid (H.out.kept hb); (try clear i0 i1 i2 i3 i4 i5 i6 i7 ipc fz); obtain ⟨i0, i1, i2, i3, i4, i5, i6, i7⟩ := H.out.ins; have ipc := H.out.st.pc; have fz := H.out.st.open; clear hb) | (go_at_call 24; refine (add_any _ _ _).mono ?_; rintro e w1 ⟨rfl, rfl⟩) | ((with_reducible refine wpList_load_st H.out.st ?_ ?_); exact rfl) | ((with_reducible refine wpList_store_st H.out.st (Cs.words s) ?_ ?_); exact rfl; replace H := Lib.hid (H.out.row (Cs.words s)); (try clear i0 i1 i2 i3 i4 i5 i6 i7 ipc fz); generalize World.setRow _ w.heap.size _ = V at *; obtain ⟨i0, i1, i2, i3, i4, i5, i6, i7⟩ := H.out.ins; have ipc := H.out.st.pc; have fz := H.out.st.open) | ((with_reducible refine wpList_store_st H.out.st (Cs.made (Cs.words s) ⟨op, rd, rn, rm, ra, imm, cond, wide⟩ l) ?_ ?_); exact rfl; replace H := Lib.hid (H.out.row (Cs.made (Cs.words s) ⟨op, rd, rn, rm, ra, imm, cond, wide⟩ l)); (try clear i0 i1 i2 i3 i4 i5 i6 i7 ipc fz); generalize World.setRow _ w.heap.size _ = V at *; obtain ⟨i0, i1, i2, i3, i4, i5, i6, i7⟩ := H.out.ins; have ipc := H.out.st.pc; have fz := H.out.st.open) | ((with_reducible refine wpList_load_st (H.out.pc _).st ?_ ?_); exact rfl) | ((with_reducible apply wpList_store_st (H.out.pc _).res); exact rfl))
  try simp only [Exit.inBlock, Exit.then]
  refine bp_state2 rfl rfl ((H.out.pc _).res.setRow _) rfl ⟨?_, (H.out.pc _).end _⟩
  rw [show Cs.stepS s ⟨op, rd, rn, rm, ra, imm, cond, wide⟩ l = { Cs.made (Cs.words s) ⟨op, rd, rn, rm, ra, imm, cond, wide⟩ l with pc := Wd.add (Cs.made (Cs.words s) ⟨op, rd, rn, rm, ra, imm, cond, wide⟩ l).pc (Th.size ⟨op, rd, rn, rm, ra, imm, cond, wide⟩) } by simp only [Cs.stepS, hz, h2, Bool.or_false, Bool.false_eq_true, if_false]; rw [if_neg (by rw [← Cs.taken_words, ht]; decide), Cs.made_pc]; rfl, show Cs.stepB ⟨op, rd, rn, rm, ra, imm, cond, wide⟩ = true by simp [Cs.stepB, hz, h2]]
  rfl
theorem step_any (s : Cs.St) (op rd rn rm ra imm cond l : Int) (wide : Bool) (w : World) :
    Calls Try.prog 9 #[.agg (Cs.cells s), .agg #[.int .i64 op, .int .i64 rd, .int .i64 rn, .int .i64 rm, .int .i64 ra, .int .i64 imm, .int .i64 cond, .bool wide], .int .i64 l] w fun e w' => e = .returned (.tuple #[.agg (Cs.cells (Cs.stepS s ⟨op, rd, rn, rm, ra, imm, cond, wide⟩ l)), .bool (Cs.stepB ⟨op, rd, rn, rm, ra, imm, cond, wide⟩)]) ∧ Below w.heap.size w w' := by
  cases hz : (Th.size ⟨op, rd, rn, rm, ra, imm, cond, wide⟩ == 0)
  · cases h2 : (op == 2)
    · cases ht : Cs.taken (Cs.words s) op cond
      · exact step_d s op rd rn rm ra imm cond l wide w hz h2 ht
      · exact step_c s op rd rn rm ra imm cond l wide w hz h2 ht
    · exact step_b s op rd rn rm ra imm cond l wide w hz h2
  · exact step_a s op rd rn rm ra imm cond l wide w hz
end Go.Proofs.Ytennhpfhgbmnfaa
