/-
  What the document's Step returns: what package cpu's does, part 3.
-/
import Derived.Test.YtennhpfhgbmnfaaCpuE
namespace Go.Proofs.Ytennhpfhgbmnfaa
open Go.ChangeShapes Go.WideShapes Go.ChangeAt Go.RowKit
set_option linter.unusedVariables false
set_option linter.unusedSimpArgs false

set_option maxHeartbeats 8000000 in
set_option maxRecDepth 10000 in
theorem rstep_p (s : Cs.St) (rd rn rm : Nat) (op ra imm cond l : Int) (wide : Bool) (w : World) (hd : rd < 13) (hn : rn < 13) (hm : rm < 13) (hz : (Th.check ⟨op, (rd : Int), (rn : Int), (rm : Int), ra, imm, cond, wide⟩ != 0) = false) (hz2 : (Th.size ⟨op, (rd : Int), (rn : Int), (rm : Int), ra, imm, cond, wide⟩ == 0) = false) (ht : Cs.taken (Cs.words s) op cond = false) (h2 : (op == 2) = false) (h1 : (op == 1) = false) (h23 : (op == 23) = false) (h24 : (op == 24) = false) (h25 : (op == 25) = false) (h17 : (op == 17) = false) :
    Calls Try.prog 10 #[.agg (Cs.cells s), .agg #[.int .i64 op, .int .i64 (rd : Int), .int .i64 (rn : Int), .int .i64 (rm : Int), .int .i64 ra, .int .i64 imm, .int .i64 cond, .bool wide], .int .i64 l] w fun e w' => e = .returned (.tuple #[.agg (Cs.cells (Cs.stepS s ⟨op, (rd : Int), (rn : Int), (rm : Int), ra, imm, cond, wide⟩ l)), .bool (Cs.stepB ⟨op, (rd : Int), (rn : Int), (rm : Int), ra, imm, cond, wide⟩)]) ∧ Below w.heap.size w w' := by
  have bd : (rd : Int) < 15 := by omega
  have bn : (rn : Int) < 15 := by omega
  have bm : (rm : Int) < 15 := by omega
  have bd0 : (0 : Int) ≤ (rd : Int) := by omega
  have bn0 : (0 : Int) ≤ (rn : Int) := by omega
  have bm0 : (0 : Int) ≤ (rm : Int) := by omega
  have h0 : Th.check ⟨op, (rd : Int), (rn : Int), (rm : Int), ra, imm, cond, wide⟩ = 0 := Cs.size_check _ hz2
  have H := Lib.hid (Cpu3.new w s op (rd : Int) (rn : Int) (rm : Int) ra imm cond wide)
  go_enter Try.func10, Try.ntmps10
  go_wp2_with (first | (go_at_call 26; refine (rwords_any _ _).mono ?_; rintro e w1 ⟨rfl, hb⟩; replace H := Lib.hid (H.out.kept hb); (try clear i0 i1 i2 i3 i4 i5 i6 i7 ipc fz); obtain ⟨i0, i1, i2, i3, i4, i5, i6, i7⟩ := H.out.ins; have ipc := H.out.st.pc; have fz := H.out.st.open; clear hb) | (go_at_call 27; refine (rcheck_any _ _ _ _ _ _ _ _ _).mono ?_; rintro e w1 ⟨rfl, hb⟩; replace H := Lib.hid (H.out.kept hb); (try clear i0 i1 i2 i3 i4 i5 i6 i7 ipc fz); obtain ⟨i0, i1, i2, i3, i4, i5, i6, i7⟩ := H.out.ins; have ipc := H.out.st.pc; have fz := H.out.st.open; clear hb) | ((with_reducible refine wpList_load_st H.out.st ?_ ?_); exact rfl) | ((with_reducible refine wpList_store_st H.out.st (Cs.words s) ?_ ?_); exact rfl; replace H := Lib.hid (H.out.row (Cs.words s)); (try clear i0 i1 i2 i3 i4 i5 i6 i7 ipc fz); generalize World.setRow _ w.heap.size _ = V at *; obtain ⟨i0, i1, i2, i3, i4, i5, i6, i7⟩ := H.out.ins; have ipc := H.out.st.pc; have fz := H.out.st.open) | ((with_reducible apply wpList_store_st (state_alloc_zero _)); exact rfl; rw [World.setRow_alloc_new]))
  clear i0 i1 i2 i3 i4 i5 i6 i7 ipc fz
  replace H := Lib.hid (Cpu4.new H.out (Cs.words s))
  generalize w1.alloc (.cells (Cs.cells (Cs.words s)) 24) = W at *
  generalize w1.heap.size = bt at *
  replace H := Lib.hid H.out.drew
  refine wp_region_held_drew (S := fun wx => wx.cell? ⟨w.heap.size, 15, none⟩ = some (.int .i64 (Cs.words s).pc) ∧ InsAt wx (w.heap.size + 1) op (rd : Int) (rn : Int) (rm : Int) ra imm cond wide) (by kernel_rfl) (⟨H.out.c3.st.pc, H.out.c3.ins⟩) (fun hHeld => ?_)
  refine wpAnyH_take (i := 0) (v := ?_) rfl (by kernel_rfl) (by kernel_rfl) (by kernel_rfl) (fun _ _ _ h => h) (Or.inl ⟨by rfl, ?_⟩) (by assumption) ?_
  rotate_left
  · intro w hSw
    (try dsimp only at hSw)
    go_simp
    (try with_reducible rfl)
  (try simp only [Act.put, List.setIfInBounds_toArray, List.set_cons_zero, List.set_cons_succ])
  refine wpAnyH_take (i := 1) (v := ?_) rfl (by kernel_rfl) (by kernel_rfl) (by kernel_rfl) (fun _ _ _ h => h) (Or.inl ⟨by rfl, ?_⟩) (by assumption) ?_
  rotate_left
  · intro w hSw
    (try dsimp only at hSw)
    go_simp
    (try with_reducible rfl)
  (try simp only [Act.put, List.setIfInBounds_toArray, List.set_cons_zero, List.set_cons_succ])
  refine wpAnyH_take (i := 2) (v := ?_) rfl (by kernel_rfl) (by kernel_rfl) (by kernel_rfl) (fun _ _ _ h => h) (Or.inl ⟨by rfl, ?_⟩) (by assumption) ?_
  rotate_left
  · intro w hSw
    (try dsimp only at hSw)
    go_simp
    (try with_reducible rfl)
  (try simp only [Act.put, List.setIfInBounds_toArray, List.set_cons_zero, List.set_cons_succ])
  refine wpAnyH_ready (rs := [3]) (by kernel_rfl) (by simp) ?_
  refine AllReadyH.cons rfl (fun K hK => ?_) AllReadyH.nil
  go_simp
  (go_at_call 29; refine (rsize_any _ _ _ _ _ _ _ _ _).mono ?_; rintro e w2 ⟨rfl, hb⟩; replace H := Lib.hid (H.out.kept hb); have tpc := H.out.t.pc; have tfz := H.out.t.open; clear hb)
  refine hK.out _ _ (by first | exact ⟨H.out.c3.st.pc, H.out.c3.ins⟩ | exact ⟨(H.out.pc _).c3.st.pc, (H.out.pc _).c3.ins⟩) (fun hHeld => ?_)
  clear hK K
  (try simp only [Act.put, List.setIfInBounds_toArray, List.set_cons_zero, List.set_cons_succ])
  refine wpAnyH_take (i := 4) (v := ?_) rfl (by kernel_rfl) (by kernel_rfl) (by kernel_rfl) (fun _ _ _ h => h) (Or.inl ⟨by rfl, ?_⟩) (by assumption) ?_
  rotate_left
  · intro w hSw
    (try dsimp only at hSw)
    go_simp
    (try with_reducible rfl)
  (try simp only [Act.put, List.setIfInBounds_toArray, List.set_cons_zero, List.set_cons_succ])
  refine wpAnyH_ready (rs := [5]) (by kernel_rfl) (by simp) ?_
  refine AllReadyH.cons rfl (fun K hK => ?_) AllReadyH.nil
  go_simp
  (go_at_call 28; refine (rwrap_any _ _).mono ?_; rintro e w' ⟨rfl, rfl⟩)
  refine hK.out _ _ (by first | exact ⟨H.out.c3.st.pc, H.out.c3.ins⟩ | exact ⟨(H.out.pc _).c3.st.pc, (H.out.pc _).c3.ins⟩) (fun hHeld => ?_)
  clear hK K
  (try simp only [Act.put, List.setIfInBounds_toArray, List.set_cons_zero, List.set_cons_succ])
  refine wpAnyH_take (i := 6) (v := ?_) rfl (by kernel_rfl) (by kernel_rfl) (by kernel_rfl) (fun _ _ _ h => h) (Or.inl ⟨by rfl, ?_⟩) (by assumption) ?_
  rotate_left
  · intro w hSw
    (try dsimp only at hSw)
    go_simp
    (try with_reducible rfl)
  (try simp only [Act.put, List.setIfInBounds_toArray, List.set_cons_zero, List.set_cons_succ])
  refine wpAnyH_ready (rs := [7]) (by kernel_rfl) (by simp) ?_
  refine AllReadyH.cons rfl (fun K hK => ?_) AllReadyH.nil
  go_simp
  skip
  refine hK.out _ _ (by first | exact ⟨H.out.c3.st.pc, H.out.c3.ins⟩ | exact ⟨(H.out.pc _).c3.st.pc, (H.out.pc _).c3.ins⟩) (fun hHeld => ?_)
  clear hK K
  (try simp only [Act.put, List.setIfInBounds_toArray, List.set_cons_zero, List.set_cons_succ])
  refine wpAnyH_done (by kernel_rfl) ?_ _
  replace H := Lib.hid (H.out.pc (Wd.wrap (IntKind.i64.wrap ((Cs.words s).pc + Th.size ⟨op, (rd : Int), (rn : Int), (rm : Int), ra, imm, cond, wide⟩))))
  clear tpc tfz
  generalize hp5 : Wd.wrap (IntKind.i64.wrap ((Cs.words s).pc + Th.size ⟨op, (rd : Int), (rn : Int), (rm : Int), ra, imm, cond, wide⟩)) = p5 at *
  have HP := Lib.hid hp5
  clear hp5
  generalize World.setCell w2 _ _ = V at *
  obtain ⟨i0, i1, i2, i3, i4, i5, i6, i7⟩ := H.out.c3.ins
  have ipc := H.out.c3.st.pc
  have tpc := H.out.t.pc
  have tfz := H.out.t.open
  go_wp2_with (first | (go_at_call 30; refine (rtaken_any _ _ _ _ _ _ _ _ _ _).mono ?_; rintro e w3 ⟨rfl, hb⟩; replace H := Lib.hid (H.out.kept hb); clear i0 i1 i2 i3 i4 i5 i6 i7 ipc tpc tfz; obtain ⟨i0, i1, i2, i3, i4, i5, i6, i7⟩ := H.out.c3.ins; have ipc := H.out.c3.st.pc; have tpc := H.out.t.pc; have tfz := H.out.t.open; clear hb) | ((with_reducible refine wpList_load_st H.out.c3.st ?_ ?_); exact rfl) | (go_at_call 28; refine (rwrap_any _ _).mono ?_; rintro e w' ⟨rfl, rfl⟩))
  clear i0 i1 i2 i3 i4 i5 i6 i7 ipc tpc tfz
  obtain ⟨i0, i1, i2, i3, i4, i5, i6, i7⟩ := H.out.c3.ins
  have sn := H.out.c3.st.reg rn (by omega)
  have sm := H.out.c3.st.reg rm (by omega)
  go_quiet (fail)
  replace H := Lib.hid (H.out.drewN nq)
  clear i0 i1 i2 i3 i4 i5 i6 i7 sn sm
  generalize World.drewN _ nq = U at *
  obtain ⟨i0, i1, i2, i3, i4, i5, i6, i7⟩ := H.out.c3.ins
  go_wp2_with (first | ((with_reducible refine wpList_load_st H.out.t ?_ ?_); exact rfl))
  clear i0 i1 i2 i3 i4 i5 i6 i7
  replace H := Lib.hid H.out.drew
  refine wp_region_held_drew (S := fun wx => wx.cell? ⟨w.heap.size, rd, none⟩ = some (.int .i64 ((Cs.words s).r rd)) ∧ InsAt wx (w.heap.size + 1) op (rd : Int) (rn : Int) (rm : Int) ra imm cond wide) (by kernel_rfl) (⟨H.out.c3.st.reg rd (by omega), H.out.c3.ins⟩) (fun hHeld => ?_)
  refine wpAnyH_take (i := 0) (v := ?_) rfl (by kernel_rfl) (by kernel_rfl) (by kernel_rfl) (fun _ _ _ h => h) (Or.inl ⟨by rfl, ?_⟩) (by assumption) ?_
  rotate_left
  · intro w hSw
    (try dsimp only at hSw)
    go_simp
    (try with_reducible rfl)
  (try simp only [Act.put, List.setIfInBounds_toArray, List.set_cons_zero, List.set_cons_succ])
  refine wpAnyH_take (i := 1) (v := ?_) rfl (by kernel_rfl) (by kernel_rfl) (by kernel_rfl) (fun _ _ _ h => h) (Or.inl ⟨by rfl, ?_⟩) (by assumption) ?_
  rotate_left
  · intro w hSw
    (try dsimp only at hSw)
    go_simp
    (try with_reducible rfl)
  (try simp only [Act.put, List.setIfInBounds_toArray, List.set_cons_zero, List.set_cons_succ])
  refine wpAnyH_take (i := 2) (v := ?_) rfl (by kernel_rfl) (by kernel_rfl) (by kernel_rfl) (fun _ _ _ h => h) (Or.inl ⟨by rfl, ?_⟩) (by assumption) ?_
  rotate_left
  · intro w hSw
    (try dsimp only at hSw)
    go_simp
    (try with_reducible rfl)
  (try simp only [Act.put, List.setIfInBounds_toArray, List.set_cons_zero, List.set_cons_succ])
  refine wpAnyH_take (i := 3) (v := ?_) rfl (by kernel_rfl) (by kernel_rfl) (by kernel_rfl) (fun _ _ _ h => h) (Or.inl ⟨by rfl, ?_⟩) (by assumption) ?_
  rotate_left
  · intro w hSw
    (try dsimp only at hSw)
    go_simp
    (try with_reducible rfl)
  (try simp only [Act.put, List.setIfInBounds_toArray, List.set_cons_zero, List.set_cons_succ])
  refine wpAnyH_take (i := 4) (v := ?_) rfl (by kernel_rfl) (by kernel_rfl) (by kernel_rfl) (fun _ _ _ h => h) (Or.inl ⟨by rfl, ?_⟩) (by assumption) ?_
  rotate_left
  · intro w hSw
    (try dsimp only at hSw)
    go_simp
    (try with_reducible rfl)
  (try simp only [Act.put, List.setIfInBounds_toArray, List.set_cons_zero, List.set_cons_succ])
  refine wpAnyH_take (i := 5) (v := ?_) rfl (by kernel_rfl) (by kernel_rfl) (by kernel_rfl) (fun _ _ _ h => h) (Or.inl ⟨by rfl, ?_⟩) (by assumption) ?_
  rotate_left
  · intro w hSw
    (try dsimp only at hSw)
    go_simp
    (try with_reducible rfl)
  (try simp only [Act.put, List.setIfInBounds_toArray, List.set_cons_zero, List.set_cons_succ])
  refine wpAnyH_take (i := 6) (v := ?_) rfl (by kernel_rfl) (by kernel_rfl) (by kernel_rfl) (fun _ _ _ h => h) (Or.inl ⟨by rfl, ?_⟩) (by assumption) ?_
  rotate_left
  · intro w hSw
    (try dsimp only at hSw)
    go_simp
    (try with_reducible rfl)
  (try simp only [Act.put, List.setIfInBounds_toArray, List.set_cons_zero, List.set_cons_succ])
  refine wpAnyH_take (i := 7) (v := ?_) rfl (by kernel_rfl) (by kernel_rfl) (by kernel_rfl) (fun _ _ _ h => h) (Or.inl ⟨by rfl, ?_⟩) (by assumption) ?_
  rotate_left
  · intro w hSw
    (try dsimp only at hSw)
    go_simp
    (try with_reducible rfl)
  (try simp only [Act.put, List.setIfInBounds_toArray, List.set_cons_zero, List.set_cons_succ])
  refine wpAnyH_take (i := 8) (v := ?_) rfl (by kernel_rfl) (by kernel_rfl) (by kernel_rfl) (fun _ _ _ h => h) (Or.inl ⟨by rfl, ?_⟩) (by assumption) ?_
  rotate_left
  · intro w hSw
    (try dsimp only at hSw)
    go_simp
    (try with_reducible rfl)
  (try simp only [Act.put, List.setIfInBounds_toArray, List.set_cons_zero, List.set_cons_succ])
  refine wpAnyH_take (i := 9) (v := ?_) rfl (by kernel_rfl) (by kernel_rfl) (by kernel_rfl) (fun _ _ _ h => h) (Or.inl ⟨by rfl, ?_⟩) (by assumption) ?_
  rotate_left
  · intro w hSw
    (try dsimp only at hSw)
    go_simp
    (try with_reducible rfl)
  (try simp only [Act.put, List.setIfInBounds_toArray, List.set_cons_zero, List.set_cons_succ])
  refine wpAnyH_take (i := 10) (v := ?_) rfl (by kernel_rfl) (by kernel_rfl) (by kernel_rfl) (fun _ _ _ h => h) (Or.inl ⟨by rfl, ?_⟩) (by assumption) ?_
  rotate_left
  · intro w hSw
    (try dsimp only at hSw)
    go_simp
    (try with_reducible rfl)
  (try simp only [Act.put, List.setIfInBounds_toArray, List.set_cons_zero, List.set_cons_succ])
  refine wpAnyH_take (i := 12) (v := ?_) rfl (by kernel_rfl) (by kernel_rfl) (by kernel_rfl) (fun _ _ _ h => h) (Or.inl ⟨by rfl, ?_⟩) (by assumption) ?_
  rotate_left
  · intro w hSw
    (try dsimp only at hSw)
    go_simp
    (try with_reducible rfl)
  (try simp only [Act.put, List.setIfInBounds_toArray, List.set_cons_zero, List.set_cons_succ])
  refine wpAnyH_ready (rs := [11]) (by kernel_rfl) (by simp) ?_
  refine AllReadyH.cons rfl (fun K hK => ?_) AllReadyH.nil
  go_simp
  (go_at_call 34; refine (value_any _ _ _ _ _ _ _ _ _ _ _ _ _ h0 (Cs.words_bd s rd).1 (Cs.words_bd s rd).2).mono ?_; rintro e w5 ⟨rfl, hb⟩; replace H := Lib.hid (H.out.kept hb); have tr := H.out.t.reg rd (by omega); have tfz := H.out.t.open; clear hb)
  refine hK.out _ _ (by first | exact ⟨H.out.c3.st.reg rd (by omega), H.out.c3.ins⟩ | exact ⟨(H.out.reg rd (by omega) _).c3.st.reg rd (by omega), (H.out.reg rd (by omega) _).c3.ins⟩) (fun hHeld => ?_)
  clear hK K
  (try simp only [Act.put, List.setIfInBounds_toArray, List.set_cons_zero, List.set_cons_succ])
  refine wpAnyH_take (i := 13) (v := ?_) rfl (by kernel_rfl) (by kernel_rfl) (by kernel_rfl) (fun _ _ _ h => h) (Or.inl ⟨by rfl, ?_⟩) (by assumption) ?_
  rotate_left
  · intro w hSw
    (try dsimp only at hSw)
    go_simp
    (try with_reducible rfl)
  (try simp only [Act.put, List.setIfInBounds_toArray, List.set_cons_zero, List.set_cons_succ])
  refine wpAnyH_ready (rs := [14]) (by kernel_rfl) (by simp) ?_
  refine AllReadyH.cons rfl (fun K hK => ?_) AllReadyH.nil
  go_simp
  skip
  refine hK.out _ _ (by first | exact ⟨H.out.c3.st.reg rd (by omega), H.out.c3.ins⟩ | exact ⟨(H.out.reg rd (by omega) _).c3.st.reg rd (by omega), (H.out.reg rd (by omega) _).c3.ins⟩) (fun hHeld => ?_)
  clear hK K
  (try simp only [Act.put, List.setIfInBounds_toArray, List.set_cons_zero, List.set_cons_succ])
  refine wpAnyH_done (by kernel_rfl) ?_ _
  replace H := Lib.hid (H.out.reg rd (by omega) (Cs.value op ra imm ((Cs.words s).r rd) ((Cs.words s).r rn) ((Cs.words s).r rm) l))
  clear tr tfz
  generalize World.setCell w5 _ _ = V5 at *
  obtain ⟨i0, i1, i2, i3, i4, i5, i6, i7⟩ := H.out.c3.ins
  go_wp2_with (first | ((with_reducible refine wpList_load_st H.out.t ?_ ?_); exact rfl) | ((with_reducible apply wpList_store_st H.out.c3.res); exact rfl))
  all_goals
    try simp only [Exit.inBlock, Exit.then]
    refine bp_state2 rfl rfl ((H.out).c3.res.setRow _) rfl ⟨?_, (H.out).end _⟩
    rw [show Cs.stepS s ⟨op, (rd : Int), (rn : Int), (rm : Int), ra, imm, cond, wide⟩ l = { Cs.put (Cs.words s) rd (Cs.value op ra imm ((Cs.words s).r rd) ((Cs.words s).r rn) ((Cs.words s).r rm) l) with pc := p5 } by simp only [Cs.stepS, hz2, h2, Bool.false_or, Bool.false_eq_true, if_false]; rw [if_neg (by rw [← Cs.taken_words, ht]; decide), ← HP.out, Cs.wrap_iw, Cs.made_put _ _ _ h23 h17]; rfl, show Cs.stepB ⟨op, (rd : Int), (rn : Int), (rm : Int), ra, imm, cond, wide⟩ = true by simp [Cs.stepB, hz2, h2]]
    rfl
set_option maxHeartbeats 8000000 in
set_option maxRecDepth 10000 in
theorem rstep_17 (s : Cs.St) (rd rn rm ra : Nat) (imm cond l : Int) (wide : Bool) (w : World) (hd : rd < 13) (hn : rn < 13) (hm : rm < 13) (ha : ra < 13) (hz : (Th.check ⟨17, (rd : Int), (rn : Int), (rm : Int), (ra : Int), imm, cond, wide⟩ != 0) = false) (hz2 : (Th.size ⟨17, (rd : Int), (rn : Int), (rm : Int), (ra : Int), imm, cond, wide⟩ == 0) = false) (ht : Cs.taken (Cs.words s) 17 cond = false) :
    Calls Try.prog 10 #[.agg (Cs.cells s), .agg #[.int .i64 17, .int .i64 (rd : Int), .int .i64 (rn : Int), .int .i64 (rm : Int), .int .i64 (ra : Int), .int .i64 imm, .int .i64 cond, .bool wide], .int .i64 l] w fun e w' => e = .returned (.tuple #[.agg (Cs.cells (Cs.stepS s ⟨17, (rd : Int), (rn : Int), (rm : Int), (ra : Int), imm, cond, wide⟩ l)), .bool (Cs.stepB ⟨17, (rd : Int), (rn : Int), (rm : Int), (ra : Int), imm, cond, wide⟩)]) ∧ Below w.heap.size w w' := by
  have bd : (rd : Int) < 15 := by omega
  have bn : (rn : Int) < 15 := by omega
  have bm : (rm : Int) < 15 := by omega
  have bd0 : (0 : Int) ≤ (rd : Int) := by omega
  have bn0 : (0 : Int) ≤ (rn : Int) := by omega
  have bm0 : (0 : Int) ≤ (rm : Int) := by omega
  have ba : (ra : Int) < 15 := by omega
  have ba0 : (0 : Int) ≤ (ra : Int) := by omega
  have h0 : Th.check ⟨17, (rd : Int), (rn : Int), (rm : Int), (ra : Int), imm, cond, wide⟩ = 0 := Cs.size_check _ hz2
  have H := Lib.hid (Cpu3.new w s 17 (rd : Int) (rn : Int) (rm : Int) (ra : Int) imm cond wide)
  go_enter Try.func10, Try.ntmps10
  go_wp2_with (first | (go_at_call 26; refine (rwords_any _ _).mono ?_; rintro e w1 ⟨rfl, hb⟩; replace H := Lib.hid (H.out.kept hb); (try clear i0 i1 i2 i3 i4 i5 i6 i7 ipc fz); obtain ⟨i0, i1, i2, i3, i4, i5, i6, i7⟩ := H.out.ins; have ipc := H.out.st.pc; have fz := H.out.st.open; clear hb) | (go_at_call 27; refine (rcheck_any _ _ _ _ _ _ _ _ _).mono ?_; rintro e w1 ⟨rfl, hb⟩; replace H := Lib.hid (H.out.kept hb); (try clear i0 i1 i2 i3 i4 i5 i6 i7 ipc fz); obtain ⟨i0, i1, i2, i3, i4, i5, i6, i7⟩ := H.out.ins; have ipc := H.out.st.pc; have fz := H.out.st.open; clear hb) | ((with_reducible refine wpList_load_st H.out.st ?_ ?_); exact rfl) | ((with_reducible refine wpList_store_st H.out.st (Cs.words s) ?_ ?_); exact rfl; replace H := Lib.hid (H.out.row (Cs.words s)); (try clear i0 i1 i2 i3 i4 i5 i6 i7 ipc fz); generalize World.setRow _ w.heap.size _ = V at *; obtain ⟨i0, i1, i2, i3, i4, i5, i6, i7⟩ := H.out.ins; have ipc := H.out.st.pc; have fz := H.out.st.open) | ((with_reducible apply wpList_store_st (state_alloc_zero _)); exact rfl; rw [World.setRow_alloc_new]))
  clear i0 i1 i2 i3 i4 i5 i6 i7 ipc fz
  replace H := Lib.hid (Cpu4.new H.out (Cs.words s))
  generalize w1.alloc (.cells (Cs.cells (Cs.words s)) 24) = W at *
  generalize w1.heap.size = bt at *
  replace H := Lib.hid H.out.drew
  refine wp_region_held_drew (S := fun wx => wx.cell? ⟨w.heap.size, 15, none⟩ = some (.int .i64 (Cs.words s).pc) ∧ InsAt wx (w.heap.size + 1) 17 (rd : Int) (rn : Int) (rm : Int) (ra : Int) imm cond wide) (by kernel_rfl) (⟨H.out.c3.st.pc, H.out.c3.ins⟩) (fun hHeld => ?_)
  refine wpAnyH_take (i := 0) (v := ?_) rfl (by kernel_rfl) (by kernel_rfl) (by kernel_rfl) (fun _ _ _ h => h) (Or.inl ⟨by rfl, ?_⟩) (by assumption) ?_
  rotate_left
  · intro w hSw
    (try dsimp only at hSw)
    go_simp
    (try with_reducible rfl)
  (try simp only [Act.put, List.setIfInBounds_toArray, List.set_cons_zero, List.set_cons_succ])
  refine wpAnyH_take (i := 1) (v := ?_) rfl (by kernel_rfl) (by kernel_rfl) (by kernel_rfl) (fun _ _ _ h => h) (Or.inl ⟨by rfl, ?_⟩) (by assumption) ?_
  rotate_left
  · intro w hSw
    (try dsimp only at hSw)
    go_simp
    (try with_reducible rfl)
  (try simp only [Act.put, List.setIfInBounds_toArray, List.set_cons_zero, List.set_cons_succ])
  refine wpAnyH_take (i := 2) (v := ?_) rfl (by kernel_rfl) (by kernel_rfl) (by kernel_rfl) (fun _ _ _ h => h) (Or.inl ⟨by rfl, ?_⟩) (by assumption) ?_
  rotate_left
  · intro w hSw
    (try dsimp only at hSw)
    go_simp
    (try with_reducible rfl)
  (try simp only [Act.put, List.setIfInBounds_toArray, List.set_cons_zero, List.set_cons_succ])
  refine wpAnyH_ready (rs := [3]) (by kernel_rfl) (by simp) ?_
  refine AllReadyH.cons rfl (fun K hK => ?_) AllReadyH.nil
  go_simp
  (go_at_call 29; refine (rsize_any _ _ _ _ _ _ _ _ _).mono ?_; rintro e w2 ⟨rfl, hb⟩; replace H := Lib.hid (H.out.kept hb); have tpc := H.out.t.pc; have tfz := H.out.t.open; clear hb)
  refine hK.out _ _ (by first | exact ⟨H.out.c3.st.pc, H.out.c3.ins⟩ | exact ⟨(H.out.pc _).c3.st.pc, (H.out.pc _).c3.ins⟩) (fun hHeld => ?_)
  clear hK K
  (try simp only [Act.put, List.setIfInBounds_toArray, List.set_cons_zero, List.set_cons_succ])
  refine wpAnyH_take (i := 4) (v := ?_) rfl (by kernel_rfl) (by kernel_rfl) (by kernel_rfl) (fun _ _ _ h => h) (Or.inl ⟨by rfl, ?_⟩) (by assumption) ?_
  rotate_left
  · intro w hSw
    (try dsimp only at hSw)
    go_simp
    (try with_reducible rfl)
  (try simp only [Act.put, List.setIfInBounds_toArray, List.set_cons_zero, List.set_cons_succ])
  refine wpAnyH_ready (rs := [5]) (by kernel_rfl) (by simp) ?_
  refine AllReadyH.cons rfl (fun K hK => ?_) AllReadyH.nil
  go_simp
  (go_at_call 28; refine (rwrap_any _ _).mono ?_; rintro e w' ⟨rfl, rfl⟩)
  refine hK.out _ _ (by first | exact ⟨H.out.c3.st.pc, H.out.c3.ins⟩ | exact ⟨(H.out.pc _).c3.st.pc, (H.out.pc _).c3.ins⟩) (fun hHeld => ?_)
  clear hK K
  (try simp only [Act.put, List.setIfInBounds_toArray, List.set_cons_zero, List.set_cons_succ])
  refine wpAnyH_take (i := 6) (v := ?_) rfl (by kernel_rfl) (by kernel_rfl) (by kernel_rfl) (fun _ _ _ h => h) (Or.inl ⟨by rfl, ?_⟩) (by assumption) ?_
  rotate_left
  · intro w hSw
    (try dsimp only at hSw)
    go_simp
    (try with_reducible rfl)
  (try simp only [Act.put, List.setIfInBounds_toArray, List.set_cons_zero, List.set_cons_succ])
  refine wpAnyH_ready (rs := [7]) (by kernel_rfl) (by simp) ?_
  refine AllReadyH.cons rfl (fun K hK => ?_) AllReadyH.nil
  go_simp
  skip
  refine hK.out _ _ (by first | exact ⟨H.out.c3.st.pc, H.out.c3.ins⟩ | exact ⟨(H.out.pc _).c3.st.pc, (H.out.pc _).c3.ins⟩) (fun hHeld => ?_)
  clear hK K
  (try simp only [Act.put, List.setIfInBounds_toArray, List.set_cons_zero, List.set_cons_succ])
  refine wpAnyH_done (by kernel_rfl) ?_ _
  replace H := Lib.hid (H.out.pc (Wd.wrap (IntKind.i64.wrap ((Cs.words s).pc + Th.size ⟨17, (rd : Int), (rn : Int), (rm : Int), (ra : Int), imm, cond, wide⟩))))
  clear tpc tfz
  generalize hp5 : Wd.wrap (IntKind.i64.wrap ((Cs.words s).pc + Th.size ⟨17, (rd : Int), (rn : Int), (rm : Int), (ra : Int), imm, cond, wide⟩)) = p5 at *
  have HP := Lib.hid hp5
  clear hp5
  generalize World.setCell w2 _ _ = V at *
  obtain ⟨i0, i1, i2, i3, i4, i5, i6, i7⟩ := H.out.c3.ins
  have ipc := H.out.c3.st.pc
  have tpc := H.out.t.pc
  have tfz := H.out.t.open
  go_wp2_with (first | (go_at_call 30; refine (rtaken_any _ _ _ _ _ _ _ _ _ _).mono ?_; rintro e w3 ⟨rfl, hb⟩; replace H := Lib.hid (H.out.kept hb); clear i0 i1 i2 i3 i4 i5 i6 i7 ipc tpc tfz; obtain ⟨i0, i1, i2, i3, i4, i5, i6, i7⟩ := H.out.c3.ins; have ipc := H.out.c3.st.pc; have tpc := H.out.t.pc; have tfz := H.out.t.open; clear hb) | ((with_reducible refine wpList_load_st H.out.c3.st ?_ ?_); exact rfl) | (go_at_call 28; refine (rwrap_any _ _).mono ?_; rintro e w' ⟨rfl, rfl⟩))
  clear i0 i1 i2 i3 i4 i5 i6 i7 ipc tpc tfz
  obtain ⟨i0, i1, i2, i3, i4, i5, i6, i7⟩ := H.out.c3.ins
  have sn := H.out.c3.st.reg rn (by omega)
  have sm := H.out.c3.st.reg rm (by omega)
  go_quiet (fail)
  replace H := Lib.hid (H.out.drewN nq)
  clear i0 i1 i2 i3 i4 i5 i6 i7 sn sm
  generalize World.drewN _ nq = U at *
  obtain ⟨i0, i1, i2, i3, i4, i5, i6, i7⟩ := H.out.c3.ins
  go_wp2_with (first | ((with_reducible refine wpList_load_st H.out.t ?_ ?_); exact rfl))
  clear i0 i1 i2 i3 i4 i5 i6 i7
  replace H := Lib.hid H.out.drew
  refine wp_region_held_drew (S := fun wx => wx.cell? ⟨w.heap.size, rd, none⟩ = some (.int .i64 ((Cs.words s).r rd)) ∧ InsAt wx (w.heap.size + 1) 17 (rd : Int) (rn : Int) (rm : Int) (ra : Int) imm cond wide) (by kernel_rfl) (⟨H.out.c3.st.reg rd (by omega), H.out.c3.ins⟩) (fun hHeld => ?_)
  refine wpAnyH_take (i := 0) (v := ?_) rfl (by kernel_rfl) (by kernel_rfl) (by kernel_rfl) (fun _ _ _ h => h) (Or.inl ⟨by rfl, ?_⟩) (by assumption) ?_
  rotate_left
  · intro w hSw
    (try dsimp only at hSw)
    go_simp
    (try with_reducible rfl)
  (try simp only [Act.put, List.setIfInBounds_toArray, List.set_cons_zero, List.set_cons_succ])
  refine wpAnyH_take (i := 1) (v := ?_) rfl (by kernel_rfl) (by kernel_rfl) (by kernel_rfl) (fun _ _ _ h => h) (Or.inl ⟨by rfl, ?_⟩) (by assumption) ?_
  rotate_left
  · intro w hSw
    (try dsimp only at hSw)
    go_simp
    (try with_reducible rfl)
  (try simp only [Act.put, List.setIfInBounds_toArray, List.set_cons_zero, List.set_cons_succ])
  refine wpAnyH_take (i := 2) (v := ?_) rfl (by kernel_rfl) (by kernel_rfl) (by kernel_rfl) (fun _ _ _ h => h) (Or.inl ⟨by rfl, ?_⟩) (by assumption) ?_
  rotate_left
  · intro w hSw
    (try dsimp only at hSw)
    go_simp
    (try with_reducible rfl)
  (try simp only [Act.put, List.setIfInBounds_toArray, List.set_cons_zero, List.set_cons_succ])
  refine wpAnyH_take (i := 3) (v := ?_) rfl (by kernel_rfl) (by kernel_rfl) (by kernel_rfl) (fun _ _ _ h => h) (Or.inl ⟨by rfl, ?_⟩) (by assumption) ?_
  rotate_left
  · intro w hSw
    (try dsimp only at hSw)
    go_simp
    (try with_reducible rfl)
  (try simp only [Act.put, List.setIfInBounds_toArray, List.set_cons_zero, List.set_cons_succ])
  refine wpAnyH_take (i := 4) (v := ?_) rfl (by kernel_rfl) (by kernel_rfl) (by kernel_rfl) (fun _ _ _ h => h) (Or.inl ⟨by rfl, ?_⟩) (by assumption) ?_
  rotate_left
  · intro w hSw
    (try dsimp only at hSw)
    go_simp
    (try with_reducible rfl)
  (try simp only [Act.put, List.setIfInBounds_toArray, List.set_cons_zero, List.set_cons_succ])
  refine wpAnyH_take (i := 5) (v := ?_) rfl (by kernel_rfl) (by kernel_rfl) (by kernel_rfl) (fun _ _ _ h => h) (Or.inl ⟨by rfl, ?_⟩) (by assumption) ?_
  rotate_left
  · intro w hSw
    (try dsimp only at hSw)
    go_simp
    (try with_reducible rfl)
  (try simp only [Act.put, List.setIfInBounds_toArray, List.set_cons_zero, List.set_cons_succ])
  refine wpAnyH_take (i := 6) (v := ?_) rfl (by kernel_rfl) (by kernel_rfl) (by kernel_rfl) (fun _ _ _ h => h) (Or.inl ⟨by rfl, ?_⟩) (by assumption) ?_
  rotate_left
  · intro w hSw
    (try dsimp only at hSw)
    go_simp
    (try with_reducible rfl)
  (try simp only [Act.put, List.setIfInBounds_toArray, List.set_cons_zero, List.set_cons_succ])
  refine wpAnyH_take (i := 7) (v := ?_) rfl (by kernel_rfl) (by kernel_rfl) (by kernel_rfl) (fun _ _ _ h => h) (Or.inl ⟨by rfl, ?_⟩) (by assumption) ?_
  rotate_left
  · intro w hSw
    (try dsimp only at hSw)
    go_simp
    (try with_reducible rfl)
  (try simp only [Act.put, List.setIfInBounds_toArray, List.set_cons_zero, List.set_cons_succ])
  refine wpAnyH_take (i := 8) (v := ?_) rfl (by kernel_rfl) (by kernel_rfl) (by kernel_rfl) (fun _ _ _ h => h) (Or.inl ⟨by rfl, ?_⟩) (by assumption) ?_
  rotate_left
  · intro w hSw
    (try dsimp only at hSw)
    go_simp
    (try with_reducible rfl)
  (try simp only [Act.put, List.setIfInBounds_toArray, List.set_cons_zero, List.set_cons_succ])
  refine wpAnyH_take (i := 9) (v := ?_) rfl (by kernel_rfl) (by kernel_rfl) (by kernel_rfl) (fun _ _ _ h => h) (Or.inl ⟨by rfl, ?_⟩) (by assumption) ?_
  rotate_left
  · intro w hSw
    (try dsimp only at hSw)
    go_simp
    (try with_reducible rfl)
  (try simp only [Act.put, List.setIfInBounds_toArray, List.set_cons_zero, List.set_cons_succ])
  refine wpAnyH_take (i := 10) (v := ?_) rfl (by kernel_rfl) (by kernel_rfl) (by kernel_rfl) (fun _ _ _ h => h) (Or.inl ⟨by rfl, ?_⟩) (by assumption) ?_
  rotate_left
  · intro w hSw
    (try dsimp only at hSw)
    go_simp
    (try with_reducible rfl)
  (try simp only [Act.put, List.setIfInBounds_toArray, List.set_cons_zero, List.set_cons_succ])
  refine wpAnyH_take (i := 12) (v := ?_) rfl (by kernel_rfl) (by kernel_rfl) (by kernel_rfl) (fun _ _ _ h => h) (Or.inl ⟨by rfl, ?_⟩) (by assumption) ?_
  rotate_left
  · intro w hSw
    (try dsimp only at hSw)
    go_simp
    (try with_reducible rfl)
  (try simp only [Act.put, List.setIfInBounds_toArray, List.set_cons_zero, List.set_cons_succ])
  refine wpAnyH_ready (rs := [11]) (by kernel_rfl) (by simp) ?_
  refine AllReadyH.cons rfl (fun K hK => ?_) AllReadyH.nil
  go_simp
  (go_at_call 34; refine (value_any _ _ _ _ _ _ _ _ _ _ _ _ _ h0 (Cs.words_bd s rd).1 (Cs.words_bd s rd).2).mono ?_; rintro e w5 ⟨rfl, hb⟩; replace H := Lib.hid (H.out.kept hb); have tr := H.out.t.reg rd (by omega); have tfz := H.out.t.open; clear hb)
  refine hK.out _ _ (by first | exact ⟨H.out.c3.st.reg rd (by omega), H.out.c3.ins⟩ | exact ⟨(H.out.reg rd (by omega) _).c3.st.reg rd (by omega), (H.out.reg rd (by omega) _).c3.ins⟩) (fun hHeld => ?_)
  clear hK K
  (try simp only [Act.put, List.setIfInBounds_toArray, List.set_cons_zero, List.set_cons_succ])
  refine wpAnyH_take (i := 13) (v := ?_) rfl (by kernel_rfl) (by kernel_rfl) (by kernel_rfl) (fun _ _ _ h => h) (Or.inl ⟨by rfl, ?_⟩) (by assumption) ?_
  rotate_left
  · intro w hSw
    (try dsimp only at hSw)
    go_simp
    (try with_reducible rfl)
  (try simp only [Act.put, List.setIfInBounds_toArray, List.set_cons_zero, List.set_cons_succ])
  refine wpAnyH_ready (rs := [14]) (by kernel_rfl) (by simp) ?_
  refine AllReadyH.cons rfl (fun K hK => ?_) AllReadyH.nil
  go_simp
  skip
  refine hK.out _ _ (by first | exact ⟨H.out.c3.st.reg rd (by omega), H.out.c3.ins⟩ | exact ⟨(H.out.reg rd (by omega) _).c3.st.reg rd (by omega), (H.out.reg rd (by omega) _).c3.ins⟩) (fun hHeld => ?_)
  clear hK K
  (try simp only [Act.put, List.setIfInBounds_toArray, List.set_cons_zero, List.set_cons_succ])
  refine wpAnyH_done (by kernel_rfl) ?_ _
  replace H := Lib.hid (H.out.reg rd (by omega) (Cs.value 17 (ra : Int) imm ((Cs.words s).r rd) ((Cs.words s).r rn) ((Cs.words s).r rm) l))
  clear tr tfz
  generalize World.setCell w5 _ _ = V5 at *
  obtain ⟨i0, i1, i2, i3, i4, i5, i6, i7⟩ := H.out.c3.ins
  go_wp2_with (first | ((with_reducible refine wpList_load_st H.out.t ?_ ?_); exact rfl))
  clear i0 i1 i2 i3 i4 i5 i6 i7
  replace H := Lib.hid H.out.drew
  have tr := H.out.t.reg ra (by omega)
  have tfz := H.out.t.open
  have trW : V5.cell? ⟨bt, ra, none⟩ = _ := tr
  have tfW : ∀ k, V5.frozen? ⟨bt, k, none⟩ = false := tfz
  refine wp_region_held_drew (S := fun wx => InsAt wx (w.heap.size + 1) 17 (rd : Int) (rn : Int) (rm : Int) (ra : Int) imm cond wide) (by kernel_rfl) (H.out.c3.ins) (fun hHeld => ?_)
  refine wpAnyH_take (i := 0) (v := ?_) rfl (by kernel_rfl) (by kernel_rfl) (by kernel_rfl) (fun _ _ _ h => h) (Or.inl ⟨by rfl, ?_⟩) (by assumption) ?_
  rotate_left
  · intro w hSw
    (try dsimp only at hSw)
    go_simp
    (try with_reducible rfl)
  (try simp only [Act.put, List.setIfInBounds_toArray, List.set_cons_zero, List.set_cons_succ])
  refine wpAnyH_take (i := 1) (v := ?_) rfl (by kernel_rfl) (by kernel_rfl) (by kernel_rfl) (fun _ _ _ h => h) (Or.inl ⟨by rfl, ?_⟩) (by assumption) ?_
  rotate_left
  · intro w hSw
    (try dsimp only at hSw)
    go_simp
    (try with_reducible rfl)
  (try simp only [Act.put, List.setIfInBounds_toArray, List.set_cons_zero, List.set_cons_succ])
  refine wpAnyH_take (i := 2) (v := ?_) rfl (by kernel_rfl) (by kernel_rfl) (by kernel_rfl) (fun _ _ _ h => h) (Or.inl ⟨by rfl, ?_⟩) (by assumption) ?_
  rotate_left
  · intro w hSw
    (try dsimp only at hSw)
    go_simp
    (try with_reducible rfl)
  (try simp only [Act.put, List.setIfInBounds_toArray, List.set_cons_zero, List.set_cons_succ])
  refine wpAnyH_take (i := 3) (v := ?_) rfl (by kernel_rfl) (by kernel_rfl) (by kernel_rfl) (fun _ _ _ h => h) (Or.inl ⟨by rfl, ?_⟩) (by assumption) ?_
  rotate_left
  · intro w hSw
    (try dsimp only at hSw)
    go_simp
    (try with_reducible rfl)
  (try simp only [Act.put, List.setIfInBounds_toArray, List.set_cons_zero, List.set_cons_succ])
  refine wpAnyH_take (i := 5) (v := ?_) rfl (by kernel_rfl) (by kernel_rfl) (by kernel_rfl) (fun _ _ _ h => h) (Or.inl ⟨by rfl, ?_⟩) (by assumption) ?_
  rotate_left
  · intro w hSw
    (try dsimp only at hSw)
    go_simp
    (try with_reducible rfl)
  (try simp only [Act.put, List.setIfInBounds_toArray, List.set_cons_zero, List.set_cons_succ])
  refine wpAnyH_ready (rs := [4]) (by kernel_rfl) (by simp) ?_
  refine AllReadyH.cons rfl (fun K hK => ?_) AllReadyH.nil
  go_simp
  (go_at_call 35; refine (rhigh_any _ _ _).mono ?_; rintro e w' ⟨rfl, rfl⟩)
  refine hK.out _ _ (by first | exact H.out.c3.ins | exact (H.out.reg ra (by omega) _).c3.ins) (fun hHeld => ?_)
  clear hK K
  (try simp only [Act.put, List.setIfInBounds_toArray, List.set_cons_zero, List.set_cons_succ])
  refine wpAnyH_take (i := 6) (v := ?_) rfl (by kernel_rfl) (by kernel_rfl) (by kernel_rfl) (fun _ _ _ h => h) (Or.inl ⟨by rfl, ?_⟩) (by assumption) ?_
  rotate_left
  · intro w hSw
    (try dsimp only at hSw)
    go_simp
    (try with_reducible rfl)
  (try simp only [Act.put, List.setIfInBounds_toArray, List.set_cons_zero, List.set_cons_succ])
  refine wpAnyH_ready (rs := [7]) (by kernel_rfl) (by simp) ?_
  refine AllReadyH.cons rfl (fun K hK => ?_) AllReadyH.nil
  go_simp
  skip
  refine hK.out _ _ (by first | exact H.out.c3.ins | exact (H.out.reg ra (by omega) _).c3.ins) (fun hHeld => ?_)
  clear hK K
  (try simp only [Act.put, List.setIfInBounds_toArray, List.set_cons_zero, List.set_cons_succ])
  refine wpAnyH_done (by kernel_rfl) ?_ _
  replace H := Lib.hid (H.out.reg ra (by omega) (Wd.high ((Cs.words s).r rn) ((Cs.words s).r rm)))
  clear tr tfz trW tfW
  rw [show V5.drew.setCell ⟨bt, ra, none⟩ (.int .i64 (Wd.high ((Cs.words s).r rn) ((Cs.words s).r rm))) = (V5.setCell ⟨bt, ra, none⟩ (.int .i64 (Wd.high ((Cs.words s).r rn) ((Cs.words s).r rm)))).drew from rfl] at H
  generalize World.drew (World.setCell V5 _ _) = V6 at *
  go_wp2_with (first | ((with_reducible refine wpList_load_st H.out.t ?_ ?_); exact rfl) | ((with_reducible apply wpList_store_st H.out.c3.res); exact rfl))
  all_goals
    try simp only [Exit.inBlock, Exit.then]
    refine bp_state2 rfl rfl ((H.out).c3.res.setRow _) rfl ⟨?_, (H.out).end _⟩
    rw [show Cs.stepS s ⟨17, (rd : Int), (rn : Int), (rm : Int), (ra : Int), imm, cond, wide⟩ l = { Cs.put (Cs.put (Cs.words s) rd (Cs.value 17 ra imm ((Cs.words s).r rd) ((Cs.words s).r rn) ((Cs.words s).r rm) l)) ra (Wd.high ((Cs.words s).r rn) ((Cs.words s).r rm)) with pc := p5 } by simp only [Cs.stepS, hz2, Bool.false_or]; rw [if_neg (by decide), if_neg (by rw [← Cs.taken_words, ht]; decide), ← HP.out, Cs.wrap_iw]; rfl, show Cs.stepB ⟨17, (rd : Int), (rn : Int), (rm : Int), (ra : Int), imm, cond, wide⟩ = true by simp [Cs.stepB, hz2]]
    rfl
end Go.Proofs.Ytennhpfhgbmnfaa
