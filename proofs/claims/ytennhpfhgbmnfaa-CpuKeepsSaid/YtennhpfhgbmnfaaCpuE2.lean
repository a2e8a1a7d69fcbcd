/-
  What the document's Step returns: what package cpu's does, part 2.
-/
import Derived.Test.YtennhpfhgbmnfaaCpuE
namespace Go.Proofs.Ytennhpfhgbmnfaa
open Go.ChangeShapes Go.WideShapes Go.ChangeAt Go.RowKit
set_option linter.unusedVariables false
set_option linter.unusedSimpArgs false

set_option maxHeartbeats 8000000 in
set_option maxRecDepth 10000 in
theorem rstep_23 (s : Cs.St) (rd rn rm : Nat) (ra imm cond l : Int) (wide : Bool) (w : World) (hd : rd < 13) (hn : rn < 13) (hm : rm < 13) (hz : (Th.check ⟨23, (rd : Int), (rn : Int), (rm : Int), ra, imm, cond, wide⟩ != 0) = false) (hz2 : (Th.size ⟨23, (rd : Int), (rn : Int), (rm : Int), ra, imm, cond, wide⟩ == 0) = false) (ht : Cs.taken (Cs.words s) 23 cond = false) :
    Calls Try.prog 10 #[.agg (Cs.cells s), .agg #[.int .i64 23, .int .i64 (rd : Int), .int .i64 (rn : Int), .int .i64 (rm : Int), .int .i64 ra, .int .i64 imm, .int .i64 cond, .bool wide], .int .i64 l] w fun e w' => e = .returned (.tuple #[.agg (Cs.cells (Cs.stepS s ⟨23, (rd : Int), (rn : Int), (rm : Int), ra, imm, cond, wide⟩ l)), .bool (Cs.stepB ⟨23, (rd : Int), (rn : Int), (rm : Int), ra, imm, cond, wide⟩)]) ∧ Below w.heap.size w w' := by
  have bd : (rd : Int) < 15 := by omega
  have bn : (rn : Int) < 15 := by omega
  have bm : (rm : Int) < 15 := by omega
  have bd0 : (0 : Int) ≤ (rd : Int) := by omega
  have bn0 : (0 : Int) ≤ (rn : Int) := by omega
  have bm0 : (0 : Int) ≤ (rm : Int) := by omega
  have H := Lib.hid (Cpu3.new w s 23 (rd : Int) (rn : Int) (rm : Int) ra imm cond wide)
  go_enter Try.func10, Try.ntmps10
  go_wp2_with (first | (go_at_call 26; refine (rwords_any _ _).mono ?_; rintro e w1 ⟨rfl, hb⟩; replace H := Lib.hid (H.out.kept hb); (try clear i0 i1 i2 i3 i4 i5 i6 i7 ipc fz); obtain ⟨i0, i1, i2, i3, i4, i5, i6, i7⟩ := H.out.ins; have ipc := H.out.st.pc; have fz := H.out.st.open; clear hb) | (go_at_call 27; refine (rcheck_any _ _ _ _ _ _ _ _ _).mono ?_; rintro e w1 ⟨rfl, hb⟩; replace H := Lib.hid (H.out.kept hb); (try clear i0 i1 i2 i3 i4 i5 i6 i7 ipc fz); obtain ⟨i0, i1, i2, i3, i4, i5, i6, i7⟩ := H.out.ins; have ipc := H.out.st.pc; have fz := H.out.st.open; clear hb) | ((with_reducible refine wpList_load_st H.out.st ?_ ?_); exact rfl) | ((with_reducible refine wpList_store_st H.out.st (Cs.words s) ?_ ?_); exact rfl; replace H := Lib.hid (H.out.row (Cs.words s)); (try clear i0 i1 i2 i3 i4 i5 i6 i7 ipc fz); generalize World.setRow _ w.heap.size _ = V at *; obtain ⟨i0, i1, i2, i3, i4, i5, i6, i7⟩ := H.out.ins; have ipc := H.out.st.pc; have fz := H.out.st.open) | ((with_reducible apply wpList_store_st (state_alloc_zero _)); exact rfl; rw [World.setRow_alloc_new]))
  clear i0 i1 i2 i3 i4 i5 i6 i7 ipc fz
  replace H := Lib.hid (Cpu4.new H.out (Cs.words s))
  generalize w1.alloc (.cells (Cs.cells (Cs.words s)) 24) = W at *
  generalize w1.heap.size = bt at *
  replace H := Lib.hid H.out.drew
  refine wp_region_held_drew (S := fun wx => wx.cell? ⟨w.heap.size, 15, none⟩ = some (.int .i64 (Cs.words s).pc) ∧ InsAt wx (w.heap.size + 1) 23 (rd : Int) (rn : Int) (rm : Int) ra imm cond wide) (by kernel_rfl) (⟨H.out.c3.st.pc, H.out.c3.ins⟩) (fun hHeld => ?_)
  refine wpAnyH_take (i := 0) (v := ?_) rfl (by kernel_rfl) (by kernel_rfl) (by kernel_rfl) (fun _ _ _ h => h) (Or.inl ⟨by rfl, ?_⟩) (by assumption) ?_
  rotate_left
  · intro w hSw
    (try dsimp only at hSw)
    go_simp
    (try with_reducible rfl)
  (try simp only [Act.put, List.setIfInBounds_toArray, List.set_cons_zero, List.set_cons_succ])
  refine wpAnyH_take (i := 1) (v := ?_) rfl (by kernel_rfl) (by kernel_rfl) (by kernel_rfl) (fun _ _ _ h => h) (Or.inl ⟨by rfl, ?_⟩) (by assumption) ?_
  rotate_left
  · intro w hSw
    (try dsimp only at hSw)
    go_simp
    (try with_reducible rfl)
  (try simp only [Act.put, List.setIfInBounds_toArray, List.set_cons_zero, List.set_cons_succ])
  refine wpAnyH_take (i := 2) (v := ?_) rfl (by kernel_rfl) (by kernel_rfl) (by kernel_rfl) (fun _ _ _ h => h) (Or.inl ⟨by rfl, ?_⟩) (by assumption) ?_
  rotate_left
  · intro w hSw
    (try dsimp only at hSw)
    go_simp
    (try with_reducible rfl)
  (try simp only [Act.put, List.setIfInBounds_toArray, List.set_cons_zero, List.set_cons_succ])
  refine wpAnyH_ready (rs := [3]) (by kernel_rfl) (by simp) ?_
  refine AllReadyH.cons rfl (fun K hK => ?_) AllReadyH.nil
  go_simp
  (go_at_call 29; refine (rsize_any _ _ _ _ _ _ _ _ _).mono ?_; rintro e w2 ⟨rfl, hb⟩; replace H := Lib.hid (H.out.kept hb); have tpc := H.out.t.pc; have tfz := H.out.t.open; clear hb)
  refine hK.out _ _ (by first | exact ⟨H.out.c3.st.pc, H.out.c3.ins⟩ | exact ⟨(H.out.pc _).c3.st.pc, (H.out.pc _).c3.ins⟩) (fun hHeld => ?_)
  clear hK K
  (try simp only [Act.put, List.setIfInBounds_toArray, List.set_cons_zero, List.set_cons_succ])
  refine wpAnyH_take (i := 4) (v := ?_) rfl (by kernel_rfl) (by kernel_rfl) (by kernel_rfl) (fun _ _ _ h => h) (Or.inl ⟨by rfl, ?_⟩) (by assumption) ?_
  rotate_left
  · intro w hSw
    (try dsimp only at hSw)
    go_simp
    (try with_reducible rfl)
  (try simp only [Act.put, List.setIfInBounds_toArray, List.set_cons_zero, List.set_cons_succ])
  refine wpAnyH_ready (rs := [5]) (by kernel_rfl) (by simp) ?_
  refine AllReadyH.cons rfl (fun K hK => ?_) AllReadyH.nil
  go_simp
  (go_at_call 28; refine (rwrap_any _ _).mono ?_; rintro e w' ⟨rfl, rfl⟩)
  refine hK.out _ _ (by first | exact ⟨H.out.c3.st.pc, H.out.c3.ins⟩ | exact ⟨(H.out.pc _).c3.st.pc, (H.out.pc _).c3.ins⟩) (fun hHeld => ?_)
  clear hK K
  (try simp only [Act.put, List.setIfInBounds_toArray, List.set_cons_zero, List.set_cons_succ])
  refine wpAnyH_take (i := 6) (v := ?_) rfl (by kernel_rfl) (by kernel_rfl) (by kernel_rfl) (fun _ _ _ h => h) (Or.inl ⟨by rfl, ?_⟩) (by assumption) ?_
  rotate_left
  · intro w hSw
    (try dsimp only at hSw)
    go_simp
    (try with_reducible rfl)
  (try simp only [Act.put, List.setIfInBounds_toArray, List.set_cons_zero, List.set_cons_succ])
  refine wpAnyH_ready (rs := [7]) (by kernel_rfl) (by simp) ?_
  refine AllReadyH.cons rfl (fun K hK => ?_) AllReadyH.nil
  go_simp
  skip
  refine hK.out _ _ (by first | exact ⟨H.out.c3.st.pc, H.out.c3.ins⟩ | exact ⟨(H.out.pc _).c3.st.pc, (H.out.pc _).c3.ins⟩) (fun hHeld => ?_)
  clear hK K
  (try simp only [Act.put, List.setIfInBounds_toArray, List.set_cons_zero, List.set_cons_succ])
  refine wpAnyH_done (by kernel_rfl) ?_ _
  replace H := Lib.hid (H.out.pc (Wd.wrap (IntKind.i64.wrap ((Cs.words s).pc + Th.size ⟨23, (rd : Int), (rn : Int), (rm : Int), ra, imm, cond, wide⟩))))
  clear tpc tfz
  generalize hp5 : Wd.wrap (IntKind.i64.wrap ((Cs.words s).pc + Th.size ⟨23, (rd : Int), (rn : Int), (rm : Int), ra, imm, cond, wide⟩)) = p5 at *
  have HP := Lib.hid hp5
  clear hp5
  generalize World.setCell w2 _ _ = V at *
  obtain ⟨i0, i1, i2, i3, i4, i5, i6, i7⟩ := H.out.c3.ins
  have ipc := H.out.c3.st.pc
  have tpc := H.out.t.pc
  have tfz := H.out.t.open
  go_wp2_with (first | (go_at_call 30; refine (rtaken_any _ _ _ _ _ _ _ _ _ _).mono ?_; rintro e w3 ⟨rfl, hb⟩; replace H := Lib.hid (H.out.kept hb); clear i0 i1 i2 i3 i4 i5 i6 i7 ipc tpc tfz; obtain ⟨i0, i1, i2, i3, i4, i5, i6, i7⟩ := H.out.c3.ins; have ipc := H.out.c3.st.pc; have tpc := H.out.t.pc; have tfz := H.out.t.open; clear hb) | ((with_reducible refine wpList_load_st H.out.c3.st ?_ ?_); exact rfl) | (go_at_call 28; refine (rwrap_any _ _).mono ?_; rintro e w' ⟨rfl, rfl⟩))
  clear i0 i1 i2 i3 i4 i5 i6 i7 ipc tpc tfz
  obtain ⟨i0, i1, i2, i3, i4, i5, i6, i7⟩ := H.out.c3.ins
  have sn := H.out.c3.st.reg rn (by omega)
  have sm := H.out.c3.st.reg rm (by omega)
  go_quiet (fail)
  replace H := Lib.hid (H.out.drewN nq)
  clear i0 i1 i2 i3 i4 i5 i6 i7 sn sm
  generalize World.drewN _ nq = U at *
  obtain ⟨i0, i1, i2, i3, i4, i5, i6, i7⟩ := H.out.c3.ins
  have G0 : Cpu4 w w.heap.size U (Cs.words s) bt ⟨(Cs.words s).r, p5, (Cs.words s).n, (Cs.words s).z, (Cs.words s).c, (Cs.words s).v⟩ 23 (rd : Int) (rn : Int) (rm : Int) ra imm cond wide := H.out
  have G1 : ∀ a, Cpu4 w w.heap.size (U.setCell ⟨bt, 16, none⟩ (.bool a)) (Cs.words s) bt ⟨(Cs.words s).r, p5, a, (Cs.words s).z, (Cs.words s).c, (Cs.words s).v⟩ 23 (rd : Int) (rn : Int) (rm : Int) ra imm cond wide := fun a => G0.put 16 _ _ rfl
  have G2 : ∀ a b, Cpu4 w w.heap.size ((U.setCell ⟨bt, 16, none⟩ (.bool a)).setCell ⟨bt, 17, none⟩ (.bool b)) (Cs.words s) bt ⟨(Cs.words s).r, p5, a, b, (Cs.words s).c, (Cs.words s).v⟩ 23 (rd : Int) (rn : Int) (rm : Int) ra imm cond wide := fun a b => (G1 a).put 17 _ _ rfl
  have G3 : ∀ a b c, Cpu4 w w.heap.size (((U.setCell ⟨bt, 16, none⟩ (.bool a)).setCell ⟨bt, 17, none⟩ (.bool b)).setCell ⟨bt, 18, none⟩ (.bool c)) (Cs.words s) bt ⟨(Cs.words s).r, p5, a, b, c, (Cs.words s).v⟩ 23 (rd : Int) (rn : Int) (rm : Int) ra imm cond wide := fun a b c => (G2 a b).put 18 _ _ rfl
  have G4 : ∀ a b c d, Cpu4 w w.heap.size ((((U.setCell ⟨bt, 16, none⟩ (.bool a)).setCell ⟨bt, 17, none⟩ (.bool b)).setCell ⟨bt, 18, none⟩ (.bool c)).setCell ⟨bt, 19, none⟩ (.bool d)) (Cs.words s) bt ⟨(Cs.words s).r, p5, a, b, c, d⟩ 23 (rd : Int) (rn : Int) (rm : Int) ra imm cond wide := fun a b c d => (G3 a b c).put 19 _ _ rfl
  have e16 := G0.t.n
  have e17 : ∀ a, (U.setCell ⟨bt, 16, none⟩ (.bool a)).cell? ⟨bt, 17, none⟩ = _ := fun a => (G1 a).t.z
  have e18 : ∀ a b, ((U.setCell ⟨bt, 16, none⟩ (.bool a)).setCell ⟨bt, 17, none⟩ (.bool b)).cell? ⟨bt, 18, none⟩ = _ := fun a b => (G2 a b).t.c
  have e19 : ∀ a b c, (((U.setCell ⟨bt, 16, none⟩ (.bool a)).setCell ⟨bt, 17, none⟩ (.bool b)).setCell ⟨bt, 18, none⟩ (.bool c)).cell? ⟨bt, 19, none⟩ = _ := fun a b c => (G3 a b c).t.v
  have tfz := G0.t.open
  have G4' := Lib.hid G4
  clear G0 G1 G2 G3 G4
  have hs1 := Cs.sgn_bd _ (Cs.words_bd s rn).1 (Cs.words_bd s rn).2
  have hs2 := Cs.sgn_bd _ (Cs.words_bd s rm).1 (Cs.words_bd s rm).2
  go_wp2_with (first | (go_at_call 31; first | ((with_reducible refine (rsigned_any ((Cs.words s).r rn) _ (Cs.words_bd s rn).1 (Cs.words_bd s rn).2).mono ?_); rintro e w' ⟨rfl, rfl⟩) | ((with_reducible refine (rsigned_any ((Cs.words s).r rm) _ (Cs.words_bd s rm).1 (Cs.words_bd s rm).2).mono ?_); rintro e w' ⟨rfl, rfl⟩)) | ((with_reducible refine wpList_load_st (G4'.out _ _ _ _).t ?_ ?_); exact rfl) | ((with_reducible apply wpList_store_st (G4'.out _ _ _ _).c3.res); exact rfl) | (go_at_call 33; refine (rsub_any _ _ _).mono ?_; rintro e w' ⟨rfl, rfl⟩) | (go_at_call 32; refine (rbit_any _ _ _).mono ?_; rintro e w' ⟨rfl, rfl⟩))
  all_goals
    try simp only [Exit.inBlock, Exit.then]
    refine bp_state2 rfl rfl ((G4'.out _ _ _ _).c3.res.setRow _) rfl ⟨?_, (G4'.out _ _ _ _).end _⟩
    rw [show Cs.stepS s ⟨23, (rd : Int), (rn : Int), (rm : Int), ra, imm, cond, wide⟩ l = ⟨(Cs.words s).r, p5, Wd.bit (Wd.sub ((Cs.words s).r rn) ((Cs.words s).r rm)) 31 == 1, (Cs.words s).r rn == (Cs.words s).r rm, decide ((Cs.words s).r rm ≤ (Cs.words s).r rn), decide (Cs.sgn ((Cs.words s).r rn) - Cs.sgn ((Cs.words s).r rm) < -2147483648) || decide (2147483647 < Cs.sgn ((Cs.words s).r rn) - Cs.sgn ((Cs.words s).r rm))⟩ by simp only [Cs.stepS, hz2, Bool.false_or]; rw [if_neg (by decide), if_neg (by rw [← Cs.taken_words, ht]; decide), ← HP.out, Cs.wrap_iw]; rfl, show Cs.stepB ⟨23, (rd : Int), (rn : Int), (rm : Int), ra, imm, cond, wide⟩ = true by simp [Cs.stepB, hz2]]
  all_goals first | rfl | (rename_i h; rw [show (decide (Cs.sgn ((Cs.words s).r rn) - Cs.sgn ((Cs.words s).r rm) < -2147483648) || decide (2147483647 < Cs.sgn ((Cs.words s).r rn) - Cs.sgn ((Cs.words s).r rm))) = true by simp [h]]; rfl) | (rename_i h; rw [show (decide (Cs.sgn ((Cs.words s).r rn) - Cs.sgn ((Cs.words s).r rm) < -2147483648) || decide (2147483647 < Cs.sgn ((Cs.words s).r rn) - Cs.sgn ((Cs.words s).r rm))) = decide (2147483647 < Cs.sgn ((Cs.words s).r rn) - Cs.sgn ((Cs.words s).r rm)) by rw [decide_eq_false (by omega), Bool.false_or]]; rfl)
end Go.Proofs.Ytennhpfhgbmnfaa
