/-
  What made of package cpu returns, operation by operation, part 4.
-/
import Derived.Test.YtennhpfhgbmnfaaCpuB
namespace Go.Proofs.Ytennhpfhgbmnfaa
open Go.ChangeShapes Go.WideShapes Go.ChangeAt Go.RowKit
set_option linter.unusedVariables false
set_option linter.unusedSimpArgs false

theorem pow_ones (k : Nat) (hk : k ≤ 32) : wrap64 (wrap64 (2 ^ k) - 1) = 2 ^ k - 1 := by
  have h2 : (2 : Nat) ^ k ≤ 2 ^ 32 := Nat.pow_le_pow_right (by decide) hk
  have h3 : 1 ≤ (2 : Nat) ^ k := Nat.two_pow_pos k
  rw [Wd.pow_cast]
  generalize (2 : Nat) ^ k = q at *
  rw [Wd.wrap64_in (q : Int) (by omega) (by omega), Wd.wrap64_in _ (by omega) (by omega)]
set_option maxHeartbeats 2000000 in
set_option maxRecDepth 10000 in
theorem made_23 (s : Cs.St) (rd rn rm : Nat) (ra imm cond l : Int) (wide : Bool) (w : World) (hd : rd < 13) (hn : rn < 13) (hm : rm < 13) (hw : ∀ j, 0 ≤ s.r j ∧ s.r j < 4294967296) :
    Calls Try.prog 25 #[.agg (Cs.cells s), .agg #[.int .i64 23, .int .i64 (rd : Int), .int .i64 (rn : Int), .int .i64 (rm : Int), .int .i64 ra, .int .i64 imm, .int .i64 cond, .bool wide], .int .i64 l] w fun e w' => e = .returned (.agg (Cs.cells (Cs.made s ⟨23, rd, rn, rm, ra, imm, cond, wide⟩ l))) ∧ Below w.heap.size w w' := by
  have gd := Cs.cells_get s rd (by omega)
  have gn := Cs.cells_get s rn (by omega)
  have gm := Cs.cells_get s rm (by omega)
  have bd : (rd : Int) < 15 := by omega
  have bn : (rn : Int) < 15 := by omega
  have bm : (rm : Int) < 15 := by omega
  have bd0 : (0 : Int) ≤ (rd : Int) := by omega
  have bn0 : (0 : Int) ≤ (rn : Int) := by omega
  have bm0 : (0 : Int) ≤ (rm : Int) := by omega
  go_enter Try.func25, Try.ntmps25
  go_wp2_with fail
  go_quiet (fail)
  simp only [alloc_drewN]
  have hB : Below w.heap.size w ((((w.drewN nq).alloc (.cells (Cs.cells s) 24)).alloc (.cells #[.int .i64 23, .int .i64 (rd : Int), .int .i64 (rn : Int), .int .i64 (rm : Int), .int .i64 ra, .int .i64 imm, .int .i64 cond, .bool wide] 26)).alloc (.cells Cs.zero 24)) := ((((below_drewC (Below.refl _ _) nq).alloc (Nat.le_refl _) _).alloc (by simp) _).alloc (by simp; omega) _)
  have hS : StateAt ((((w.drewN nq).alloc (.cells (Cs.cells s) 24)).alloc (.cells #[.int .i64 23, .int .i64 (rd : Int), .int .i64 (rn : Int), .int .i64 (rm : Int), .int .i64 ra, .int .i64 imm, .int .i64 cond, .bool wide] 26)).alloc (.cells Cs.zero 24)) w.heap.size s := ((state_alloc' (w.drewN nq) s _ rfl).alloc _).alloc _
  have hR : StateAt ((((w.drewN nq).alloc (.cells (Cs.cells s) 24)).alloc (.cells #[.int .i64 23, .int .i64 (rd : Int), .int .i64 (rn : Int), .int .i64 (rm : Int), .int .i64 ra, .int .i64 imm, .int .i64 cond, .bool wide] 26)).alloc (.cells Cs.zero 24)) (w.heap.size + 1 + 1) Cs.none := state_alloc' _ Cs.none _ (by simp)
  have hI : InsAt ((((w.drewN nq).alloc (.cells (Cs.cells s) 24)).alloc (.cells #[.int .i64 23, .int .i64 (rd : Int), .int .i64 (rn : Int), .int .i64 (rm : Int), .int .i64 ra, .int .i64 imm, .int .i64 cond, .bool wide] 26)).alloc (.cells Cs.zero 24)) (w.heap.size + 1) 23 (rd : Int) (rn : Int) (rm : Int) ra imm cond wide := by
    refine InsAt.alloc ?_ (by simp) _
    have h := ins_alloc ((w.drewN nq).alloc (.cells (Cs.cells s) 24)) 26 23 (rd : Int) (rn : Int) (rm : Int) ra imm cond wide
    simpa using h
  generalize hW : ((((w.drewN nq).alloc (.cells (Cs.cells s) 24)).alloc (.cells #[.int .i64 23, .int .i64 (rd : Int), .int .i64 (rn : Int), .int .i64 (rm : Int), .int .i64 ra, .int .i64 imm, .int .i64 cond, .bool wide] 26)).alloc (.cells Cs.zero 24)) = W at *
  clear hW gd gn gm
  have HB := Lib.hid hB
  clear hB
  obtain ⟨i0, i1, i2, i3, i4, i5, i6, i7⟩ := hI
  have c1 := hS.reg rd (by omega)
  have fz := hS.open
  have hA0 : StateAt W w.heap.size s := hS
  have hA : ∀ x, StateAt (W.setCell ⟨w.heap.size, rd, none⟩ (.int .i64 x)) w.heap.size (Cs.put s rd x) := fun x => hS.set rd _ (Cs.cells_put s rd x (by omega))
  have hR0 : StateAt W (w.heap.size + 1 + 1) Cs.none := hR
  have hR1 : ∀ x, StateAt (W.setCell ⟨w.heap.size, rd, none⟩ (.int .i64 x)) (w.heap.size + 1 + 1) Cs.none := fun x => hR.other _ _ (by show w.heap.size + 1 + 1 ≠ w.heap.size; omega)
  clear hS hR
  go_wp2_with (first | ((with_reducible refine wpList_load_st hA0 ?_ ?_); exact rfl) | (go_at_call 51; refine (compared_any s _ _ _ (hw rn).1 (hw rn).2 (hw rm).1 (hw rm).2).mono ?_; rintro e w3 ⟨rfl, hb⟩; have hR3 : StateAt w3 (w.heap.size + 1 + 1) Cs.none := hR0.below hb; have HB3 := Lib.hid (HB.out.trans (hb.mono HB.out.size)); clear hb) | ((with_reducible apply wpList_store_st hR3); exact rfl))
  try simp only [Exit.inBlock, Exit.then]
  refine bp_state rfl rfl (hR3.setRow _) rfl ⟨rfl, below_setRow HB3.out (by omega) _⟩

set_option maxHeartbeats 2000000 in
set_option maxRecDepth 10000 in
theorem made_17 (s : Cs.St) (rd rn rm ra : Nat) (imm cond l : Int) (wide : Bool) (w : World) (hd : rd < 13) (hn : rn < 13) (hm : rm < 13) (hw : ∀ j, 0 ≤ s.r j ∧ s.r j < 4294967296) (ha : ra < 13) :
    Calls Try.prog 25 #[.agg (Cs.cells s), .agg #[.int .i64 17, .int .i64 (rd : Int), .int .i64 (rn : Int), .int .i64 (rm : Int), .int .i64 (ra : Int), .int .i64 imm, .int .i64 cond, .bool wide], .int .i64 l] w fun e w' => e = .returned (.agg (Cs.cells (Cs.made s ⟨17, rd, rn, rm, ra, imm, cond, wide⟩ l))) ∧ Below w.heap.size w w' := by
  have gd := Cs.cells_get s rd (by omega)
  have gn := Cs.cells_get s rn (by omega)
  have gm := Cs.cells_get s rm (by omega)
  have bd : (rd : Int) < 15 := by omega
  have bn : (rn : Int) < 15 := by omega
  have bm : (rm : Int) < 15 := by omega
  have bd0 : (0 : Int) ≤ (rd : Int) := by omega
  have bn0 : (0 : Int) ≤ (rn : Int) := by omega
  have bm0 : (0 : Int) ≤ (rm : Int) := by omega
  go_enter Try.func25, Try.ntmps25
  go_wp2_with fail
  go_quiet (fail)
  simp only [alloc_drewN]
  have hB : Below w.heap.size w ((((w.drewN nq).alloc (.cells (Cs.cells s) 24)).alloc (.cells #[.int .i64 17, .int .i64 (rd : Int), .int .i64 (rn : Int), .int .i64 (rm : Int), .int .i64 (ra : Int), .int .i64 imm, .int .i64 cond, .bool wide] 26)).alloc (.cells Cs.zero 24)) := ((((below_drewC (Below.refl _ _) nq).alloc (Nat.le_refl _) _).alloc (by simp) _).alloc (by simp; omega) _)
  have hS : StateAt ((((w.drewN nq).alloc (.cells (Cs.cells s) 24)).alloc (.cells #[.int .i64 17, .int .i64 (rd : Int), .int .i64 (rn : Int), .int .i64 (rm : Int), .int .i64 (ra : Int), .int .i64 imm, .int .i64 cond, .bool wide] 26)).alloc (.cells Cs.zero 24)) w.heap.size s := ((state_alloc' (w.drewN nq) s _ rfl).alloc _).alloc _
  have hR : StateAt ((((w.drewN nq).alloc (.cells (Cs.cells s) 24)).alloc (.cells #[.int .i64 17, .int .i64 (rd : Int), .int .i64 (rn : Int), .int .i64 (rm : Int), .int .i64 (ra : Int), .int .i64 imm, .int .i64 cond, .bool wide] 26)).alloc (.cells Cs.zero 24)) (w.heap.size + 1 + 1) Cs.none := state_alloc' _ Cs.none _ (by simp)
  have hI : InsAt ((((w.drewN nq).alloc (.cells (Cs.cells s) 24)).alloc (.cells #[.int .i64 17, .int .i64 (rd : Int), .int .i64 (rn : Int), .int .i64 (rm : Int), .int .i64 (ra : Int), .int .i64 imm, .int .i64 cond, .bool wide] 26)).alloc (.cells Cs.zero 24)) (w.heap.size + 1) 17 (rd : Int) (rn : Int) (rm : Int) (ra : Int) imm cond wide := by
    refine InsAt.alloc ?_ (by simp) _
    have h := ins_alloc ((w.drewN nq).alloc (.cells (Cs.cells s) 24)) 26 17 (rd : Int) (rn : Int) (rm : Int) (ra : Int) imm cond wide
    simpa using h
  generalize hW : ((((w.drewN nq).alloc (.cells (Cs.cells s) 24)).alloc (.cells #[.int .i64 17, .int .i64 (rd : Int), .int .i64 (rn : Int), .int .i64 (rm : Int), .int .i64 (ra : Int), .int .i64 imm, .int .i64 cond, .bool wide] 26)).alloc (.cells Cs.zero 24)) = W at *
  clear hW gd gn gm
  have HB := Lib.hid hB
  clear hB
  obtain ⟨i0, i1, i2, i3, i4, i5, i6, i7⟩ := hI
  have c1 := hS.reg rd (by omega)
  have fz := hS.open
  have hA0 : StateAt W w.heap.size s := hS
  have hA : ∀ x, StateAt (W.setCell ⟨w.heap.size, rd, none⟩ (.int .i64 x)) w.heap.size (Cs.put s rd x) := fun x => hS.set rd _ (Cs.cells_put s rd x (by omega))
  have hR0 : StateAt W (w.heap.size + 1 + 1) Cs.none := hR
  have hR1 : ∀ x, StateAt (W.setCell ⟨w.heap.size, rd, none⟩ (.int .i64 x)) (w.heap.size + 1 + 1) Cs.none := fun x => hR.other _ _ (by show w.heap.size + 1 + 1 ≠ w.heap.size; omega)
  clear hS hR
  have hI : InsAt W (w.heap.size + 1) 17 (rd : Int) (rn : Int) (rm : Int) (ra : Int) imm cond wide := ⟨i0, i1, i2, i3, i4, i5, i6, i7⟩
  have ba0 : (0 : Int) ≤ (ra : Int) := by omega
  have ba : (ra : Int) < 15 := by omega
  have HI := Lib.hid hI
  clear hI
  go_wp2_with fail
  have HId : Hid (InsAt W.drew (w.heap.size + 1) 17 (rd : Int) (rn : Int) (rm : Int) (ra : Int) imm cond wide) := Lib.hid HI.out
  have HBd := HB
  have hA2 : ∀ x y, StateAt ((W.setCell ⟨w.heap.size, rd, none⟩ (.int .i64 x)).setCell ⟨w.heap.size, ra, none⟩ (.int .i64 y)).drew w.heap.size (Cs.put (Cs.put s rd x) ra y) := fun x y => (hA x).set ra _ (Cs.cells_put _ ra y (by omega))
  have hR2 : ∀ x y, StateAt ((W.setCell ⟨w.heap.size, rd, none⟩ (.int .i64 x)).setCell ⟨w.heap.size, ra, none⟩ (.int .i64 y)).drew (w.heap.size + 1 + 1) Cs.none := fun x y => (hR1 x).other _ _ (by show w.heap.size + 1 + 1 ≠ w.heap.size; omega)
  have c2 : ∀ x, (W.setCell ⟨w.heap.size, rd, none⟩ (.int .i64 x)).cell? ⟨w.heap.size, ra, none⟩ = some (.int .i64 ((Cs.put s rd x).r ra)) := fun x => (hA x).reg ra (by omega)
  clear hA hR1 hA0 hR0
  refine wp_region_held_drew (S := fun wx => InsAt wx (w.heap.size + 1) 17 (rd : Int) (rn : Int) (rm : Int) (ra : Int) imm cond wide) (by kernel_rfl) (HId.out) (fun hHeld => ?_)
  refine wpAnyH_take (i := 0) (v := ?_) rfl (by kernel_rfl) (by kernel_rfl) (by kernel_rfl) (fun _ _ _ h => h) (Or.inl ⟨by rfl, ?_⟩) (by assumption) ?_
  rotate_left
  · intro w hSw
    (try dsimp only at hSw)
    go_simp
    (try with_reducible rfl)
  (try simp only [Act.put, List.setIfInBounds_toArray, List.set_cons_zero, List.set_cons_succ])
  refine wpAnyH_take (i := 1) (v := ?_) rfl (by kernel_rfl) (by kernel_rfl) (by kernel_rfl) (fun _ _ _ h => h) (Or.inl ⟨by rfl, ?_⟩) (by assumption) ?_
  rotate_left
  · intro w hSw
    (try dsimp only at hSw)
    go_simp
    (try with_reducible rfl)
  (try simp only [Act.put, List.setIfInBounds_toArray, List.set_cons_zero, List.set_cons_succ])
  refine wpAnyH_take (i := 2) (v := ?_) rfl (by kernel_rfl) (by kernel_rfl) (by kernel_rfl) (fun _ _ _ h => h) (Or.inl ⟨by rfl, ?_⟩) (by assumption) ?_
  rotate_left
  · intro w hSw
    (try dsimp only at hSw)
    go_simp
    (try with_reducible rfl)
  (try simp only [Act.put, List.setIfInBounds_toArray, List.set_cons_zero, List.set_cons_succ])
  refine wpAnyH_take (i := 3) (v := ?_) rfl (by kernel_rfl) (by kernel_rfl) (by kernel_rfl) (fun _ _ _ h => h) (Or.inl ⟨by rfl, ?_⟩) (by assumption) ?_
  rotate_left
  · intro w hSw
    (try dsimp only at hSw)
    go_simp
    (try with_reducible rfl)
  (try simp only [Act.put, List.setIfInBounds_toArray, List.set_cons_zero, List.set_cons_succ])
  refine wpAnyH_take (i := 4) (v := ?_) rfl (by kernel_rfl) (by kernel_rfl) (by kernel_rfl) (fun _ _ _ h => h) (Or.inl ⟨by rfl, ?_⟩) (by assumption) ?_
  rotate_left
  · intro w hSw
    (try dsimp only at hSw)
    go_simp
    (try with_reducible rfl)
  (try simp only [Act.put, List.setIfInBounds_toArray, List.set_cons_zero, List.set_cons_succ])
  refine wpAnyH_take (i := 5) (v := ?_) rfl (by kernel_rfl) (by kernel_rfl) (by kernel_rfl) (fun _ _ _ h => h) (Or.inl ⟨by rfl, ?_⟩) (by assumption) ?_
  rotate_left
  · intro w hSw
    (try dsimp only at hSw)
    go_simp
    (try with_reducible rfl)
  (try simp only [Act.put, List.setIfInBounds_toArray, List.set_cons_zero, List.set_cons_succ])
  refine wpAnyH_take (i := 7) (v := ?_) rfl (by kernel_rfl) (by kernel_rfl) (by kernel_rfl) (fun _ _ _ h => h) (Or.inl ⟨by rfl, ?_⟩) (by assumption) ?_
  rotate_left
  · intro w hSw
    (try dsimp only at hSw)
    go_simp
    (try with_reducible rfl)
  (try simp only [Act.put, List.setIfInBounds_toArray, List.set_cons_zero, List.set_cons_succ])
  refine wpAnyH_take (i := 8) (v := ?_) rfl (by kernel_rfl) (by kernel_rfl) (by kernel_rfl) (fun _ _ _ h => h) (Or.inl ⟨by rfl, ?_⟩) (by assumption) ?_
  rotate_left
  · intro w hSw
    (try dsimp only at hSw)
    go_simp
    (try with_reducible rfl)
  (try simp only [Act.put, List.setIfInBounds_toArray, List.set_cons_zero, List.set_cons_succ])
  refine wpAnyH_take (i := 10) (v := ?_) rfl (by kernel_rfl) (by kernel_rfl) (by kernel_rfl) (fun _ _ _ h => h) (Or.inl ⟨by rfl, ?_⟩) (by assumption) ?_
  rotate_left
  · intro w hSw
    (try dsimp only at hSw)
    go_simp
    (try with_reducible rfl)
  (try simp only [Act.put, List.setIfInBounds_toArray, List.set_cons_zero, List.set_cons_succ])
  refine wpAnyH_take (i := 13) (v := ?_) rfl (by kernel_rfl) (by kernel_rfl) (by kernel_rfl) (fun _ _ _ h => h) (Or.inl ⟨by rfl, ?_⟩) (by assumption) ?_
  rotate_left
  · intro w hSw
    (try dsimp only at hSw)
    go_simp
    (try with_reducible rfl)
  (try simp only [Act.put, List.setIfInBounds_toArray, List.set_cons_zero, List.set_cons_succ])
  refine wpAnyH_ready (rs := [6]) (by kernel_rfl) (by simp) ?_
  refine AllReadyH.cons rfl (fun K hK => ?_) AllReadyH.nil
  go_simp
  (go_at_call 48; refine (mul_any _ _ _).mono ?_; rintro e w' ⟨rfl, rfl⟩)
  refine hK.out _ _ (by first | exact HId.out | exact HId.out.set _ _ (by show w.heap.size + 1 ≠ w.heap.size; omega) | exact (HId.out.set _ _ (by show w.heap.size + 1 ≠ w.heap.size; omega)).set _ _ (by show w.heap.size + 1 ≠ w.heap.size; omega)) (fun hHeld => ?_)
  clear hK K
  (try simp only [Act.put, List.setIfInBounds_toArray, List.set_cons_zero, List.set_cons_succ])
  refine wpAnyH_take (i := 11) (v := ?_) rfl (by kernel_rfl) (by kernel_rfl) (by kernel_rfl) (fun _ _ _ h => h) (Or.inl ⟨by rfl, ?_⟩) (by assumption) ?_
  rotate_left
  · intro w hSw
    (try dsimp only at hSw)
    go_simp
    (try with_reducible rfl)
  (try simp only [Act.put, List.setIfInBounds_toArray, List.set_cons_zero, List.set_cons_succ])
  refine wpAnyH_ready (rs := [9]) (by kernel_rfl) (by simp) ?_
  refine AllReadyH.cons rfl (fun K hK => ?_) AllReadyH.nil
  go_simp
  (go_at_call 49; refine (high_any _ _ _).mono ?_; rintro e w' ⟨rfl, rfl⟩)
  refine hK.out _ _ (by first | exact HId.out | exact HId.out.set _ _ (by show w.heap.size + 1 ≠ w.heap.size; omega) | exact (HId.out.set _ _ (by show w.heap.size + 1 ≠ w.heap.size; omega)).set _ _ (by show w.heap.size + 1 ≠ w.heap.size; omega)) (fun hHeld => ?_)
  clear hK K
  (try simp only [Act.put, List.setIfInBounds_toArray, List.set_cons_zero, List.set_cons_succ])
  refine wpAnyH_ready (rs := [12]) (by kernel_rfl) (by simp) ?_
  refine AllReadyH.cons rfl (fun K hK => ?_) AllReadyH.nil
  go_simp
  skip
  refine hK.out _ _ (by first | exact HId.out | exact HId.out.set _ _ (by show w.heap.size + 1 ≠ w.heap.size; omega) | exact (HId.out.set _ _ (by show w.heap.size + 1 ≠ w.heap.size; omega)).set _ _ (by show w.heap.size + 1 ≠ w.heap.size; omega)) (fun hHeld => ?_)
  clear hK K
  (try simp only [Act.put, List.setIfInBounds_toArray, List.set_cons_zero, List.set_cons_succ])
  refine wpAnyH_take (i := 14) (v := ?_) rfl (by kernel_rfl) (by kernel_rfl) (by kernel_rfl) (fun _ _ _ h => h) (Or.inl ⟨by rfl, ?_⟩) (by assumption) ?_
  rotate_left
  · intro w hSw
    (try dsimp only at hSw)
    go_simp
    (try with_reducible rfl)
  (try simp only [Act.put, List.setIfInBounds_toArray, List.set_cons_zero, List.set_cons_succ])
  refine wpAnyH_ready (rs := [15]) (by kernel_rfl) (by simp) ?_
  refine AllReadyH.cons rfl (fun K hK => ?_) AllReadyH.nil
  go_simp
  skip
  refine hK.out _ _ (by first | exact HId.out | exact HId.out.set _ _ (by show w.heap.size + 1 ≠ w.heap.size; omega) | exact (HId.out.set _ _ (by show w.heap.size + 1 ≠ w.heap.size; omega)).set _ _ (by show w.heap.size + 1 ≠ w.heap.size; omega)) (fun hHeld => ?_)
  clear hK K
  (try simp only [Act.put, List.setIfInBounds_toArray, List.set_cons_zero, List.set_cons_succ])
  refine wpAnyH_done (by kernel_rfl) ?_ _
  go_wp2_with (first | ((with_reducible refine wpList_load_st (hA2 _ _) ?_ ?_); exact rfl) | ((with_reducible apply wpList_store_st (hR2 _ _)); exact rfl))
  try simp only [Exit.inBlock, Exit.then]
  refine bp_state rfl rfl ((hR2 _ _).setRow _) rfl ⟨rfl, below_setRow ((HBd.out.setCell (Nat.le_refl _) _).setCell (Nat.le_refl _) _).drew (by omega) _⟩

set_option maxHeartbeats 2000000 in
set_option maxRecDepth 10000 in
theorem made_18 (s : Cs.St) (rd rn rm k a : Nat) (cond l : Int) (wide : Bool) (w : World) (hd : rd < 13) (hn : rn < 13) (hm : rm < 13) (hw : ∀ j, 0 ≤ s.r j ∧ s.r j < 4294967296) (hk : 1 ≤ k) (ha : a + k ≤ 32) :
    Calls Try.prog 25 #[.agg (Cs.cells s), .agg #[.int .i64 18, .int .i64 (rd : Int), .int .i64 (rn : Int), .int .i64 (rm : Int), .int .i64 (k : Int), .int .i64 (a : Int), .int .i64 cond, .bool wide], .int .i64 l] w fun e w' => e = .returned (.agg (Cs.cells (Cs.made s ⟨18, rd, rn, rm, k, a, cond, wide⟩ l))) ∧ Below w.heap.size w w' := by
  have gd := Cs.cells_get s rd (by omega)
  have gn := Cs.cells_get s rn (by omega)
  have gm := Cs.cells_get s rm (by omega)
  have bd : (rd : Int) < 15 := by omega
  have bn : (rn : Int) < 15 := by omega
  have bm : (rm : Int) < 15 := by omega
  have bd0 : (0 : Int) ≤ (rd : Int) := by omega
  have bn0 : (0 : Int) ≤ (rn : Int) := by omega
  have bm0 : (0 : Int) ≤ (rm : Int) := by omega
  go_enter Try.func25, Try.ntmps25
  go_wp2_with fail
  go_quiet (fail)
  simp only [alloc_drewN]
  have hB : Below w.heap.size w ((((w.drewN nq).alloc (.cells (Cs.cells s) 24)).alloc (.cells #[.int .i64 18, .int .i64 (rd : Int), .int .i64 (rn : Int), .int .i64 (rm : Int), .int .i64 (k : Int), .int .i64 (a : Int), .int .i64 cond, .bool wide] 26)).alloc (.cells Cs.zero 24)) := ((((below_drewC (Below.refl _ _) nq).alloc (Nat.le_refl _) _).alloc (by simp) _).alloc (by simp; omega) _)
  have hS : StateAt ((((w.drewN nq).alloc (.cells (Cs.cells s) 24)).alloc (.cells #[.int .i64 18, .int .i64 (rd : Int), .int .i64 (rn : Int), .int .i64 (rm : Int), .int .i64 (k : Int), .int .i64 (a : Int), .int .i64 cond, .bool wide] 26)).alloc (.cells Cs.zero 24)) w.heap.size s := ((state_alloc' (w.drewN nq) s _ rfl).alloc _).alloc _
  have hR : StateAt ((((w.drewN nq).alloc (.cells (Cs.cells s) 24)).alloc (.cells #[.int .i64 18, .int .i64 (rd : Int), .int .i64 (rn : Int), .int .i64 (rm : Int), .int .i64 (k : Int), .int .i64 (a : Int), .int .i64 cond, .bool wide] 26)).alloc (.cells Cs.zero 24)) (w.heap.size + 1 + 1) Cs.none := state_alloc' _ Cs.none _ (by simp)
  have hI : InsAt ((((w.drewN nq).alloc (.cells (Cs.cells s) 24)).alloc (.cells #[.int .i64 18, .int .i64 (rd : Int), .int .i64 (rn : Int), .int .i64 (rm : Int), .int .i64 (k : Int), .int .i64 (a : Int), .int .i64 cond, .bool wide] 26)).alloc (.cells Cs.zero 24)) (w.heap.size + 1) 18 (rd : Int) (rn : Int) (rm : Int) (k : Int) (a : Int) cond wide := by
    refine InsAt.alloc ?_ (by simp) _
    have h := ins_alloc ((w.drewN nq).alloc (.cells (Cs.cells s) 24)) 26 18 (rd : Int) (rn : Int) (rm : Int) (k : Int) (a : Int) cond wide
    simpa using h
  generalize hW : ((((w.drewN nq).alloc (.cells (Cs.cells s) 24)).alloc (.cells #[.int .i64 18, .int .i64 (rd : Int), .int .i64 (rn : Int), .int .i64 (rm : Int), .int .i64 (k : Int), .int .i64 (a : Int), .int .i64 cond, .bool wide] 26)).alloc (.cells Cs.zero 24)) = W at *
  clear hW gd gn gm
  have HB := Lib.hid hB
  clear hB
  obtain ⟨i0, i1, i2, i3, i4, i5, i6, i7⟩ := hI
  have c1 := hS.reg rd (by omega)
  have fz := hS.open
  have hA0 : StateAt W w.heap.size s := hS
  have hA : ∀ x, StateAt (W.setCell ⟨w.heap.size, rd, none⟩ (.int .i64 x)) w.heap.size (Cs.put s rd x) := fun x => hS.set rd _ (Cs.cells_put s rd x (by omega))
  have hR0 : StateAt W (w.heap.size + 1 + 1) Cs.none := hR
  have hR1 : ∀ x, StateAt (W.setCell ⟨w.heap.size, rd, none⟩ (.int .i64 x)) (w.heap.size + 1 + 1) Cs.none := fun x => hR.other _ _ (by show w.heap.size + 1 + 1 ≠ w.heap.size; omega)
  clear hS hR
  go_wp2_with fail
  clear hA hR1
  go_still_tail 17, (by kernel_rfl)
  still_call (still (shl_any _ _ _))
  repeat still_step
  still_call (still (shl_any _ _ _))
  repeat still_step
  still_call (still (select_any _ _ _ _))
  repeat still_step
  try refine wpStill_nil ?_
  change wpList _ _ _ _ _ W.drew
  have hS : StateAt W.drew w.heap.size s := hA0
  have hR : StateAt W.drew (w.heap.size + 1 + 1) Cs.none := hR0
  have HB2 : Hid (Below w.heap.size w W.drew) := Lib.hid HB.out.drew
  clear i0 i1 i2 i3 i4 i5 i6 i7 c1 fz hA0 hR0 HB
  have HB := HB2
  clear HB2
  generalize W.drew = V at *
  have c1 := hS.reg rd (by omega)
  have fz := hS.open
  have hA0 : StateAt V w.heap.size s := hS
  have hA : ∀ x, StateAt (V.setCell ⟨w.heap.size, rd, none⟩ (.int .i64 x)) w.heap.size (Cs.put s rd x) := fun x => hS.set rd _ (Cs.cells_put s rd x (by omega))
  have hR0 : StateAt V (w.heap.size + 1 + 1) Cs.none := hR
  have hR1 : ∀ x, StateAt (V.setCell ⟨w.heap.size, rd, none⟩ (.int .i64 x)) (w.heap.size + 1 + 1) Cs.none := fun x => hR.other _ _ (by show w.heap.size + 1 + 1 ≠ w.heap.size; omega)
  clear hS hR
  go_wp2_with (first | ((with_reducible refine wpList_load_st (hA _) ?_ ?_); exact rfl) | ((with_reducible apply wpList_store_st (hR1 _)); exact rfl))
  try simp only [Exit.inBlock, Exit.then]
  refine bp_state rfl rfl ((hR1 _).setRow _) rfl ⟨by rw [pow_ones k (by omega)]; rfl, below_setRow (HB.out.setCell (Nat.le_refl _) _) (by omega) _⟩

end Go.Proofs.Ytennhpfhgbmnfaa
