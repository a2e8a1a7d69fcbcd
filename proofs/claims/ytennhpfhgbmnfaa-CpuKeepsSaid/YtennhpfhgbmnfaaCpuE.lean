/-
  What the document's Step returns: what package cpu's does.
-/
import Derived.Test.YtennhpfhgbmnfaaCpuD
import Derived.Test.YtennhpfhgbmnfaaCpuT
namespace Go.Proofs.Ytennhpfhgbmnfaa
open Go.ChangeShapes Go.WideShapes Go.ChangeAt Go.RowKit
set_option linter.unusedVariables false
set_option linter.unusedSimpArgs false

theorem value_any (op rd rn rm ra imm cond d n m l : Int) (wide : Bool) (w : World) (h0 : Th.check ⟨op, rd, rn, rm, ra, imm, cond, wide⟩ = 0) (d0 : 0 ≤ d) (d1 : d < 4294967296) :
    Calls Try.prog 34 #[.agg #[.int .i64 op, .int .i64 rd, .int .i64 rn, .int .i64 rm, .int .i64 ra, .int .i64 imm, .int .i64 cond, .bool wide], .int .i64 d, .int .i64 n, .int .i64 m, .int .i64 l] w fun e w' => e = .returned (.int .i64 (Cs.value op ra imm d n m l)) ∧ Below w.heap.size w w' := by
  by_cases h4 : op = 4
  · subst h4
    have := Cs.in_4 h0
    exact value_4 _ _ _ _ _ _ _ _ _ _ _ _ d0 d1 this.1 this.2
  by_cases h18 : op = 18
  · subst h18
    obtain ⟨a0, a1, a2⟩ := Cs.in_18 h0
    obtain ⟨k, rfl⟩ := Int.eq_ofNat_of_zero_le (show 0 ≤ ra by omega)
    obtain ⟨a, rfl⟩ := Int.eq_ofNat_of_zero_le a1
    exact value_18 _ _ _ _ _ _ _ _ a k _ _ d0 d1 (by omega) (by omega)
  exact value_o _ _ _ _ _ _ _ _ _ _ _ _ _ (by simpa using h4) (by simpa using h18)

/-- besides, the state that is made, in a block of its own -/
structure Cpu4 (w : World) (n : Nat) (W : World) (s : Cs.St) (bt : Nat) (t : Cs.St) (op rd rn rm ra imm cond : Int) (wide : Bool) : Prop where
  c3 : Cpu3 w n W s op rd rn rm ra imm cond wide
  t : StateAt W bt t
  ge : n + 1 + 1 < bt
section
variable {w W W' : World} {n bt : Nat} {s t : Cs.St} {op rd rn rm ra imm cond : Int} {wide : Bool}
theorem Cpu4.kept (h : Cpu4 w n W s bt t op rd rn rm ra imm cond wide) (hb : Below W.heap.size W W') : Cpu4 w n W' s bt t op rd rn rm ra imm cond wide := ⟨h.c3.kept hb, h.t.below hb, h.ge⟩
theorem Cpu4.drew (h : Cpu4 w n W s bt t op rd rn rm ra imm cond wide) : Cpu4 w n W.drew s bt t op rd rn rm ra imm cond wide := h.kept (Below.refl _ _).drew
theorem Cpu4.drewN (h : Cpu4 w n W s bt t op rd rn rm ra imm cond wide) (k : Nat) : Cpu4 w n (W.drewN k) s bt t op rd rn rm ra imm cond wide := h.kept (below_drewC (Below.refl _ _) _)
theorem Cpu4.put (h : Cpu4 w n W s bt t op rd rn rm ra imm cond wide) (k : Nat) (v : Value) (t' : Cs.St) (hc : (Cs.cells t).setIfInBounds k v = Cs.cells t') : Cpu4 w n (W.setCell ⟨bt, k, none⟩ v) s bt t' op rd rn rm ra imm cond wide := by
  have g := h.ge
  exact ⟨⟨h.c3.st.other _ _ (by show n ≠ bt; omega), h.c3.ins.set _ _ (by show n + 1 ≠ bt; omega), h.c3.res.other _ _ (by show n + 1 + 1 ≠ bt; omega), h.c3.bel.setCell (by show n ≤ bt; omega) _⟩, h.t.set k v hc, h.ge⟩
theorem Cpu4.pc (h : Cpu4 w n W s bt t op rd rn rm ra imm cond wide) (x : Int) : Cpu4 w n (W.setCell ⟨bt, 15, none⟩ (.int .i64 x)) s bt { t with pc := x } op rd rn rm ra imm cond wide := h.put 15 _ _ (Cs.cells_spc t x)
theorem Cpu4.reg (h : Cpu4 w n W s bt t op rd rn rm ra imm cond wide) (k : Nat) (hk : k < 15) (x : Int) : Cpu4 w n (W.setCell ⟨bt, k, none⟩ (.int .i64 x)) s bt (Cs.put t k x) op rd rn rm ra imm cond wide := h.put k _ _ (Cs.cells_put t k x hk)
theorem Cpu4.new (h : Cpu3 w n W s op rd rn rm ra imm cond wide) (t : Cs.St) : Cpu4 w n (W.alloc (.cells (Cs.cells t) 24)) s W.heap.size t op rd rn rm ra imm cond wide :=
  ⟨h.kept ((Below.refl _ _).alloc (Nat.le_refl _) _), state_alloc W t, h.res.lt⟩
theorem Cpu4.end (h : Cpu4 w n W s bt t op rd rn rm ra imm cond wide) (u : Cs.St) : Below n w (W.setRow (n + 1 + 1) (Cs.cells u)) := h.c3.end u
end
theorem state_alloc_zero (W : World) : StateAt (W.alloc (.cells Cs.zero 24)) W.heap.size Cs.none := state_alloc W Cs.none

set_option maxHeartbeats 8000000 in
set_option maxRecDepth 10000 in
theorem rstep_a (s : Cs.St) (op rd rn rm ra imm cond l : Int) (wide : Bool) (w : World) (hz : (Th.check ⟨op, rd, rn, rm, ra, imm, cond, wide⟩ != 0) = true) (hz2 : (Th.size ⟨op, rd, rn, rm, ra, imm, cond, wide⟩ == 0) = true) :
    Calls Try.prog 10 #[.agg (Cs.cells s), .agg #[.int .i64 op, .int .i64 rd, .int .i64 rn, .int .i64 rm, .int .i64 ra, .int .i64 imm, .int .i64 cond, .bool wide], .int .i64 l] w fun e w' => e = .returned (.tuple #[.agg (Cs.cells (Cs.stepS s ⟨op, rd, rn, rm, ra, imm, cond, wide⟩ l)), .bool (Cs.stepB ⟨op, rd, rn, rm, ra, imm, cond, wide⟩)]) ∧ Below w.heap.size w w' := by
  have H := Lib.hid (Cpu3.new w s op rd rn rm ra imm cond wide)
  go_enter Try.func10, Try.ntmps10
  go_wp2_with (first | (go_at_call 26; refine (rwords_any _ _).mono ?_; rintro e w1 ⟨rfl, hb⟩; replace H := Lib.hid (H.out.kept hb); (try clear i0 i1 i2 i3 i4 i5 i6 i7 ipc fz); obtain ⟨i0, i1, i2, i3, i4, i5, i6, i7⟩ := H.out.ins; have ipc := H.out.st.pc; have fz := H.out.st.open; clear hb) | (go_at_call 27; refine (rcheck_any _ _ _ _ _ _ _ _ _).mono ?_; rintro e w1 ⟨rfl, hb⟩; replace H := Lib.hid (H.out.kept hb); (try clear i0 i1 i2 i3 i4 i5 i6 i7 ipc fz); obtain ⟨i0, i1, i2, i3, i4, i5, i6, i7⟩ := H.out.ins; have ipc := H.out.st.pc; have fz := H.out.st.open; clear hb) | ((with_reducible refine wpList_load_st H.out.st ?_ ?_); exact rfl) | ((with_reducible refine wpList_store_st H.out.st (Cs.words s) ?_ ?_); exact rfl; replace H := Lib.hid (H.out.row (Cs.words s)); (try clear i0 i1 i2 i3 i4 i5 i6 i7 ipc fz); generalize World.setRow _ w.heap.size _ = V at *; obtain ⟨i0, i1, i2, i3, i4, i5, i6, i7⟩ := H.out.ins; have ipc := H.out.st.pc; have fz := H.out.st.open) | ((with_reducible apply wpList_store_st H.out.res); exact rfl))
  try simp only [Exit.inBlock, Exit.then]
  refine bp_state2 rfl rfl ((H.out).res.setRow _) rfl ⟨?_, (H.out).end _⟩
  rw [show Cs.stepS s ⟨op, rd, rn, rm, ra, imm, cond, wide⟩ l = Cs.words s by simp only [Cs.stepS, hz2, Bool.true_or, if_true], show Cs.stepB ⟨op, rd, rn, rm, ra, imm, cond, wide⟩ = false by simp [Cs.stepB, hz2]]
  rfl
set_option maxHeartbeats 8000000 in
set_option maxRecDepth 10000 in
theorem rstep_b (s : Cs.St) (op rd rn rm ra imm cond l : Int) (wide : Bool) (w : World) (hz : (Th.check ⟨op, rd, rn, rm, ra, imm, cond, wide⟩ != 0) = false) (hz2 : (Th.size ⟨op, rd, rn, rm, ra, imm, cond, wide⟩ == 0) = false) (h2 : (op == 2) = true) :
    Calls Try.prog 10 #[.agg (Cs.cells s), .agg #[.int .i64 op, .int .i64 rd, .int .i64 rn, .int .i64 rm, .int .i64 ra, .int .i64 imm, .int .i64 cond, .bool wide], .int .i64 l] w fun e w' => e = .returned (.tuple #[.agg (Cs.cells (Cs.stepS s ⟨op, rd, rn, rm, ra, imm, cond, wide⟩ l)), .bool (Cs.stepB ⟨op, rd, rn, rm, ra, imm, cond, wide⟩)]) ∧ Below w.heap.size w w' := by
  have H := Lib.hid (Cpu3.new w s op rd rn rm ra imm cond wide)
  go_enter Try.func10, Try.ntmps10
  go_wp2_with (first | (go_at_call 26; refine (rwords_any _ _).mono ?_; rintro e w1 ⟨rfl, hb⟩; replace H := Lib.hid (H.out.kept hb); (try clear i0 i1 i2 i3 i4 i5 i6 i7 ipc fz); obtain ⟨i0, i1, i2, i3, i4, i5, i6, i7⟩ := H.out.ins; have ipc := H.out.st.pc; have fz := H.out.st.open; clear hb) | (go_at_call 27; refine (rcheck_any _ _ _ _ _ _ _ _ _).mono ?_; rintro e w1 ⟨rfl, hb⟩; replace H := Lib.hid (H.out.kept hb); (try clear i0 i1 i2 i3 i4 i5 i6 i7 ipc fz); obtain ⟨i0, i1, i2, i3, i4, i5, i6, i7⟩ := H.out.ins; have ipc := H.out.st.pc; have fz := H.out.st.open; clear hb) | ((with_reducible refine wpList_load_st H.out.st ?_ ?_); exact rfl) | ((with_reducible refine wpList_store_st H.out.st (Cs.words s) ?_ ?_); exact rfl; replace H := Lib.hid (H.out.row (Cs.words s)); (try clear i0 i1 i2 i3 i4 i5 i6 i7 ipc fz); generalize World.setRow _ w.heap.size _ = V at *; obtain ⟨i0, i1, i2, i3, i4, i5, i6, i7⟩ := H.out.ins; have ipc := H.out.st.pc; have fz := H.out.st.open) | ((with_reducible apply wpList_store_st H.out.res); exact rfl))
  try simp only [Exit.inBlock, Exit.then]
  refine bp_state2 rfl rfl ((H.out).res.setRow _) rfl ⟨?_, (H.out).end _⟩
  rw [show Cs.stepS s ⟨op, rd, rn, rm, ra, imm, cond, wide⟩ l = Cs.words s by simp only [Cs.stepS, h2, Bool.or_true, if_true], show Cs.stepB ⟨op, rd, rn, rm, ra, imm, cond, wide⟩ = false by simp [Cs.stepB, h2]]
  rfl
set_option maxHeartbeats 8000000 in
set_option maxRecDepth 10000 in
theorem rstep_c24 (s : Cs.St) (rd rn rm : Nat) (ra imm cond l : Int) (wide : Bool) (w : World) (hd : rd < 13) (hn : rn < 13) (hm : rm < 13) (hz : (Th.check ⟨24, (rd : Int), (rn : Int), (rm : Int), ra, imm, cond, wide⟩ != 0) = false) (hz2 : (Th.size ⟨24, (rd : Int), (rn : Int), (rm : Int), ra, imm, cond, wide⟩ == 0) = false) (ht : Cs.taken (Cs.words s) 24 cond = true) :
    Calls Try.prog 10 #[.agg (Cs.cells s), .agg #[.int .i64 24, .int .i64 (rd : Int), .int .i64 (rn : Int), .int .i64 (rm : Int), .int .i64 ra, .int .i64 imm, .int .i64 cond, .bool wide], .int .i64 l] w fun e w' => e = .returned (.tuple #[.agg (Cs.cells (Cs.stepS s ⟨24, (rd : Int), (rn : Int), (rm : Int), ra, imm, cond, wide⟩ l)), .bool (Cs.stepB ⟨24, (rd : Int), (rn : Int), (rm : Int), ra, imm, cond, wide⟩)]) ∧ Below w.heap.size w w' := by
  have bd : (rd : Int) < 15 := by omega
  have bn : (rn : Int) < 15 := by omega
  have bm : (rm : Int) < 15 := by omega
  have bd0 : (0 : Int) ≤ (rd : Int) := by omega
  have bn0 : (0 : Int) ≤ (rn : Int) := by omega
  have bm0 : (0 : Int) ≤ (rm : Int) := by omega
  have H := Lib.hid (Cpu3.new w s 24 (rd : Int) (rn : Int) (rm : Int) ra imm cond wide)
  go_enter Try.func10, Try.ntmps10
  go_wp2_with (first | (go_at_call 26; refine (rwords_any _ _).mono ?_; rintro e w1 ⟨rfl, hb⟩; replace H := Lib.hid (H.out.kept hb); (try clear i0 i1 i2 i3 i4 i5 i6 i7 ipc fz); obtain ⟨i0, i1, i2, i3, i4, i5, i6, i7⟩ := H.out.ins; have ipc := H.out.st.pc; have fz := H.out.st.open; clear hb) | (go_at_call 27; refine (rcheck_any _ _ _ _ _ _ _ _ _).mono ?_; rintro e w1 ⟨rfl, hb⟩; replace H := Lib.hid (H.out.kept hb); (try clear i0 i1 i2 i3 i4 i5 i6 i7 ipc fz); obtain ⟨i0, i1, i2, i3, i4, i5, i6, i7⟩ := H.out.ins; have ipc := H.out.st.pc; have fz := H.out.st.open; clear hb) | ((with_reducible refine wpList_load_st H.out.st ?_ ?_); exact rfl) | ((with_reducible refine wpList_store_st H.out.st (Cs.words s) ?_ ?_); exact rfl; replace H := Lib.hid (H.out.row (Cs.words s)); (try clear i0 i1 i2 i3 i4 i5 i6 i7 ipc fz); generalize World.setRow _ w.heap.size _ = V at *; obtain ⟨i0, i1, i2, i3, i4, i5, i6, i7⟩ := H.out.ins; have ipc := H.out.st.pc; have fz := H.out.st.open) | ((with_reducible apply wpList_store_st (state_alloc_zero _)); exact rfl; rw [World.setRow_alloc_new]))
  clear i0 i1 i2 i3 i4 i5 i6 i7 ipc fz
  replace H := Lib.hid (Cpu4.new H.out (Cs.words s))
  generalize w1.alloc (.cells (Cs.cells (Cs.words s)) 24) = W at *
  generalize w1.heap.size = bt at *
  replace H := Lib.hid H.out.drew
  refine wp_region_held_drew (S := fun wx => wx.cell? ⟨w.heap.size, 15, none⟩ = some (.int .i64 (Cs.words s).pc) ∧ InsAt wx (w.heap.size + 1) 24 (rd : Int) (rn : Int) (rm : Int) ra imm cond wide) (by kernel_rfl) (⟨H.out.c3.st.pc, H.out.c3.ins⟩) (fun hHeld => ?_)
  refine wpAnyH_take (i := 0) (v := ?_) rfl (by kernel_rfl) (by kernel_rfl) (by kernel_rfl) (fun _ _ _ h => h) (Or.inl ⟨by rfl, ?_⟩) (by assumption) ?_
  rotate_left
  · intro w hSw
    (try dsimp only at hSw)
    go_simp
    (try with_reducible rfl)
  (try simp only [Act.put, List.setIfInBounds_toArray, List.set_cons_zero, List.set_cons_succ])
  refine wpAnyH_take (i := 1) (v := ?_) rfl (by kernel_rfl) (by kernel_rfl) (by kernel_rfl) (fun _ _ _ h => h) (Or.inl ⟨by rfl, ?_⟩) (by assumption) ?_
  rotate_left
  · intro w hSw
    (try dsimp only at hSw)
    go_simp
    (try with_reducible rfl)
  (try simp only [Act.put, List.setIfInBounds_toArray, List.set_cons_zero, List.set_cons_succ])
  refine wpAnyH_take (i := 2) (v := ?_) rfl (by kernel_rfl) (by kernel_rfl) (by kernel_rfl) (fun _ _ _ h => h) (Or.inl ⟨by rfl, ?_⟩) (by assumption) ?_
  rotate_left
  · intro w hSw
    (try dsimp only at hSw)
    go_simp
    (try with_reducible rfl)
  (try simp only [Act.put, List.setIfInBounds_toArray, List.set_cons_zero, List.set_cons_succ])
  refine wpAnyH_ready (rs := [3]) (by kernel_rfl) (by simp) ?_
  refine AllReadyH.cons rfl (fun K hK => ?_) AllReadyH.nil
  go_simp
  (go_at_call 29; refine (rsize_any _ _ _ _ _ _ _ _ _).mono ?_; rintro e w2 ⟨rfl, hb⟩; replace H := Lib.hid (H.out.kept hb); have tpc := H.out.t.pc; have tfz := H.out.t.open; clear hb)
  refine hK.out _ _ (by first | exact ⟨H.out.c3.st.pc, H.out.c3.ins⟩ | exact ⟨(H.out.pc _).c3.st.pc, (H.out.pc _).c3.ins⟩) (fun hHeld => ?_)
  clear hK K
  (try simp only [Act.put, List.setIfInBounds_toArray, List.set_cons_zero, List.set_cons_succ])
  refine wpAnyH_take (i := 4) (v := ?_) rfl (by kernel_rfl) (by kernel_rfl) (by kernel_rfl) (fun _ _ _ h => h) (Or.inl ⟨by rfl, ?_⟩) (by assumption) ?_
  rotate_left
  · intro w hSw
    (try dsimp only at hSw)
    go_simp
    (try with_reducible rfl)
  (try simp only [Act.put, List.setIfInBounds_toArray, List.set_cons_zero, List.set_cons_succ])
  refine wpAnyH_ready (rs := [5]) (by kernel_rfl) (by simp) ?_
  refine AllReadyH.cons rfl (fun K hK => ?_) AllReadyH.nil
  go_simp
  (go_at_call 28; refine (rwrap_any _ _).mono ?_; rintro e w' ⟨rfl, rfl⟩)
  refine hK.out _ _ (by first | exact ⟨H.out.c3.st.pc, H.out.c3.ins⟩ | exact ⟨(H.out.pc _).c3.st.pc, (H.out.pc _).c3.ins⟩) (fun hHeld => ?_)
  clear hK K
  (try simp only [Act.put, List.setIfInBounds_toArray, List.set_cons_zero, List.set_cons_succ])
  refine wpAnyH_take (i := 6) (v := ?_) rfl (by kernel_rfl) (by kernel_rfl) (by kernel_rfl) (fun _ _ _ h => h) (Or.inl ⟨by rfl, ?_⟩) (by assumption) ?_
  rotate_left
  · intro w hSw
    (try dsimp only at hSw)
    go_simp
    (try with_reducible rfl)
  (try simp only [Act.put, List.setIfInBounds_toArray, List.set_cons_zero, List.set_cons_succ])
  refine wpAnyH_ready (rs := [7]) (by kernel_rfl) (by simp) ?_
  refine AllReadyH.cons rfl (fun K hK => ?_) AllReadyH.nil
  go_simp
  skip
  refine hK.out _ _ (by first | exact ⟨H.out.c3.st.pc, H.out.c3.ins⟩ | exact ⟨(H.out.pc _).c3.st.pc, (H.out.pc _).c3.ins⟩) (fun hHeld => ?_)
  clear hK K
  (try simp only [Act.put, List.setIfInBounds_toArray, List.set_cons_zero, List.set_cons_succ])
  refine wpAnyH_done (by kernel_rfl) ?_ _
  replace H := Lib.hid (H.out.pc (Wd.wrap (IntKind.i64.wrap ((Cs.words s).pc + Th.size ⟨24, (rd : Int), (rn : Int), (rm : Int), ra, imm, cond, wide⟩))))
  clear tpc tfz
  generalize hp5 : Wd.wrap (IntKind.i64.wrap ((Cs.words s).pc + Th.size ⟨24, (rd : Int), (rn : Int), (rm : Int), ra, imm, cond, wide⟩)) = p5 at *
  have HP := Lib.hid hp5
  clear hp5
  generalize World.setCell w2 _ _ = V at *
  obtain ⟨i0, i1, i2, i3, i4, i5, i6, i7⟩ := H.out.c3.ins
  have ipc := H.out.c3.st.pc
  have tpc := H.out.t.pc
  have tfz := H.out.t.open
  go_wp2_with (first | (go_at_call 30; refine (rtaken_any _ _ _ _ _ _ _ _ _ _).mono ?_; rintro e w3 ⟨rfl, hb⟩; replace H := Lib.hid (H.out.kept hb); clear i0 i1 i2 i3 i4 i5 i6 i7 ipc tpc tfz; obtain ⟨i0, i1, i2, i3, i4, i5, i6, i7⟩ := H.out.c3.ins; have ipc := H.out.c3.st.pc; have tpc := H.out.t.pc; have tfz := H.out.t.open; clear hb) | ((with_reducible refine wpList_load_st H.out.c3.st ?_ ?_); exact rfl) | (go_at_call 28; refine (rwrap_any _ _).mono ?_; rintro e w' ⟨rfl, rfl⟩))
  replace H := Lib.hid (H.out.pc (Wd.wrap (wrap64 (wrap64 ((Cs.words s).pc + 4) + imm))))
  clear i0 i1 i2 i3 i4 i5 i6 i7 ipc tpc tfz
  generalize hp7 : Wd.wrap (wrap64 (wrap64 ((Cs.words s).pc + 4) + imm)) = p7 at *
  have HP7 := Lib.hid hp7
  clear hp7
  generalize World.setCell w3 _ _ = V3 at *
  obtain ⟨i0, i1, i2, i3, i4, i5, i6, i7⟩ := H.out.c3.ins
  have sn := H.out.c3.st.reg rn (by omega)
  have sm := H.out.c3.st.reg rm (by omega)
  go_quiet (fail)
  replace H := Lib.hid (H.out.drewN nq)
  clear i0 i1 i2 i3 i4 i5 i6 i7 sn sm
  generalize World.drewN _ nq = U at *
  obtain ⟨i0, i1, i2, i3, i4, i5, i6, i7⟩ := H.out.c3.ins
  go_wp2_with (first | ((with_reducible refine wpList_load_st H.out.t ?_ ?_); exact rfl) | ((with_reducible apply wpList_store_st H.out.c3.res); exact rfl))
  all_goals
    try simp only [Exit.inBlock, Exit.then]
    refine bp_state2 rfl rfl ((H.out).c3.res.setRow _) rfl ⟨?_, (H.out).end _⟩
    rw [show Cs.stepS s ⟨24, (rd : Int), (rn : Int), (rm : Int), ra, imm, cond, wide⟩ l = { Cs.words s with pc := p7 } by simp only [Cs.stepS, hz2, Bool.false_or]; rw [if_neg (by decide), if_pos (by rw [← Cs.taken_words]; exact ht), ← HP7.out, Cs.wrap_4]; rfl, show Cs.stepB ⟨24, (rd : Int), (rn : Int), (rm : Int), ra, imm, cond, wide⟩ = true by simp [Cs.stepB, hz2]]
    rfl
set_option maxHeartbeats 8000000 in
set_option maxRecDepth 10000 in
theorem rstep_c25 (s : Cs.St) (rd rn rm : Nat) (ra imm cond l : Int) (wide : Bool) (w : World) (hd : rd < 13) (hn : rn < 13) (hm : rm < 13) (hz : (Th.check ⟨25, (rd : Int), (rn : Int), (rm : Int), ra, imm, cond, wide⟩ != 0) = false) (hz2 : (Th.size ⟨25, (rd : Int), (rn : Int), (rm : Int), ra, imm, cond, wide⟩ == 0) = false) (ht : Cs.taken (Cs.words s) 25 cond = true) :
    Calls Try.prog 10 #[.agg (Cs.cells s), .agg #[.int .i64 25, .int .i64 (rd : Int), .int .i64 (rn : Int), .int .i64 (rm : Int), .int .i64 ra, .int .i64 imm, .int .i64 cond, .bool wide], .int .i64 l] w fun e w' => e = .returned (.tuple #[.agg (Cs.cells (Cs.stepS s ⟨25, (rd : Int), (rn : Int), (rm : Int), ra, imm, cond, wide⟩ l)), .bool (Cs.stepB ⟨25, (rd : Int), (rn : Int), (rm : Int), ra, imm, cond, wide⟩)]) ∧ Below w.heap.size w w' := by
  have bd : (rd : Int) < 15 := by omega
  have bn : (rn : Int) < 15 := by omega
  have bm : (rm : Int) < 15 := by omega
  have bd0 : (0 : Int) ≤ (rd : Int) := by omega
  have bn0 : (0 : Int) ≤ (rn : Int) := by omega
  have bm0 : (0 : Int) ≤ (rm : Int) := by omega
  have H := Lib.hid (Cpu3.new w s 25 (rd : Int) (rn : Int) (rm : Int) ra imm cond wide)
  go_enter Try.func10, Try.ntmps10
  go_wp2_with (first | (go_at_call 26; refine (rwords_any _ _).mono ?_; rintro e w1 ⟨rfl, hb⟩; replace H := Lib.hid (H.out.kept hb); (try clear i0 i1 i2 i3 i4 i5 i6 i7 ipc fz); obtain ⟨i0, i1, i2, i3, i4, i5, i6, i7⟩ := H.out.ins; have ipc := H.out.st.pc; have fz := H.out.st.open; clear hb) | (go_at_call 27; refine (rcheck_any _ _ _ _ _ _ _ _ _).mono ?_; rintro e w1 ⟨rfl, hb⟩; replace H := Lib.hid (H.out.kept hb); (try clear i0 i1 i2 i3 i4 i5 i6 i7 ipc fz); obtain ⟨i0, i1, i2, i3, i4, i5, i6, i7⟩ := H.out.ins; have ipc := H.out.st.pc; have fz := H.out.st.open; clear hb) | ((with_reducible refine wpList_load_st H.out.st ?_ ?_); exact rfl) | ((with_reducible refine wpList_store_st H.out.st (Cs.words s) ?_ ?_); exact rfl; replace H := Lib.hid (H.out.row (Cs.words s)); (try clear i0 i1 i2 i3 i4 i5 i6 i7 ipc fz); generalize World.setRow _ w.heap.size _ = V at *; obtain ⟨i0, i1, i2, i3, i4, i5, i6, i7⟩ := H.out.ins; have ipc := H.out.st.pc; have fz := H.out.st.open) | ((with_reducible apply wpList_store_st (state_alloc_zero _)); exact rfl; rw [World.setRow_alloc_new]))
  clear i0 i1 i2 i3 i4 i5 i6 i7 ipc fz
  replace H := Lib.hid (Cpu4.new H.out (Cs.words s))
  generalize w1.alloc (.cells (Cs.cells (Cs.words s)) 24) = W at *
  generalize w1.heap.size = bt at *
  replace H := Lib.hid H.out.drew
  refine wp_region_held_drew (S := fun wx => wx.cell? ⟨w.heap.size, 15, none⟩ = some (.int .i64 (Cs.words s).pc) ∧ InsAt wx (w.heap.size + 1) 25 (rd : Int) (rn : Int) (rm : Int) ra imm cond wide) (by kernel_rfl) (⟨H.out.c3.st.pc, H.out.c3.ins⟩) (fun hHeld => ?_)
  refine wpAnyH_take (i := 0) (v := ?_) rfl (by kernel_rfl) (by kernel_rfl) (by kernel_rfl) (fun _ _ _ h => h) (Or.inl ⟨by rfl, ?_⟩) (by assumption) ?_
  rotate_left
  · intro w hSw
    (try dsimp only at hSw)
    go_simp
    (try with_reducible rfl)
  (try simp only [Act.put, List.setIfInBounds_toArray, List.set_cons_zero, List.set_cons_succ])
  refine wpAnyH_take (i := 1) (v := ?_) rfl (by kernel_rfl) (by kernel_rfl) (by kernel_rfl) (fun _ _ _ h => h) (Or.inl ⟨by rfl, ?_⟩) (by assumption) ?_
  rotate_left
  · intro w hSw
    (try dsimp only at hSw)
    go_simp
    (try with_reducible rfl)
  (try simp only [Act.put, List.setIfInBounds_toArray, List.set_cons_zero, List.set_cons_succ])
  refine wpAnyH_take (i := 2) (v := ?_) rfl (by kernel_rfl) (by kernel_rfl) (by kernel_rfl) (fun _ _ _ h => h) (Or.inl ⟨by rfl, ?_⟩) (by assumption) ?_
  rotate_left
  · intro w hSw
    (try dsimp only at hSw)
    go_simp
    (try with_reducible rfl)
  (try simp only [Act.put, List.setIfInBounds_toArray, List.set_cons_zero, List.set_cons_succ])
  refine wpAnyH_ready (rs := [3]) (by kernel_rfl) (by simp) ?_
  refine AllReadyH.cons rfl (fun K hK => ?_) AllReadyH.nil
  go_simp
  (go_at_call 29; refine (rsize_any _ _ _ _ _ _ _ _ _).mono ?_; rintro e w2 ⟨rfl, hb⟩; replace H := Lib.hid (H.out.kept hb); have tpc := H.out.t.pc; have tfz := H.out.t.open; clear hb)
  refine hK.out _ _ (by first | exact ⟨H.out.c3.st.pc, H.out.c3.ins⟩ | exact ⟨(H.out.pc _).c3.st.pc, (H.out.pc _).c3.ins⟩) (fun hHeld => ?_)
  clear hK K
  (try simp only [Act.put, List.setIfInBounds_toArray, List.set_cons_zero, List.set_cons_succ])
  refine wpAnyH_take (i := 4) (v := ?_) rfl (by kernel_rfl) (by kernel_rfl) (by kernel_rfl) (fun _ _ _ h => h) (Or.inl ⟨by rfl, ?_⟩) (by assumption) ?_
  rotate_left
  · intro w hSw
    (try dsimp only at hSw)
    go_simp
    (try with_reducible rfl)
  (try simp only [Act.put, List.setIfInBounds_toArray, List.set_cons_zero, List.set_cons_succ])
  refine wpAnyH_ready (rs := [5]) (by kernel_rfl) (by simp) ?_
  refine AllReadyH.cons rfl (fun K hK => ?_) AllReadyH.nil
  go_simp
  (go_at_call 28; refine (rwrap_any _ _).mono ?_; rintro e w' ⟨rfl, rfl⟩)
  refine hK.out _ _ (by first | exact ⟨H.out.c3.st.pc, H.out.c3.ins⟩ | exact ⟨(H.out.pc _).c3.st.pc, (H.out.pc _).c3.ins⟩) (fun hHeld => ?_)
  clear hK K
  (try simp only [Act.put, List.setIfInBounds_toArray, List.set_cons_zero, List.set_cons_succ])
  refine wpAnyH_take (i := 6) (v := ?_) rfl (by kernel_rfl) (by kernel_rfl) (by kernel_rfl) (fun _ _ _ h => h) (Or.inl ⟨by rfl, ?_⟩) (by assumption) ?_
  rotate_left
  · intro w hSw
    (try dsimp only at hSw)
    go_simp
    (try with_reducible rfl)
  (try simp only [Act.put, List.setIfInBounds_toArray, List.set_cons_zero, List.set_cons_succ])
  refine wpAnyH_ready (rs := [7]) (by kernel_rfl) (by simp) ?_
  refine AllReadyH.cons rfl (fun K hK => ?_) AllReadyH.nil
  go_simp
  skip
  refine hK.out _ _ (by first | exact ⟨H.out.c3.st.pc, H.out.c3.ins⟩ | exact ⟨(H.out.pc _).c3.st.pc, (H.out.pc _).c3.ins⟩) (fun hHeld => ?_)
  clear hK K
  (try simp only [Act.put, List.setIfInBounds_toArray, List.set_cons_zero, List.set_cons_succ])
  refine wpAnyH_done (by kernel_rfl) ?_ _
  replace H := Lib.hid (H.out.pc (Wd.wrap (IntKind.i64.wrap ((Cs.words s).pc + Th.size ⟨25, (rd : Int), (rn : Int), (rm : Int), ra, imm, cond, wide⟩))))
  clear tpc tfz
  generalize hp5 : Wd.wrap (IntKind.i64.wrap ((Cs.words s).pc + Th.size ⟨25, (rd : Int), (rn : Int), (rm : Int), ra, imm, cond, wide⟩)) = p5 at *
  have HP := Lib.hid hp5
  clear hp5
  generalize World.setCell w2 _ _ = V at *
  obtain ⟨i0, i1, i2, i3, i4, i5, i6, i7⟩ := H.out.c3.ins
  have ipc := H.out.c3.st.pc
  have tpc := H.out.t.pc
  have tfz := H.out.t.open
  go_wp2_with (first | (go_at_call 30; refine (rtaken_any _ _ _ _ _ _ _ _ _ _).mono ?_; rintro e w3 ⟨rfl, hb⟩; replace H := Lib.hid (H.out.kept hb); clear i0 i1 i2 i3 i4 i5 i6 i7 ipc tpc tfz; obtain ⟨i0, i1, i2, i3, i4, i5, i6, i7⟩ := H.out.c3.ins; have ipc := H.out.c3.st.pc; have tpc := H.out.t.pc; have tfz := H.out.t.open; clear hb) | ((with_reducible refine wpList_load_st H.out.c3.st ?_ ?_); exact rfl) | (go_at_call 28; refine (rwrap_any _ _).mono ?_; rintro e w' ⟨rfl, rfl⟩))
  replace H := Lib.hid (H.out.pc (Wd.wrap (wrap64 (wrap64 ((Cs.words s).pc + 4) + imm))))
  clear i0 i1 i2 i3 i4 i5 i6 i7 ipc tpc tfz
  generalize hp7 : Wd.wrap (wrap64 (wrap64 ((Cs.words s).pc + 4) + imm)) = p7 at *
  have HP7 := Lib.hid hp7
  clear hp7
  generalize World.setCell w3 _ _ = V3 at *
  obtain ⟨i0, i1, i2, i3, i4, i5, i6, i7⟩ := H.out.c3.ins
  have sn := H.out.c3.st.reg rn (by omega)
  have sm := H.out.c3.st.reg rm (by omega)
  go_quiet (fail)
  replace H := Lib.hid (H.out.drewN nq)
  clear i0 i1 i2 i3 i4 i5 i6 i7 sn sm
  generalize World.drewN _ nq = U at *
  obtain ⟨i0, i1, i2, i3, i4, i5, i6, i7⟩ := H.out.c3.ins
  go_wp2_with (first | ((with_reducible refine wpList_load_st H.out.t ?_ ?_); exact rfl) | ((with_reducible apply wpList_store_st H.out.c3.res); exact rfl))
  all_goals
    try simp only [Exit.inBlock, Exit.then]
    refine bp_state2 rfl rfl ((H.out).c3.res.setRow _) rfl ⟨?_, (H.out).end _⟩
    rw [show Cs.stepS s ⟨25, (rd : Int), (rn : Int), (rm : Int), ra, imm, cond, wide⟩ l = { Cs.words s with pc := p7 } by simp only [Cs.stepS, hz2, Bool.false_or]; rw [if_neg (by decide), if_pos (by rw [← Cs.taken_words]; exact ht), ← HP7.out, Cs.wrap_4]; rfl, show Cs.stepB ⟨25, (rd : Int), (rn : Int), (rm : Int), ra, imm, cond, wide⟩ = true by simp [Cs.stepB, hz2]]
    rfl
set_option maxHeartbeats 8000000 in
set_option maxRecDepth 10000 in
theorem rstep_n1 (s : Cs.St) (rd rn rm : Nat) (ra imm cond l : Int) (wide : Bool) (w : World) (hd : rd < 13) (hn : rn < 13) (hm : rm < 13) (hz : (Th.check ⟨1, (rd : Int), (rn : Int), (rm : Int), ra, imm, cond, wide⟩ != 0) = false) (hz2 : (Th.size ⟨1, (rd : Int), (rn : Int), (rm : Int), ra, imm, cond, wide⟩ == 0) = false) (ht : Cs.taken (Cs.words s) 1 cond = false) :
    Calls Try.prog 10 #[.agg (Cs.cells s), .agg #[.int .i64 1, .int .i64 (rd : Int), .int .i64 (rn : Int), .int .i64 (rm : Int), .int .i64 ra, .int .i64 imm, .int .i64 cond, .bool wide], .int .i64 l] w fun e w' => e = .returned (.tuple #[.agg (Cs.cells (Cs.stepS s ⟨1, (rd : Int), (rn : Int), (rm : Int), ra, imm, cond, wide⟩ l)), .bool (Cs.stepB ⟨1, (rd : Int), (rn : Int), (rm : Int), ra, imm, cond, wide⟩)]) ∧ Below w.heap.size w w' := by
  have bd : (rd : Int) < 15 := by omega
  have bn : (rn : Int) < 15 := by omega
  have bm : (rm : Int) < 15 := by omega
  have bd0 : (0 : Int) ≤ (rd : Int) := by omega
  have bn0 : (0 : Int) ≤ (rn : Int) := by omega
  have bm0 : (0 : Int) ≤ (rm : Int) := by omega
  have H := Lib.hid (Cpu3.new w s 1 (rd : Int) (rn : Int) (rm : Int) ra imm cond wide)
  go_enter Try.func10, Try.ntmps10
  go_wp2_with (first | (go_at_call 26; refine (rwords_any _ _).mono ?_; rintro e w1 ⟨rfl, hb⟩; replace H := Lib.hid (H.out.kept hb); (try clear i0 i1 i2 i3 i4 i5 i6 i7 ipc fz); obtain ⟨i0, i1, i2, i3, i4, i5, i6, i7⟩ := H.out.ins; have ipc := H.out.st.pc; have fz := H.out.st.open; clear hb) | (go_at_call 27; refine (rcheck_any _ _ _ _ _ _ _ _ _).mono ?_; rintro e w1 ⟨rfl, hb⟩; replace H := Lib.hid (H.out.kept hb); (try clear i0 i1 i2 i3 i4 i5 i6 i7 ipc fz); obtain ⟨i0, i1, i2, i3, i4, i5, i6, i7⟩ := H.out.ins; have ipc := H.out.st.pc; have fz := H.out.st.open; clear hb) | ((with_reducible refine wpList_load_st H.out.st ?_ ?_); exact rfl) | ((with_reducible refine wpList_store_st H.out.st (Cs.words s) ?_ ?_); exact rfl; replace H := Lib.hid (H.out.row (Cs.words s)); (try clear i0 i1 i2 i3 i4 i5 i6 i7 ipc fz); generalize World.setRow _ w.heap.size _ = V at *; obtain ⟨i0, i1, i2, i3, i4, i5, i6, i7⟩ := H.out.ins; have ipc := H.out.st.pc; have fz := H.out.st.open) | ((with_reducible apply wpList_store_st (state_alloc_zero _)); exact rfl; rw [World.setRow_alloc_new]))
  clear i0 i1 i2 i3 i4 i5 i6 i7 ipc fz
  replace H := Lib.hid (Cpu4.new H.out (Cs.words s))
  generalize w1.alloc (.cells (Cs.cells (Cs.words s)) 24) = W at *
  generalize w1.heap.size = bt at *
  replace H := Lib.hid H.out.drew
  refine wp_region_held_drew (S := fun wx => wx.cell? ⟨w.heap.size, 15, none⟩ = some (.int .i64 (Cs.words s).pc) ∧ InsAt wx (w.heap.size + 1) 1 (rd : Int) (rn : Int) (rm : Int) ra imm cond wide) (by kernel_rfl) (⟨H.out.c3.st.pc, H.out.c3.ins⟩) (fun hHeld => ?_)
  refine wpAnyH_take (i := 0) (v := ?_) rfl (by kernel_rfl) (by kernel_rfl) (by kernel_rfl) (fun _ _ _ h => h) (Or.inl ⟨by rfl, ?_⟩) (by assumption) ?_
  rotate_left
  · intro w hSw
    (try dsimp only at hSw)
    go_simp
    (try with_reducible rfl)
  (try simp only [Act.put, List.setIfInBounds_toArray, List.set_cons_zero, List.set_cons_succ])
  refine wpAnyH_take (i := 1) (v := ?_) rfl (by kernel_rfl) (by kernel_rfl) (by kernel_rfl) (fun _ _ _ h => h) (Or.inl ⟨by rfl, ?_⟩) (by assumption) ?_
  rotate_left
  · intro w hSw
    (try dsimp only at hSw)
    go_simp
    (try with_reducible rfl)
  (try simp only [Act.put, List.setIfInBounds_toArray, List.set_cons_zero, List.set_cons_succ])
  refine wpAnyH_take (i := 2) (v := ?_) rfl (by kernel_rfl) (by kernel_rfl) (by kernel_rfl) (fun _ _ _ h => h) (Or.inl ⟨by rfl, ?_⟩) (by assumption) ?_
  rotate_left
  · intro w hSw
    (try dsimp only at hSw)
    go_simp
    (try with_reducible rfl)
  (try simp only [Act.put, List.setIfInBounds_toArray, List.set_cons_zero, List.set_cons_succ])
  refine wpAnyH_ready (rs := [3]) (by kernel_rfl) (by simp) ?_
  refine AllReadyH.cons rfl (fun K hK => ?_) AllReadyH.nil
  go_simp
  (go_at_call 29; refine (rsize_any _ _ _ _ _ _ _ _ _).mono ?_; rintro e w2 ⟨rfl, hb⟩; replace H := Lib.hid (H.out.kept hb); have tpc := H.out.t.pc; have tfz := H.out.t.open; clear hb)
  refine hK.out _ _ (by first | exact ⟨H.out.c3.st.pc, H.out.c3.ins⟩ | exact ⟨(H.out.pc _).c3.st.pc, (H.out.pc _).c3.ins⟩) (fun hHeld => ?_)
  clear hK K
  (try simp only [Act.put, List.setIfInBounds_toArray, List.set_cons_zero, List.set_cons_succ])
  refine wpAnyH_take (i := 4) (v := ?_) rfl (by kernel_rfl) (by kernel_rfl) (by kernel_rfl) (fun _ _ _ h => h) (Or.inl ⟨by rfl, ?_⟩) (by assumption) ?_
  rotate_left
  · intro w hSw
    (try dsimp only at hSw)
    go_simp
    (try with_reducible rfl)
  (try simp only [Act.put, List.setIfInBounds_toArray, List.set_cons_zero, List.set_cons_succ])
  refine wpAnyH_ready (rs := [5]) (by kernel_rfl) (by simp) ?_
  refine AllReadyH.cons rfl (fun K hK => ?_) AllReadyH.nil
  go_simp
  (go_at_call 28; refine (rwrap_any _ _).mono ?_; rintro e w' ⟨rfl, rfl⟩)
  refine hK.out _ _ (by first | exact ⟨H.out.c3.st.pc, H.out.c3.ins⟩ | exact ⟨(H.out.pc _).c3.st.pc, (H.out.pc _).c3.ins⟩) (fun hHeld => ?_)
  clear hK K
  (try simp only [Act.put, List.setIfInBounds_toArray, List.set_cons_zero, List.set_cons_succ])
  refine wpAnyH_take (i := 6) (v := ?_) rfl (by kernel_rfl) (by kernel_rfl) (by kernel_rfl) (fun _ _ _ h => h) (Or.inl ⟨by rfl, ?_⟩) (by assumption) ?_
  rotate_left
  · intro w hSw
    (try dsimp only at hSw)
    go_simp
    (try with_reducible rfl)
  (try simp only [Act.put, List.setIfInBounds_toArray, List.set_cons_zero, List.set_cons_succ])
  refine wpAnyH_ready (rs := [7]) (by kernel_rfl) (by simp) ?_
  refine AllReadyH.cons rfl (fun K hK => ?_) AllReadyH.nil
  go_simp
  skip
  refine hK.out _ _ (by first | exact ⟨H.out.c3.st.pc, H.out.c3.ins⟩ | exact ⟨(H.out.pc _).c3.st.pc, (H.out.pc _).c3.ins⟩) (fun hHeld => ?_)
  clear hK K
  (try simp only [Act.put, List.setIfInBounds_toArray, List.set_cons_zero, List.set_cons_succ])
  refine wpAnyH_done (by kernel_rfl) ?_ _
  replace H := Lib.hid (H.out.pc (Wd.wrap (IntKind.i64.wrap ((Cs.words s).pc + Th.size ⟨1, (rd : Int), (rn : Int), (rm : Int), ra, imm, cond, wide⟩))))
  clear tpc tfz
  generalize hp5 : Wd.wrap (IntKind.i64.wrap ((Cs.words s).pc + Th.size ⟨1, (rd : Int), (rn : Int), (rm : Int), ra, imm, cond, wide⟩)) = p5 at *
  have HP := Lib.hid hp5
  clear hp5
  generalize World.setCell w2 _ _ = V at *
  obtain ⟨i0, i1, i2, i3, i4, i5, i6, i7⟩ := H.out.c3.ins
  have ipc := H.out.c3.st.pc
  have tpc := H.out.t.pc
  have tfz := H.out.t.open
  go_wp2_with (first | (go_at_call 30; refine (rtaken_any _ _ _ _ _ _ _ _ _ _).mono ?_; rintro e w3 ⟨rfl, hb⟩; replace H := Lib.hid (H.out.kept hb); clear i0 i1 i2 i3 i4 i5 i6 i7 ipc tpc tfz; obtain ⟨i0, i1, i2, i3, i4, i5, i6, i7⟩ := H.out.c3.ins; have ipc := H.out.c3.st.pc; have tpc := H.out.t.pc; have tfz := H.out.t.open; clear hb) | ((with_reducible refine wpList_load_st H.out.c3.st ?_ ?_); exact rfl) | (go_at_call 28; refine (rwrap_any _ _).mono ?_; rintro e w' ⟨rfl, rfl⟩))
  clear i0 i1 i2 i3 i4 i5 i6 i7 ipc tpc tfz
  obtain ⟨i0, i1, i2, i3, i4, i5, i6, i7⟩ := H.out.c3.ins
  have sn := H.out.c3.st.reg rn (by omega)
  have sm := H.out.c3.st.reg rm (by omega)
  go_quiet (fail)
  replace H := Lib.hid (H.out.drewN nq)
  clear i0 i1 i2 i3 i4 i5 i6 i7 sn sm
  generalize World.drewN _ nq = U at *
  obtain ⟨i0, i1, i2, i3, i4, i5, i6, i7⟩ := H.out.c3.ins
  go_wp2_with (first | ((with_reducible refine wpList_load_st H.out.t ?_ ?_); exact rfl) | ((with_reducible apply wpList_store_st H.out.c3.res); exact rfl))
  all_goals
    try simp only [Exit.inBlock, Exit.then]
    refine bp_state2 rfl rfl ((H.out).c3.res.setRow _) rfl ⟨?_, (H.out).end _⟩
    rw [show Cs.stepS s ⟨1, (rd : Int), (rn : Int), (rm : Int), ra, imm, cond, wide⟩ l = { Cs.words s with pc := p5 } by simp only [Cs.stepS, hz2, Bool.false_or]; rw [if_neg (by decide), if_neg (by rw [← Cs.taken_words, ht]; decide), ← HP.out, Cs.wrap_iw]; rw [show Cs.made (Cs.words s) ⟨1, (rd : Int), (rn : Int), (rm : Int), ra, imm, cond, wide⟩ l = Cs.words s from Cs.put_same _ rd]; rfl, show Cs.stepB ⟨1, (rd : Int), (rn : Int), (rm : Int), ra, imm, cond, wide⟩ = true by simp [Cs.stepB, hz2]]
    rfl
set_option maxHeartbeats 8000000 in
set_option maxRecDepth 10000 in
theorem rstep_n25 (s : Cs.St) (rd rn rm : Nat) (ra imm cond l : Int) (wide : Bool) (w : World) (hd : rd < 13) (hn : rn < 13) (hm : rm < 13) (hz : (Th.check ⟨25, (rd : Int), (rn : Int), (rm : Int), ra, imm, cond, wide⟩ != 0) = false) (hz2 : (Th.size ⟨25, (rd : Int), (rn : Int), (rm : Int), ra, imm, cond, wide⟩ == 0) = false) (ht : Cs.taken (Cs.words s) 25 cond = false) :
    Calls Try.prog 10 #[.agg (Cs.cells s), .agg #[.int .i64 25, .int .i64 (rd : Int), .int .i64 (rn : Int), .int .i64 (rm : Int), .int .i64 ra, .int .i64 imm, .int .i64 cond, .bool wide], .int .i64 l] w fun e w' => e = .returned (.tuple #[.agg (Cs.cells (Cs.stepS s ⟨25, (rd : Int), (rn : Int), (rm : Int), ra, imm, cond, wide⟩ l)), .bool (Cs.stepB ⟨25, (rd : Int), (rn : Int), (rm : Int), ra, imm, cond, wide⟩)]) ∧ Below w.heap.size w w' := by
  have bd : (rd : Int) < 15 := by omega
  have bn : (rn : Int) < 15 := by omega
  have bm : (rm : Int) < 15 := by omega
  have bd0 : (0 : Int) ≤ (rd : Int) := by omega
  have bn0 : (0 : Int) ≤ (rn : Int) := by omega
  have bm0 : (0 : Int) ≤ (rm : Int) := by omega
  have H := Lib.hid (Cpu3.new w s 25 (rd : Int) (rn : Int) (rm : Int) ra imm cond wide)
  go_enter Try.func10, Try.ntmps10
  go_wp2_with (first | (go_at_call 26; refine (rwords_any _ _).mono ?_; rintro e w1 ⟨rfl, hb⟩; replace H := Lib.hid (H.out.kept hb); (try clear i0 i1 i2 i3 i4 i5 i6 i7 ipc fz); obtain ⟨i0, i1, i2, i3, i4, i5, i6, i7⟩ := H.out.ins; have ipc := H.out.st.pc; have fz := H.out.st.open; clear hb) | (go_at_call 27; refine (rcheck_any _ _ _ _ _ _ _ _ _).mono ?_; rintro e w1 ⟨rfl, hb⟩; replace H := Lib.hid (H.out.kept hb); (try clear i0 i1 i2 i3 i4 i5 i6 i7 ipc fz); obtain ⟨i0, i1, i2, i3, i4, i5, i6, i7⟩ := H.out.ins; have ipc := H.out.st.pc; have fz := H.out.st.open; clear hb) | ((with_reducible refine wpList_load_st H.out.st ?_ ?_); exact rfl) | ((with_reducible refine wpList_store_st H.out.st (Cs.words s) ?_ ?_); exact rfl; replace H := Lib.hid (H.out.row (Cs.words s)); (try clear i0 i1 i2 i3 i4 i5 i6 i7 ipc fz); generalize World.setRow _ w.heap.size _ = V at *; obtain ⟨i0, i1, i2, i3, i4, i5, i6, i7⟩ := H.out.ins; have ipc := H.out.st.pc; have fz := H.out.st.open) | ((with_reducible apply wpList_store_st (state_alloc_zero _)); exact rfl; rw [World.setRow_alloc_new]))
  clear i0 i1 i2 i3 i4 i5 i6 i7 ipc fz
  replace H := Lib.hid (Cpu4.new H.out (Cs.words s))
  generalize w1.alloc (.cells (Cs.cells (Cs.words s)) 24) = W at *
  generalize w1.heap.size = bt at *
  replace H := Lib.hid H.out.drew
  refine wp_region_held_drew (S := fun wx => wx.cell? ⟨w.heap.size, 15, none⟩ = some (.int .i64 (Cs.words s).pc) ∧ InsAt wx (w.heap.size + 1) 25 (rd : Int) (rn : Int) (rm : Int) ra imm cond wide) (by kernel_rfl) (⟨H.out.c3.st.pc, H.out.c3.ins⟩) (fun hHeld => ?_)
  refine wpAnyH_take (i := 0) (v := ?_) rfl (by kernel_rfl) (by kernel_rfl) (by kernel_rfl) (fun _ _ _ h => h) (Or.inl ⟨by rfl, ?_⟩) (by assumption) ?_
  rotate_left
  · intro w hSw
    (try dsimp only at hSw)
    go_simp
    (try with_reducible rfl)
  (try simp only [Act.put, List.setIfInBounds_toArray, List.set_cons_zero, List.set_cons_succ])
  refine wpAnyH_take (i := 1) (v := ?_) rfl (by kernel_rfl) (by kernel_rfl) (by kernel_rfl) (fun _ _ _ h => h) (Or.inl ⟨by rfl, ?_⟩) (by assumption) ?_
  rotate_left
  · intro w hSw
    (try dsimp only at hSw)
    go_simp
    (try with_reducible rfl)
  (try simp only [Act.put, List.setIfInBounds_toArray, List.set_cons_zero, List.set_cons_succ])
  refine wpAnyH_take (i := 2) (v := ?_) rfl (by kernel_rfl) (by kernel_rfl) (by kernel_rfl) (fun _ _ _ h => h) (Or.inl ⟨by rfl, ?_⟩) (by assumption) ?_
  rotate_left
  · intro w hSw
    (try dsimp only at hSw)
    go_simp
    (try with_reducible rfl)
  (try simp only [Act.put, List.setIfInBounds_toArray, List.set_cons_zero, List.set_cons_succ])
  refine wpAnyH_ready (rs := [3]) (by kernel_rfl) (by simp) ?_
  refine AllReadyH.cons rfl (fun K hK => ?_) AllReadyH.nil
  go_simp
  (go_at_call 29; refine (rsize_any _ _ _ _ _ _ _ _ _).mono ?_; rintro e w2 ⟨rfl, hb⟩; replace H := Lib.hid (H.out.kept hb); have tpc := H.out.t.pc; have tfz := H.out.t.open; clear hb)
  refine hK.out _ _ (by first | exact ⟨H.out.c3.st.pc, H.out.c3.ins⟩ | exact ⟨(H.out.pc _).c3.st.pc, (H.out.pc _).c3.ins⟩) (fun hHeld => ?_)
  clear hK K
  (try simp only [Act.put, List.setIfInBounds_toArray, List.set_cons_zero, List.set_cons_succ])
  refine wpAnyH_take (i := 4) (v := ?_) rfl (by kernel_rfl) (by kernel_rfl) (by kernel_rfl) (fun _ _ _ h => h) (Or.inl ⟨by rfl, ?_⟩) (by assumption) ?_
  rotate_left
  · intro w hSw
    (try dsimp only at hSw)
    go_simp
    (try with_reducible rfl)
  (try simp only [Act.put, List.setIfInBounds_toArray, List.set_cons_zero, List.set_cons_succ])
  refine wpAnyH_ready (rs := [5]) (by kernel_rfl) (by simp) ?_
  refine AllReadyH.cons rfl (fun K hK => ?_) AllReadyH.nil
  go_simp
  (go_at_call 28; refine (rwrap_any _ _).mono ?_; rintro e w' ⟨rfl, rfl⟩)
  refine hK.out _ _ (by first | exact ⟨H.out.c3.st.pc, H.out.c3.ins⟩ | exact ⟨(H.out.pc _).c3.st.pc, (H.out.pc _).c3.ins⟩) (fun hHeld => ?_)
  clear hK K
  (try simp only [Act.put, List.setIfInBounds_toArray, List.set_cons_zero, List.set_cons_succ])
  refine wpAnyH_take (i := 6) (v := ?_) rfl (by kernel_rfl) (by kernel_rfl) (by kernel_rfl) (fun _ _ _ h => h) (Or.inl ⟨by rfl, ?_⟩) (by assumption) ?_
  rotate_left
  · intro w hSw
    (try dsimp only at hSw)
    go_simp
    (try with_reducible rfl)
  (try simp only [Act.put, List.setIfInBounds_toArray, List.set_cons_zero, List.set_cons_succ])
  refine wpAnyH_ready (rs := [7]) (by kernel_rfl) (by simp) ?_
  refine AllReadyH.cons rfl (fun K hK => ?_) AllReadyH.nil
  go_simp
  skip
  refine hK.out _ _ (by first | exact ⟨H.out.c3.st.pc, H.out.c3.ins⟩ | exact ⟨(H.out.pc _).c3.st.pc, (H.out.pc _).c3.ins⟩) (fun hHeld => ?_)
  clear hK K
  (try simp only [Act.put, List.setIfInBounds_toArray, List.set_cons_zero, List.set_cons_succ])
  refine wpAnyH_done (by kernel_rfl) ?_ _
  replace H := Lib.hid (H.out.pc (Wd.wrap (IntKind.i64.wrap ((Cs.words s).pc + Th.size ⟨25, (rd : Int), (rn : Int), (rm : Int), ra, imm, cond, wide⟩))))
  clear tpc tfz
  generalize hp5 : Wd.wrap (IntKind.i64.wrap ((Cs.words s).pc + Th.size ⟨25, (rd : Int), (rn : Int), (rm : Int), ra, imm, cond, wide⟩)) = p5 at *
  have HP := Lib.hid hp5
  clear hp5
  generalize World.setCell w2 _ _ = V at *
  obtain ⟨i0, i1, i2, i3, i4, i5, i6, i7⟩ := H.out.c3.ins
  have ipc := H.out.c3.st.pc
  have tpc := H.out.t.pc
  have tfz := H.out.t.open
  go_wp2_with (first | (go_at_call 30; refine (rtaken_any _ _ _ _ _ _ _ _ _ _).mono ?_; rintro e w3 ⟨rfl, hb⟩; replace H := Lib.hid (H.out.kept hb); clear i0 i1 i2 i3 i4 i5 i6 i7 ipc tpc tfz; obtain ⟨i0, i1, i2, i3, i4, i5, i6, i7⟩ := H.out.c3.ins; have ipc := H.out.c3.st.pc; have tpc := H.out.t.pc; have tfz := H.out.t.open; clear hb) | ((with_reducible refine wpList_load_st H.out.c3.st ?_ ?_); exact rfl) | (go_at_call 28; refine (rwrap_any _ _).mono ?_; rintro e w' ⟨rfl, rfl⟩))
  clear i0 i1 i2 i3 i4 i5 i6 i7 ipc tpc tfz
  obtain ⟨i0, i1, i2, i3, i4, i5, i6, i7⟩ := H.out.c3.ins
  have sn := H.out.c3.st.reg rn (by omega)
  have sm := H.out.c3.st.reg rm (by omega)
  go_quiet (fail)
  replace H := Lib.hid (H.out.drewN nq)
  clear i0 i1 i2 i3 i4 i5 i6 i7 sn sm
  generalize World.drewN _ nq = U at *
  obtain ⟨i0, i1, i2, i3, i4, i5, i6, i7⟩ := H.out.c3.ins
  go_wp2_with (first | ((with_reducible refine wpList_load_st H.out.t ?_ ?_); exact rfl) | ((with_reducible apply wpList_store_st H.out.c3.res); exact rfl))
  all_goals
    try simp only [Exit.inBlock, Exit.then]
    refine bp_state2 rfl rfl ((H.out).c3.res.setRow _) rfl ⟨?_, (H.out).end _⟩
    rw [show Cs.stepS s ⟨25, (rd : Int), (rn : Int), (rm : Int), ra, imm, cond, wide⟩ l = { Cs.words s with pc := p5 } by simp only [Cs.stepS, hz2, Bool.false_or]; rw [if_neg (by decide), if_neg (by rw [← Cs.taken_words, ht]; decide), ← HP.out, Cs.wrap_iw]; rw [show Cs.made (Cs.words s) ⟨25, (rd : Int), (rn : Int), (rm : Int), ra, imm, cond, wide⟩ l = Cs.words s from Cs.put_same _ rd]; rfl, show Cs.stepB ⟨25, (rd : Int), (rn : Int), (rm : Int), ra, imm, cond, wide⟩ = true by simp [Cs.stepB, hz2]]
    rfl
end Go.Proofs.Ytennhpfhgbmnfaa
