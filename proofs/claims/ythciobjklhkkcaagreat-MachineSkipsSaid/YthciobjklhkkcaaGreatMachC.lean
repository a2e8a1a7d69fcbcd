/-
 Package machine: what turned and first return.
-/
import Derived.Test.YthciobjklhkkcaaGreatMachB
namespace Go.Proofs.YthciobjklhkkcaaGreat
open Go.ChangeShapes Go.WideShapes Go.ChangeAt Go.RowKit
set_option maxHeartbeats 4000000
set_option maxRecDepth 10000
set_option linter.unusedVariables false
set_option linter.unusedSimpArgs false

/-- a state, a fault and a result's state in three blocks -/
structure Tu3 (w : World) (n : Nat) (W : World) (s : Cs.St) (kind step reg bit : Int) : Prop where
 st : StateAt W n s
 f0 : W.cell? ⟨n + 1, 0, none⟩ = some (.int .i64 kind)
 f2 : W.cell? ⟨n + 1, 2, none⟩ = some (.int .i64 reg)
 f3 : W.cell? ⟨n + 1, 3, none⟩ = some (.int .i64 bit)
 res : StateAt W (n + 1 + 1) Cs.none
 bel : Below n w W
theorem Tu3.kept {w W W' : World} {n : Nat} {s : Cs.St} {kind step reg bit : Int} (h : Tu3 w n W s kind step reg bit) (hb : Below W.heap.size W W') : Tu3 w n W' s kind step reg bit := by
 have h1 := h.res.lt
 exact ⟨h.st.below hb, by rw [hb.cell (p := ⟨n + 1, 0, none⟩) (by show n + 1 < _; omega)]; exact h.f0, by rw [hb.cell (p := ⟨n + 1, 2, none⟩) (by show n + 1 < _; omega)]; exact h.f2, by rw [hb.cell (p := ⟨n + 1, 3, none⟩) (by show n + 1 < _; omega)]; exact h.f3, h.res.below hb, h.bel.trans (hb.mono (by omega))⟩
theorem Tu3.new (w : World) (s : Cs.St) (kind step reg bit : Int) :
  Tu3 w w.heap.size (((w.alloc (.cells (Cs.cells s) 56)).alloc (.cells #[.int .i64 kind, .int .i64 step, .int .i64 reg, .int .i64 bit] 23)).alloc (.cells Cs.zero 56)) s kind step reg bit :=
 ⟨((state_alloc w s).alloc _).alloc _, by simp [go_sem], by simp [go_sem], by simp [go_sem], state_alloc' _ Cs.none _ (by simp), (((Below.refl _ _).alloc (Nat.le_refl _) _).alloc (by simp) _).alloc (by simp; omega) _⟩
theorem Tu3.reg {w W : World} {n : Nat} {s : Cs.St} {kind step reg bit : Int} (h : Tu3 w n W s kind step reg bit) (k : Nat) (hk : k < 15) (x : Int) : StateAt (W.setCell ⟨n, k, none⟩ (.int .i64 x)) n (Cs.put s k x) ∧ StateAt (W.setCell ⟨n, k, none⟩ (.int .i64 x)) (n + 1 + 1) Cs.none ∧ Below n w (W.setCell ⟨n, k, none⟩ (.int .i64 x)) :=
 ⟨h.st.set k _ (Cs.cells_put s k x hk), h.res.other _ _ (by show n + 1 + 1 ≠ n; omega), h.bel.setCell (Nat.le_refl _) _⟩
theorem turned_flip (s : Cs.St) (step bit : Int) (d : Nat) (w : World) (hd : d < 15) :
  Calls Tryz.prog 34 #[.agg (Cs.cells s), .agg #[.int .i64 2, .int .i64 step, .int .i64 (d : Int), .int .i64 bit]] w fun e w' => e = .returned (.agg (Cs.cells (Cs.put s d (Wd.flip (s.r d) bit)))) ∧ Below w.heap.size w w' := by
 have bd : (d : Int) < 15 := by omega
 have bd0 : (0 : Int) ≤ (d : Int) := by omega
 have H0 := Lib.hid (Tu3.new w s 2 step d bit)
 go_enter Tryz.func34, Tryz.ntmps34
 go_wp2_with fail
 obtain ⟨W, hW⟩ : ∃ W, (((w.alloc (.cells (Cs.cells s) 56)).alloc (.cells #[.int .i64 2, .int .i64 step, .int .i64 (d : Int), .int .i64 bit] 23)).alloc (.cells Cs.zero 56)) = W := ⟨_, rfl⟩
 rw [hW] at H0 ⊢
 clear hW
 have f0 := H0.out.f0
 have f2 := H0.out.f2
 have f3 := H0.out.f3
 have c1 := H0.out.st.reg d hd
 have fz := H0.out.st.open
 go_wp2_with fail
 go_still_tail 12, (by kernel_rfl)
 still_call (still (flip_any _ _ _))
 repeat still_step
 try refine wpStill_nil ?_
 change wpList _ _ _ _ _ W.drew
 replace H0 := Lib.hid (H0.out.kept (Below.refl _ _).drew)
 clear f0 f2 f3 c1 fz
 generalize W.drew = V at *
 have f0 := H0.out.f0
 have c1 := H0.out.st.reg d hd
 have fz := H0.out.st.open
 have H := Lib.hid (H0.out.reg d hd (Wd.flip (s.r d) bit))
 go_wp2_with (first | ((with_reducible refine wpList_load_st H.out.1 ?_ ?_); exact rfl) | ((with_reducible apply wpList_store_st H.out.2.1); exact rfl))
 try simp only [Exit.inBlock, Exit.then]
 refine bp_state rfl rfl (H.out.2.1.setRow _) rfl ⟨rfl, below_setRow H.out.2.2 (by omega) _⟩
theorem turned_none (s : Cs.St) (kind step reg bit : Int) (w : World) (h2 : ¬ kind = 2) (h3 : ¬ kind = 3) :
  Calls Tryz.prog 34 #[.agg (Cs.cells s), .agg #[.int .i64 kind, .int .i64 step, .int .i64 reg, .int .i64 bit]] w fun e w' => e = .returned (.agg (Cs.cells s)) ∧ Below w.heap.size w w' := by
 have H := Lib.hid (Tu3.new w s kind step reg bit)
 go_enter Tryz.func34, Tryz.ntmps34
 go_wp2_with (first | ((with_reducible refine wpList_load_st H.out.st ?_ ?_); exact rfl) | ((with_reducible apply wpList_store_st H.out.res); exact rfl))
 try simp only [Exit.inBlock, Exit.then]
 refine bp_state rfl rfl (H.out.res.setRow _) rfl ⟨rfl, below_setRow H.out.bel (by omega) _⟩
theorem turned_flag (s : Cs.St) (step reg bit : Int) (w : World) (hk : 0 ≤ bit ∧ bit < 4) :
  Calls Tryz.prog 34 #[.agg (Cs.cells s), .agg #[.int .i64 3, .int .i64 step, .int .i64 reg, .int .i64 bit]] w fun e w' => e = .returned (.agg (Cs.cells (Mc.flag s bit))) ∧ Below w.heap.size w w' := by
 have H0 := Lib.hid (Tu3.new w s 3 step reg bit)
 go_enter Tryz.func34, Tryz.ntmps34
 go_wp2_with (first | (go_at_call 54; refine (flag_any _ _ _ hk).mono ?_; rintro e w1 ⟨rfl, hb⟩; have H := Lib.hid (H0.out.kept hb); clear hb) | ((with_reducible refine wpList_load_st H0.out.st ?_ ?_); exact rfl) | ((with_reducible apply wpList_store_st H.out.res); exact rfl))
 try simp only [Exit.inBlock, Exit.then]
 refine bp_state rfl rfl (H.out.res.setRow _) rfl ⟨rfl, below_setRow H.out.bel (by omega) _⟩
theorem not_0 : Wd.not 0 = 4294967295 := by decide
/-- the state that a machine starts with -/
def Mc.first (reset : Int) : Cs.St := Cs.put (Cs.put { Cs.none with pc := reset } 13 537133056) 14 4294967295
theorem Two.row {w W : World} {n : Nat} {s : Cs.St} (h : Two w n W s) (t : Cs.St) : StateAt (W.setRow (n + 1) (Cs.cells t)) n s ∧ StateAt (W.setRow (n + 1) (Cs.cells t)) (n + 1) t ∧ Below n w (W.setRow (n + 1) (Cs.cells t)) :=
 ⟨h.st.otherRow _ _ (by omega), h.res.setRow t, h.end t⟩
theorem Two.regs2 {w W : World} {n : Nat} {s t : Cs.St} (h : StateAt W n s ∧ StateAt W (n + 1) t ∧ Below n w W) (i j : Nat) (hi : i < 15) (hj : j < 15) (x y : Int) : StateAt ((W.setCell ⟨n + 1, i, none⟩ (.int .i64 x)).setCell ⟨n + 1, j, none⟩ (.int .i64 y)) n s ∧ StateAt ((W.setCell ⟨n + 1, i, none⟩ (.int .i64 x)).setCell ⟨n + 1, j, none⟩ (.int .i64 y)) (n + 1) (Cs.put (Cs.put t i x) j y) ∧ Below n w ((W.setCell ⟨n + 1, i, none⟩ (.int .i64 x)).setCell ⟨n + 1, j, none⟩ (.int .i64 y)) :=
 ⟨(h.1.other _ _ (by show n ≠ n + 1; omega)).other _ _ (by show n ≠ n + 1; omega), (h.2.1.set i _ (Cs.cells_put t i x hi)).set j _ (Cs.cells_put _ j y hj), (h.2.2.setCell (by show n ≤ n + 1; omega) _).setCell (by show n ≤ n + 1; omega) _⟩
theorem first_any (p : Int) (w : World) :
  Calls Tryz.prog 33 #[.int .i64 p] w fun e w' => e = .returned (.agg (Cs.cells (Mc.first p))) ∧ Below w.heap.size w w' := by
 obtain ⟨N, hN⟩ : ∃ N, Wd.not 0 = N := ⟨_, rfl⟩
 have C := Lib.hid (fun w => not_any 0 w)
 rw [hN] at C
 rw [not_0] at hN
 have e : Mc.first p = Cs.put (Cs.put { Cs.none with pc := p } 13 537133056) 14 N := by rw [← hN]; rfl
 rw [e]
 clear hN e
 have H0 : Hid (Two w w.heap.size ((w.alloc (.cells Cs.zero 56)).alloc (.cells Cs.zero 56)) Cs.none) := Lib.hid (Two.new w Cs.none)
 go_enter Tryz.func33, Tryz.ntmps33
 go_wp2_with (first | (go_at_call 52; refine (C.out _).mono ?_; rintro e w1 ⟨rfl, rfl⟩) | ((with_reducible refine wpList_store_st H0.out.res { Cs.none with pc := p } ?_ ?_); exact rfl; have H1 := Lib.hid (Two.row H0.out { Cs.none with pc := p }); generalize World.setRow _ (w.heap.size + 1) _ = V at *; have c13 := H1.out.2.1.reg 13 (by decide); have c14 := H1.out.2.1.reg 14 (by decide); have fz := H1.out.2.1.open; have H2 := Lib.hid (Two.regs2 H1.out 13 14 (by decide) (by decide) 537133056 N)) | ((with_reducible refine wpList_load_st H2.out.2.1 ?_ ?_); exact rfl) | ((with_reducible apply wpList_store_st H2.out.1); exact rfl))
 try simp only [Exit.inBlock, Exit.then]
 refine bp_state rfl rfl (H2.out.1.setRow _) rfl ⟨rfl, below_setRow H2.out.2.2 (Nat.le_refl _) _⟩
end Go.Proofs.YthciobjklhkkcaaGreat
