/-
 Package machine: what Check, may, below, turned, otherFlag, first return.
-/
import Derived.Test.YthciobjklhkkcaaGreatMachA
namespace Go.Proofs.YthciobjklhkkcaaGreat
open Go.ChangeShapes Go.WideShapes Go.ChangeAt Go.RowKit
set_option maxHeartbeats 4000000
set_option maxRecDepth 10000
set_option linter.unusedVariables false
set_option linter.unusedSimpArgs false

theorem Wd.flip_eq' (a n : Int) : Wd.xor a (wrap64 (2 ^ Wd.cnt n)) = Wd.flip a n := by unfold Wd.flip Wd.xor; rw [Wd.wrap_wrap64]
theorem flip_any (a n : Int) (w : World) :
  Calls Tryz.prog 53 #[.int .i64 a, .int .i64 n] w fun e w' => e = .returned (.int .i64 (Wd.flip a n)) ∧ w = w' := by
 have hn := Wd.cnt_lt n
 go_enter Tryz.func53, Tryz.ntmps53
 go_wp2_with (first | (go_at_call 82; refine (xor_any _ _ _).mono ?_; rintro e w' ⟨rfl, rfl⟩) | (go_at_call 83; refine (count_any _ _).mono ?_; rintro e w' ⟨rfl, rfl⟩))
 go_ret
 exact ⟨ret_int (Wd.flip_eq' a n), rfl⟩
theorem mbelow_any (n c : Int) (w : World) :
  Calls Tryz.prog 46 #[.int .i64 n, .int .i64 c] w fun e w' => e = .returned (.bool (Mc.bel n c)) ∧ w = w' := by
 by_cases h0 : 0 ≤ n
 ·by_cases h1 : n < c
  ·have e : Mc.bel n c = true := by unfold Mc.bel; rw [decide_eq_true h0, decide_eq_true h1]; rfl
   rw [e]
   go_enter Tryz.func46, Tryz.ntmps46
   go_wp2
   go_ret
   exact ⟨rfl, rfl⟩
  ·have e : Mc.bel n c = false := by unfold Mc.bel; rw [decide_eq_true h0, decide_eq_false h1]; rfl
   rw [e]
   have h2 : c ≤ n := by omega
   go_enter Tryz.func46, Tryz.ntmps46
   go_wp2
   go_ret
   exact ⟨rfl, rfl⟩
 ·have e : Mc.bel n c = false := by unfold Mc.bel; rw [decide_eq_false h0]; rfl
  rw [e]
  have h2 : n < 0 := by omega
  go_enter Tryz.func46, Tryz.ntmps46
  go_wp2
  go_ret
  exact ⟨rfl, rfl⟩
theorem may_any (kind step reg bit : Int) (w : World) :
  Calls Tryz.prog 29 #[.agg #[.int .i64 kind, .int .i64 step, .int .i64 reg, .int .i64 bit]] w fun e w' => e = .returned (.bool (Mc.mayF ⟨kind, step, reg, bit⟩)) ∧ Below w.heap.size w w' := by
 by_cases h0 : kind = 0
 ·subst h0
  go_enter Tryz.func29, Tryz.ntmps29
  go_wp2
  go_ret
  exact ⟨rfl, by go_grown⟩
 by_cases h1 : kind = 1
 ·subst h1
  go_enter Tryz.func29, Tryz.ntmps29
  go_wp2
  go_ret
  exact ⟨rfl, by go_grown⟩
 by_cases h2 : kind = 2
 ·subst h2
  obtain ⟨B1, hB1⟩ : ∃ B, Mc.bel reg 15 = B := ⟨_, rfl⟩
  obtain ⟨B2, hB2⟩ : ∃ B, Mc.bel bit 32 = B := ⟨_, rfl⟩
  have C1 := Lib.hid (fun w => mbelow_any reg 15 w)
  have C2 := Lib.hid (fun w => mbelow_any bit 32 w)
  rw [hB1] at C1
  rw [hB2] at C2
  have e : Mc.mayF ⟨2, step, reg, bit⟩ = (B1 && B2) := by simp [Mc.mayF, hB1, hB2]
  rw [e]
  clear hB1 hB2 e
  cases B1
  all_goals
   go_enter Tryz.func29, Tryz.ntmps29
   go_wp2_with (first | (go_at_call 46; with_reducible refine (C1.out _).mono ?_; rintro e w' ⟨rfl, rfl⟩) | (go_at_call 46; with_reducible refine (C2.out _).mono ?_; rintro e w' ⟨rfl, rfl⟩))
   go_ret
   exact ⟨rfl, by go_grown⟩
 by_cases h3 : kind = 3
 ·subst h3
  have e : Mc.mayF ⟨3, step, reg, bit⟩ = Mc.bel bit 4 := by simp [Mc.mayF]
  rw [e]
  go_enter Tryz.func29, Tryz.ntmps29
  go_wp2_with (go_at_call 46; refine (mbelow_any _ _ _).mono ?_; rintro e w' ⟨rfl, rfl⟩)
  go_ret
  exact ⟨rfl, by go_grown⟩
 have e : Mc.mayF ⟨kind, step, reg, bit⟩ = false := by simp [Mc.mayF, h0, h1, h2, h3]
 rw [e]
 go_enter Tryz.func29, Tryz.ntmps29
 go_wp2
 go_ret
 exact ⟨rfl, by go_grown⟩
theorem mcheck9_any (kind step reg bit : Int) (w : World) :
  Calls Tryz.prog 11 #[.agg #[.int .i64 kind, .int .i64 step, .int .i64 reg, .int .i64 bit]] w fun e w' => e = .returned (.int .i64 (if Mc.okF ⟨kind, step, reg, bit⟩ then 0 else 2)) ∧ Below w.heap.size w w' := by
 obtain ⟨B, hB⟩ : ∃ B, Mc.mayF ⟨kind, step, reg, bit⟩ = B := ⟨_, rfl⟩
 have C := Lib.hid (fun w => may_any kind step reg bit w)
 rw [hB] at C
 by_cases h0 : 0 ≤ step
 ·have e : Mc.okF ⟨kind, step, reg, bit⟩ = B := by unfold Mc.okF; rw [hB, decide_eq_true h0]; rfl
  have h1 : ¬ step < 0 := by omega
  rw [e]
  clear hB e
  cases B
  all_goals
   go_enter Tryz.func11, Tryz.ntmps11
   go_wp2_with (go_at_call 29; refine (C.out _).mono ?_; rintro e w1 ⟨rfl, hb⟩; have HB := Lib.hid hb; clear hb)
   go_ret
   exact ⟨rfl, ((Below.refl w.heap.size w).alloc (Nat.le_refl _) _).trans (HB.out.mono (by simp))⟩
 ·have e : Mc.okF ⟨kind, step, reg, bit⟩ = false := by unfold Mc.okF; rw [decide_eq_false h0]; rfl
  have h1 : step < 0 := by omega
  rw [e]
  clear hB C
  go_enter Tryz.func11, Tryz.ntmps11
  go_wp2
  go_ret
  exact ⟨rfl, by go_grown⟩
/-- a flag turned -/
def Mc.flag (s : Cs.St) (k : Int) : Cs.St := { s with n := s.n != (k == 0), z := s.z != (k == 1), c := s.c != (k == 2), v := s.v != (k == 3) }
/-- a state and a result's state in two blocks -/
structure Two (w : World) (n : Nat) (W : World) (s : Cs.St) : Prop where
 st : StateAt W n s
 res : StateAt W (n + 1) Cs.none
 bel : Below n w W
theorem Two.new (w : World) (s : Cs.St) : Two w w.heap.size ((w.alloc (.cells (Cs.cells s) 56)).alloc (.cells Cs.zero 56)) s :=
 ⟨(state_alloc w s).alloc _, state_alloc' _ Cs.none _ (by simp), ((Below.refl _ _).alloc (Nat.le_refl _) _).alloc (by simp) _⟩
theorem Two.set {w W : World} {n : Nat} {s t : Cs.St} (h : Two w n W s) (k : Nat) (v : Value) (hc : (Cs.cells s).setIfInBounds k v = Cs.cells t) : Two w n (W.setCell ⟨n, k, none⟩ v) t :=
 ⟨h.st.set k v hc, h.res.other _ _ (by show n + 1 ≠ n; omega), h.bel.setCell (Nat.le_refl _) _⟩
theorem Two.end {w W : World} {n : Nat} {s : Cs.St} (h : Two w n W s) (t : Cs.St) : Below n w (W.setRow (n + 1) (Cs.cells t)) := below_setRow h.bel (by omega) _
theorem flag_any (s : Cs.St) (k : Int) (w : World) (hk : 0 ≤ k ∧ k < 4) :
  Calls Tryz.prog 54 #[.agg (Cs.cells s), .int .i64 k] w fun e w' => e = .returned (.agg (Cs.cells (Mc.flag s k))) ∧ Below w.heap.size w w' := by
 have H0 := Lib.hid (Two.new w s)
 have hnot : ∀ (x : Bool) (w : World), (Op.unary .not (.bool x)).run Tryz.prog w = .ok (.bool (!x)) w := fun _ _ => rfl
 rcases (by omega : k = 0 ∨ k = 1 ∨ k = 2 ∨ k = 3) with rfl | rfl | rfl | rfl
 ·have e : Mc.flag s 0 = { s with n := !s.n } := by simp [Mc.flag]
  rw [e]
  have hc := Cs.cells_sn s (!s.n)
  have H := Lib.hid (Two.new w { s with n := !s.n })
  have c := H0.out.st.n
  have fz := H0.out.st.open
  go_enter Tryz.func54, Tryz.ntmps54
  go_wp2_with (first | ((with_reducible refine wpList_load_st H.out.st ?_ ?_); exact rfl) | ((with_reducible apply wpList_store_st H.out.res); exact rfl))
  try simp only [Exit.inBlock, Exit.then]
  refine bp_state rfl rfl (H.out.res.setRow _) rfl ⟨rfl, H.out.end _⟩
 ·have e : Mc.flag s 1 = { s with z := !s.z } := by simp [Mc.flag]
  rw [e]
  have hc := Cs.cells_sz s (!s.z)
  have H := Lib.hid (Two.new w { s with z := !s.z })
  have c := H0.out.st.z
  have fz := H0.out.st.open
  go_enter Tryz.func54, Tryz.ntmps54
  go_wp2_with (first | ((with_reducible refine wpList_load_st H.out.st ?_ ?_); exact rfl) | ((with_reducible apply wpList_store_st H.out.res); exact rfl))
  try simp only [Exit.inBlock, Exit.then]
  exact bp_state rfl rfl (H.out.res.setRow _) rfl ⟨rfl, H.out.end _⟩
 ·have e : Mc.flag s 2 = { s with c := !s.c } := by simp [Mc.flag]
  rw [e]
  have hc := Cs.cells_sc s (!s.c)
  have H := Lib.hid (Two.new w { s with c := !s.c })
  have c := H0.out.st.c
  have fz := H0.out.st.open
  go_enter Tryz.func54, Tryz.ntmps54
  go_wp2_with (first | ((with_reducible refine wpList_load_st H.out.st ?_ ?_); exact rfl) | ((with_reducible apply wpList_store_st H.out.res); exact rfl))
  try simp only [Exit.inBlock, Exit.then]
  exact bp_state rfl rfl (H.out.res.setRow _) rfl ⟨rfl, H.out.end _⟩
 ·have e : Mc.flag s 3 = { s with v := !s.v } := by simp [Mc.flag]
  rw [e]
  have hc := Cs.cells_sv s (!s.v)
  have H := Lib.hid (Two.new w { s with v := !s.v })
  have c := H0.out.st.v
  have fz := H0.out.st.open
  go_enter Tryz.func54, Tryz.ntmps54
  go_wp2_with (first | ((with_reducible refine wpList_load_st H.out.st ?_ ?_); exact rfl) | ((with_reducible apply wpList_store_st H.out.res); exact rfl))
  try simp only [Exit.inBlock, Exit.then]
  exact bp_state rfl rfl (H.out.res.setRow _) rfl ⟨rfl, H.out.end _⟩
end Go.Proofs.YthciobjklhkkcaaGreat
