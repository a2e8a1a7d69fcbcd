/-
  Law CpuCompares: Behind a comparison of any two registers the conditions are the comparisons of their words, without and with a sign.
  Conditions: none but those of the given row.
-/
import Derived.Test.YtennhpfhgbmnfaaRows
import Derived.Test.YtennhpfhgbmnfaaCpuP
import Derived.Test.YtennhpfhgbmnfaaCpuQ
import Derived.WalkKit
import Derived.ProofKit
import Derived.OpenShut
import Derived.ShutString
import Derived.ChangeOld
import Derived.Below
import Derived.LoopN
import Derived.SizedLaws
namespace Go.Proofs.Ytennhpfhgbmnfaa.cpuCompares
open Go.ChangeShapes Go.WideShapes Go.ChangeAt Go.RowKit
open Go.ChangeMaps (open_string shut_string)
set_option linter.unusedVariables false
set_option linter.unusedSimpArgs false

theorem own : ownKnob Try.prog.godebug = none := by kernel_rfl
theorem laidOut : laidOutB Try.prog = true := by kernel_rfl

theorem lsigned_any (a : Int) (w : World) (h0 : 0 ≤ a) (h1 : a < 4294967296) :
    Calls Try.prog 21 #[.int .i64 a] w fun e w' => e = .returned (.int .i64 (Cs.sgn a)) ∧ w = w' := by
  have e1 : bits .and .i64 a 4294967295 = a := by rw [Wd.and_ones]; unfold Wd.wrap; omega
  have e2 := Cs.sgn_xor a h0 h1
  have e3 := Cs.sgn_bd a h0 h1
  have e4 : bits .xor .i64 a 2147483648 = Cs.sgn a + 2147483648 := by omega
  clear e2
  go_enter Try.func21, Try.ntmps21
  go_wp2
  go_ret
  exact ⟨wret_int (by omega), rfl⟩
set_option maxHeartbeats 8000000 in
set_option maxRecDepth 100000 in
theorem cmp_in (s : Cs.St) (n m : Nat) (hn : n < 8) (hm : m < 8) (w : World) :
    Calls Try.prog 8 #[.agg (Cs.cells s), .int .i64 (n : Int), .int .i64 (m : Int)] w fun e w' => e = .returned (.bool true) ∧ Below w.heap.size w w' := by
  have gn : (n : Int) < 15 := by omega
  have gm : (m : Int) < 15 := by omega
  have gn0 : (0 : Int) ≤ (n : Int) := by omega
  have gm0 : (0 : Int) ≤ (m : Int) := by omega
  have t1 : ¬ (n : Int) < 0 := by omega
  have t2 : ¬ (7 : Int) < (n : Int) := by omega
  have t3 : ¬ (m : Int) < 0 := by omega
  have t4 : ¬ (7 : Int) < (m : Int) := by omega
  have aA : bits .and .i64 (s.r n) 4294967295 = Wd.wrap (s.r n) := Wd.and_ones _
  have aB : bits .and .i64 (s.r m) 4294967295 = Wd.wrap (s.r m) := Wd.and_ones _
  have bA := Wd.wrap_bd (s.r n)
  have bB := Wd.wrap_bd (s.r m)
  obtain ⟨T, hT⟩ : ∃ T, T = Cs.cmpP (Cs.words s) (Wd.add (Wd.wrap s.pc) 2) (Wd.wrap (s.r n)) (Wd.wrap (s.r m)) := ⟨_, rfl⟩
  have C0 : Hid (∀ w : World, Calls Try.prog 9 #[.agg (Cs.cells s), .agg #[.int .i64 23, .int .i64 0, .int .i64 (n : Int), .int .i64 (m : Int), .int .i64 0, .int .i64 0, .int .i64 0, .bool false], .int .i64 0] w fun e w' => e = .returned (.tuple #[.agg (Cs.cells T), .bool true]) ∧ Below w.heap.size w w') := by
    refine Lib.hid fun w => ?_
    have h := step_any s 23 0 n m 0 0 0 0 false w
    rw [Cs.cmp_stepS s n m hn hm 0, Cs.cmp_stepB n m hn hm] at h
    rw [hT]
    exact h
  generalize Wd.wrap (s.r n) = A at *
  generalize Wd.wrap (s.r m) = B at *
  have K0 : Hid (∀ w : World, Calls Try.prog 16 #[.agg (Cs.cells T), .int .i64 0] w fun e w' => e = .returned (.bool (A == B)) ∧ Below w.heap.size w w') := Lib.hid fun w => by
    have h := holds_any T 0 w
    rw [hT, Cs.cmp_0, ← hT] at h
    exact h
  have K1 : Hid (∀ w : World, Calls Try.prog 16 #[.agg (Cs.cells T), .int .i64 1] w fun e w' => e = .returned (.bool (A != B)) ∧ Below w.heap.size w w') := Lib.hid fun w => by
    have h := holds_any T 1 w
    rw [hT, Cs.cmp_1, ← hT] at h
    exact h
  have K2 : Hid (∀ w : World, Calls Try.prog 16 #[.agg (Cs.cells T), .int .i64 2] w fun e w' => e = .returned (.bool (decide (B ≤ A))) ∧ Below w.heap.size w w') := Lib.hid fun w => by
    have h := holds_any T 2 w
    rw [hT, Cs.cmp_2, ← hT] at h
    exact h
  have K3 : Hid (∀ w : World, Calls Try.prog 16 #[.agg (Cs.cells T), .int .i64 3] w fun e w' => e = .returned (.bool (decide (A < B))) ∧ Below w.heap.size w w') := Lib.hid fun w => by
    have h := holds_any T 3 w
    rw [hT, Cs.cmp_3, ← hT] at h
    exact h
  have K8 : Hid (∀ w : World, Calls Try.prog 16 #[.agg (Cs.cells T), .int .i64 8] w fun e w' => e = .returned (.bool (decide (B < A))) ∧ Below w.heap.size w w') := Lib.hid fun w => by
    have h := holds_any T 8 w
    rw [hT, Cs.cmp_8, ← hT] at h
    exact h
  have K9 : Hid (∀ w : World, Calls Try.prog 16 #[.agg (Cs.cells T), .int .i64 9] w fun e w' => e = .returned (.bool (decide (A ≤ B))) ∧ Below w.heap.size w w') := Lib.hid fun w => by
    have h := holds_any T 9 w
    rw [hT, Cs.cmp_9, ← hT] at h
    exact h
  have K10 : Hid (∀ w : World, Calls Try.prog 16 #[.agg (Cs.cells T), .int .i64 10] w fun e w' => e = .returned (.bool (decide (Cs.sgn B ≤ Cs.sgn A))) ∧ Below w.heap.size w w') := Lib.hid fun w => by
    have h := holds_any T 10 w
    rw [hT, Cs.cmp_10 _ _ _ _ bA.1 bA.2 bB.1 bB.2, ← hT] at h
    exact h
  have K11 : Hid (∀ w : World, Calls Try.prog 16 #[.agg (Cs.cells T), .int .i64 11] w fun e w' => e = .returned (.bool (decide (Cs.sgn A < Cs.sgn B))) ∧ Below w.heap.size w w') := Lib.hid fun w => by
    have h := holds_any T 11 w
    rw [hT, Cs.cmp_11 _ _ _ _ bA.1 bA.2 bB.1 bB.2, ← hT] at h
    exact h
  have K12 : Hid (∀ w : World, Calls Try.prog 16 #[.agg (Cs.cells T), .int .i64 12] w fun e w' => e = .returned (.bool (decide (Cs.sgn B < Cs.sgn A))) ∧ Below w.heap.size w w') := Lib.hid fun w => by
    have h := holds_any T 12 w
    rw [hT, Cs.cmp_12 _ _ _ _ bA.1 bA.2 bB.1 bB.2, ← hT] at h
    exact h
  have K13 : Hid (∀ w : World, Calls Try.prog 16 #[.agg (Cs.cells T), .int .i64 13] w fun e w' => e = .returned (.bool (decide (Cs.sgn A ≤ Cs.sgn B))) ∧ Below w.heap.size w w') := Lib.hid fun w => by
    have h := holds_any T 13 w
    rw [hT, Cs.cmp_13 _ _ _ _ bA.1 bA.2 bB.1 bB.2, ← hT] at h
    exact h
  clear hT
  have HS := Lib.hid (state_alloc w s)
  have hb0 : Below w.heap.size w (w.alloc (.cells (Cs.cells s) 24)) := (Below.refl _ _).alloc (Nat.le_refl _) _
  have HB := Lib.hid hb0
  clear hb0
  go_enter Try.func8, Try.ntmps8
  go_wp2_with (first | ((with_reducible refine wpList_load_st HS.out ?_ ?_); exact rfl) | (go_at_call 9; refine (C0.out _).mono ?_; rintro e w1 ⟨rfl, hb⟩; replace HS := Lib.hid (HS.out.below hb); replace HB := Lib.hid (HB.out.trans (hb.mono HB.out.size)); clear hb) | ((with_reducible refine wpList_store_st (state_alloc_zero _) T ?_ ?_); exact rfl; rw [World.setRow_alloc_new]; replace HS := Lib.hid (HS.out.alloc (.cells (Cs.cells T) 24)); replace HB := Lib.hid (HB.out.alloc HB.out.size (.cells (Cs.cells T) 24)); have HT := Lib.hid (state_alloc w1 T); generalize World.alloc w1 _ = W2 at *; generalize w1.heap.size = b at *))
  have cn := HS.out.reg n (by omega)
  have cm := HS.out.reg m (by omega)
  go_quiet (fail)
  replace HS := Lib.hid (HS.out.below (below_drewC (Below.refl _ _) nq))
  replace HT := Lib.hid (HT.out.below (below_drewC (Below.refl _ _) nq))
  replace HB := Lib.hid (below_drewC HB.out nq)
  clear cn cm aA aB
  generalize World.drewN _ nq = W3 at *
  go_wp2_with (first | go_skip | ((with_reducible refine wpList_load_st HT.out ?_ ?_); exact rfl) | ((with_reducible refine wpList_load_stg HT.out ?_ ?_ ?_); exact rfl; exact rfl) | ((with_reducible refine wpList_take ?_ ?_); exact rfl; intro _ _) | (go_at_call 21; first | ((with_reducible refine (lsigned_any A _ bA.1 bA.2).mono ?_); rintro e w' ⟨rfl, rfl⟩) | ((with_reducible refine (lsigned_any B _ bB.1 bB.2).mono ?_); rintro e w' ⟨rfl, rfl⟩)) | (go_at_call 16; first | ((with_reducible refine (K0.out _).mono ?_); rintro e w3 ⟨rfl, hb⟩; replace HS := Lib.hid (HS.out.below hb); replace HT := Lib.hid (HT.out.below hb); replace HB := Lib.hid (HB.out.trans (hb.mono HB.out.size)); clear hb) | ((with_reducible refine (K1.out _).mono ?_); rintro e w3 ⟨rfl, hb⟩; replace HS := Lib.hid (HS.out.below hb); replace HT := Lib.hid (HT.out.below hb); replace HB := Lib.hid (HB.out.trans (hb.mono HB.out.size)); clear hb) | ((with_reducible refine (K2.out _).mono ?_); rintro e w3 ⟨rfl, hb⟩; replace HS := Lib.hid (HS.out.below hb); replace HT := Lib.hid (HT.out.below hb); replace HB := Lib.hid (HB.out.trans (hb.mono HB.out.size)); clear hb) | ((with_reducible refine (K3.out _).mono ?_); rintro e w3 ⟨rfl, hb⟩; replace HS := Lib.hid (HS.out.below hb); replace HT := Lib.hid (HT.out.below hb); replace HB := Lib.hid (HB.out.trans (hb.mono HB.out.size)); clear hb) | ((with_reducible refine (K8.out _).mono ?_); rintro e w3 ⟨rfl, hb⟩; replace HS := Lib.hid (HS.out.below hb); replace HT := Lib.hid (HT.out.below hb); replace HB := Lib.hid (HB.out.trans (hb.mono HB.out.size)); clear hb) | ((with_reducible refine (K9.out _).mono ?_); rintro e w3 ⟨rfl, hb⟩; replace HS := Lib.hid (HS.out.below hb); replace HT := Lib.hid (HT.out.below hb); replace HB := Lib.hid (HB.out.trans (hb.mono HB.out.size)); clear hb) | ((with_reducible refine (K10.out _).mono ?_); rintro e w3 ⟨rfl, hb⟩; replace HS := Lib.hid (HS.out.below hb); replace HT := Lib.hid (HT.out.below hb); replace HB := Lib.hid (HB.out.trans (hb.mono HB.out.size)); clear hb) | ((with_reducible refine (K11.out _).mono ?_); rintro e w3 ⟨rfl, hb⟩; replace HS := Lib.hid (HS.out.below hb); replace HT := Lib.hid (HT.out.below hb); replace HB := Lib.hid (HB.out.trans (hb.mono HB.out.size)); clear hb) | ((with_reducible refine (K12.out _).mono ?_); rintro e w3 ⟨rfl, hb⟩; replace HS := Lib.hid (HS.out.below hb); replace HT := Lib.hid (HT.out.below hb); replace HB := Lib.hid (HB.out.trans (hb.mono HB.out.size)); clear hb) | ((with_reducible refine (K13.out _).mono ?_); rintro e w3 ⟨rfl, hb⟩; replace HS := Lib.hid (HS.out.below hb); replace HT := Lib.hid (HT.out.below hb); replace HB := Lib.hid (HB.out.trans (hb.mono HB.out.size)); clear hb)) | (go_at_call 11; refine (lives_any _).mono ?_; rintro e w5 ⟨rfl, hb⟩; replace HB := Lib.hid (HB.out.trans (hb.mono HB.out.size)); clear hb))
  go_ret
  exact ⟨rfl, HB.out⟩
set_option maxHeartbeats 8000000 in
theorem walk (s0 : Cs.St) (a1 : Int) (a2 : Int) (w1 : (Lit.int .i64 a1).wf = true) (w2 : (Lit.int .i64 a2).wf = true) (w : World) :
    Calls Try.prog 8 #[.agg (Cs.cells s0), .int .i64 a1, .int .i64 a2] w fun e w' => e = .returned (.bool true) ∧ Below w.heap.size w w' := by
  by_cases g1 : a1 < 0
  · go_enter Try.func8, Try.ntmps8
    go_wp2_with (first | (go_at_call 11; refine (lives_any _).mono ?_; rintro e w1 ⟨rfl, hb⟩; have HZ := Lib.hid hb; clear hb))
    go_ret
    exact ⟨rfl, ((Below.refl w.heap.size w).alloc (Nat.le_refl _) _).trans (HZ.out.mono (by simp))⟩
  by_cases g2 : 7 < a1
  · go_enter Try.func8, Try.ntmps8
    go_wp2_with (first | (go_at_call 11; refine (lives_any _).mono ?_; rintro e w1 ⟨rfl, hb⟩; have HZ := Lib.hid hb; clear hb))
    go_ret
    exact ⟨rfl, ((Below.refl w.heap.size w).alloc (Nat.le_refl _) _).trans (HZ.out.mono (by simp))⟩
  by_cases g3 : a2 < 0
  · go_enter Try.func8, Try.ntmps8
    go_wp2_with (first | (go_at_call 11; refine (lives_any _).mono ?_; rintro e w1 ⟨rfl, hb⟩; have HZ := Lib.hid hb; clear hb))
    go_ret
    exact ⟨rfl, ((Below.refl w.heap.size w).alloc (Nat.le_refl _) _).trans (HZ.out.mono (by simp))⟩
  by_cases g4 : 7 < a2
  · go_enter Try.func8, Try.ntmps8
    go_wp2_with (first | (go_at_call 11; refine (lives_any _).mono ?_; rintro e w1 ⟨rfl, hb⟩; have HZ := Lib.hid hb; clear hb))
    go_ret
    exact ⟨rfl, ((Below.refl w.heap.size w).alloc (Nat.le_refl _) _).trans (HZ.out.mono (by simp))⟩
  obtain ⟨n, rfl⟩ := Int.eq_ofNat_of_zero_le (show 0 ≤ a1 by omega)
  obtain ⟨m, rfl⟩ := Int.eq_ofNat_of_zero_le (show 0 ≤ a2 by omega)
  exact cmp_in s0 n m (by omega) (by omega) w

set_option maxRecDepth 100000 in
theorem lifted (os : Os) (started : os.Started) (H : Type) (enc : TypeId × Value → H) :
    ReturnsInHanded {} Try.checked os 8 .any (Rows.cpuComparesSpec.pre6 enc Try.prog Try.f8 Rows.cpuComparesRow.domain false) (Rows.cpuComparesSpec.post enc Try.prog Try.f8 false true false false) := by
  refine returnsInHanded_of_change (C := Try.checked) own started (by kernel_rfl) Try.func8
    (ChangeSpec.witness6 (enc := enc) (C := Try.checked) false ⟨#[], #[.agg #[.int .i64 0, .int .i64 0, .int .i64 0, .int .i64 0, .int .i64 0, .int .i64 0, .int .i64 0, .int .i64 0, .int .i64 0, .int .i64 0, .int .i64 0, .int .i64 0, .int .i64 0, .int .i64 0, .int .i64 0, .int .i64 0, .bool false, .bool false, .bool false, .bool false], .int .i64 0, .int .i64 0], []⟩ 8 (by kernel_rfl) (by kernel_rfl) (by kernel_rfl) (by kernel_rfl)) ?_
  intro W base args ds gs before hval0 hW hcnd _
  have hval : ∀ (j : Nat) t v, Try.f8.params[j]? = some t → args[j]? = some v → Value.okWide Try.prog W .any base t v := hval0
  have hW' := hW
  obtain ⟨p, q, hA0, hV, rfl, hfz, hnd⟩ := hW
  have hA : DataW.TrodAll enc Try.prog W 0 (fun _ => true) true Try.f8.params.toList args.toList ds p := hA0
  rw [Try.params8] at hA hval
  obtain ⟨v0, vs0, d0, ds0, p0, q0, hargs, rfl, rfl, h0, r0⟩ := trodAll_cons hA
  obtain ⟨v1, vs1, d1, ds1, p1, q1, rfl, rfl, rfl, h1, r1⟩ := trodAll_cons r0
  obtain ⟨v2, vs2, d2, ds2, p2, q2, rfl, rfl, rfl, h2, r2⟩ := trodAll_cons r1
  obtain ⟨rfl, rfl, rfl⟩ := trodAll_nil r2
  obtain rfl : args = #[v0, v1, v2] := by cases args; simp_all
  obtain ⟨rfl, rfl⟩ := trodVars_none hV
  have k0 := h0
  have lt0 : ∀ x ∈ p0, x.block < W.heap.size := by obtain ⟨m, hm⟩ := k0; exact DataW.trod_lt m _ _ _ hm
  obtain ⟨s0, rfl⟩ := open_state (hval 0 24 v0 rfl rfl) h0
  obtain ⟨a1, rfl, rfl, rfl, w1⟩ := open_int Try.underlying3 (hval 1 3 v1 rfl rfl) h1
  obtain ⟨a2, rfl, rfl, rfl, w2⟩ := open_int Try.underlying3 (hval 2 3 v2 rfl rfl) h2
  clear hA0 hval0
  refine (walk s0 a1 a2 w1 w2 W).mono fun e W' ⟨he, bel⟩ => ?_
  subst he
  exact ⟨_, rfl, _, _, _, [], _, [], hW', trodAll_mk1 (shut_bool Try.underlying4 _), (trodAll_cons_mk (Below.trod laidOut (by kernel_rfl) (of_decide_eq_true (by kernel_rfl)) k0 bel lt0) (trodAll_cons_mk (shut_int Try.underlying3 w1) (trodAll_cons_mk (shut_int Try.underlying3 w2) trodAll_mk0))), rfl, bel.frame _, fun h => by cases h⟩

theorem over : Rows.cpuComparesRow.holds Try.pinned (OpenSpec.ofChange Rows.cpuComparesSpec) :=
  OpenClaim.holds_of_wide 8 Try.f8 rfl rfl rfl rfl rfl rfl rfl ⟨rfl, rfl, rfl, rfl, rfl⟩ rfl rfl rfl rfl rfl (by kernel_rfl) Try.func8 (by kernel_rfl)
    (of_decide_eq_true (by kernel_rfl)) (by unfold Func.isWrapper; first | (rw [if_pos (by decide +kernel)]; kernel_rfl) | (rw [if_neg (by decide +kernel)]; exact ⟨rfl, rfl⟩))
    (fun os started H enc _ => lifted os started H enc)

/-- the statement -/
theorem proved : Rows.CpuComparesSaid := over
#print axioms proved
end Go.Proofs.Ytennhpfhgbmnfaa.cpuCompares
