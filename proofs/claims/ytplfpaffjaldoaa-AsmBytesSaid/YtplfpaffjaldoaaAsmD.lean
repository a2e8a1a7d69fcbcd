/-
  Package asm: what check returns.
-/
import Derived.Test.YtplfpaffjaldoaaAsmC
namespace Go.Proofs.Ytplfpaffjaldoaa
open Go.ChangeShapes Go.WideShapes Go.ChangeAt Go.RowKit
set_option linter.unusedVariables false

/-- the first instruction's error -/
def As.bad : List As.It → Int
  | [] => 0
  | x :: l => if x.kind == 0 then (if Th.check x.ins == 0 then As.bad l else Th.check x.ins) else As.bad l
def As.check (L : List As.It) (base : Int) : Int := if decide (base < 0) || decide (262144 < base) || base % 2 != 0 || L.any As.nn then 2 else As.bad L
theorem bad_drop (L : List As.It) (k : Nat) (hk : k < L.length) : As.bad (L.drop k) = if L[k].kind == 0 then (if Th.check L[k].ins == 0 then As.bad (L.drop (k + 1)) else Th.check L[k].ins) else As.bad (L.drop (k + 1)) := by
  rw [List.drop_eq_getElem_cons hk, As.bad]
set_option maxHeartbeats 8000000 in
set_option maxRecDepth 100000 in
theorem acheck_neg (pl : Option Addr) (cl n : Nat) (L : List As.It) (base : Int) (w : World) (hn : Hid (L.length = n)) (hb : n ≤ 1000000) (hL : Hid (SliceC itC 10 w (.slice pl n cl) L)) (h : base < 0) :
    Calls Try.prog 15 #[.slice pl n cl, .int .i64 base] w fun e w' => e = .returned (.int .i64 2) ∧ Below w.heap.size w w' := by
  go_enter Try.func15, Try.ntmps15
  go_wp2
  go_ret
  exact ⟨rfl, Below.refl _ _⟩
set_option maxHeartbeats 8000000 in
set_option maxRecDepth 100000 in
theorem acheck_big (pl : Option Addr) (cl n : Nat) (L : List As.It) (base : Int) (w : World) (hn : Hid (L.length = n)) (hb : n ≤ 1000000) (hL : Hid (SliceC itC 10 w (.slice pl n cl) L)) (h : 262144 < base) :
    Calls Try.prog 15 #[.slice pl n cl, .int .i64 base] w fun e w' => e = .returned (.int .i64 2) ∧ Below w.heap.size w w' := by
  have h0 : ¬ base < 0 := by omega
  go_enter Try.func15, Try.ntmps15
  go_wp2
  go_ret
  exact ⟨rfl, Below.refl _ _⟩
set_option maxHeartbeats 8000000 in
set_option maxRecDepth 100000 in
theorem acheck_odd (pl : Option Addr) (cl n : Nat) (L : List As.It) (base : Int) (w : World) (hn : Hid (L.length = n)) (hb : n ≤ 1000000) (hL : Hid (SliceC itC 10 w (.slice pl n cl) L)) (h : 0 ≤ base ∧ base ≤ 262144) (ho : (base % 2 != 0) = true) :
    Calls Try.prog 15 #[.slice pl n cl, .int .i64 base] w fun e w' => e = .returned (.int .i64 2) ∧ Below w.heap.size w w' := by
  have h0 : ¬ base < 0 := by omega
  have h1 : ¬ 262144 < base := by omega
  have htm : base.tmod 2 = base % 2 := Int.tmod_eq_emod_of_nonneg (by omega)
  have ho' : (base.tmod 2 != 0) = true := by rw [htm]; exact ho
  go_enter Try.func15, Try.ntmps15
  go_wp2
  go_ret
  exact ⟨rfl, Below.refl _ _⟩
set_option maxHeartbeats 8000000 in
set_option maxRecDepth 100000 in
theorem acheck_none (pl : Option Addr) (cl n : Nat) (L : List As.It) (base : Int) (w : World) (hn : Hid (L.length = n)) (hb : n ≤ 1000000) (hL : Hid (SliceC itC 10 w (.slice pl n cl) L)) (h : 0 ≤ base ∧ base ≤ 262144) (ho : (base % 2 != 0) = false) (HNN : Hid (L.any As.nn = true)) :
    Calls Try.prog 15 #[.slice pl n cl, .int .i64 base] w fun e w' => e = .returned (.int .i64 2) ∧ Below w.heap.size w w' := by
  have h0 : ¬ base < 0 := by omega
  have h1 : ¬ 262144 < base := by omega
  have htm : base.tmod 2 = base % 2 := Int.tmod_eq_emod_of_nonneg (by omega)
  have ho' : (base.tmod 2 != 0) = false := by rw [htm]; exact ho
  go_enter Try.func15, Try.ntmps15
  go_wp2_with (go_at_call 31; refine (contains_any pl cl n L _ _ hn hb hL HNN).mono ?_; rintro e w1 ⟨rfl, hb1⟩)
  go_ret
  exact ⟨rfl, hb1⟩
set_option maxHeartbeats 8000000 in
set_option maxRecDepth 100000 in
theorem acheck_all (pl : Option Addr) (cl n : Nat) (L : List As.It) (base : Int) (w : World) (hn : Hid (L.length = n)) (hb : n ≤ 1000000) (hL : Hid (SliceC itC 10 w (.slice pl n cl) L)) (h : 0 ≤ base ∧ base ≤ 262144) (ho : (base % 2 != 0) = false) (HNN : Hid (L.any As.nn = false)) (R : Int) (hR : Hid (As.bad L = R)) :
    Calls Try.prog 15 #[.slice pl n cl, .int .i64 base] w fun e w' => e = .returned (.int .i64 R) ∧ Below w.heap.size w w' := by
  have h0 : ¬ base < 0 := by omega
  have h1 : ¬ 262144 < base := by omega
  have htm : base.tmod 2 = base % 2 := Int.tmod_eq_emod_of_nonneg (by omega)
  have ho' : (base.tmod 2 != 0) = false := by rw [htm]; exact ho
  go_enter Try.func15, Try.ntmps15
  go_wp2_with (go_at_call 31; refine (contains_any pl cl n L _ _ hn hb hL HNN).mono ?_; rintro e w1 ⟨rfl, hb1⟩)
  go_loopw [25] (fun K wr => ∃ k : Nat, K = .int .i64 (k : Int) ∧ k ≤ n ∧ As.bad (L.drop k) = R ∧ Below w.heap.size w wr) (fun K _ => n - (intOf K).toNat)
  case atStart => exact ⟨0, rfl, Nat.zero_le _, hR.out, hb1⟩
  case round =>
    obtain ⟨k, rfl, hk, hA, hB⟩ := hrel
    by_cases hlt : k < n
    · have hkL : k < L.length := by rw [hn.out]; exact hlt
      have hlt' : (k : Int) < (n : Int) := by omega
      have hk0 : (0 : Int) ≤ (k : Int) := by omega
      rw [bad_drop L k hkL] at hA
      obtain ⟨p', c', e', hat⟩ := hL.out.kept hB
      obtain ⟨a, hpa, hOn⟩ := hat k hkL
      injection e' with ep en ec
      rw [hpa] at ep
      subst ep
      rcases hx : L[k] with ⟨kind, label, ⟨op, rd, rn, rm, ra, imm, cond, wide⟩⟩
      rw [hx] at hOn hA
      dsimp only at hA
      obtain ⟨x0, x1, x2, x3, x4, x5, x6, x7, x8, x9⟩ := ItAt.of hOn
      clear hOn hat hpa ec en hx
      by_cases hkd : kind = 0
      · subst hkd
        rw [if_pos (by rfl)] at hA
        obtain ⟨C, hC⟩ : ∃ C, Th.check ⟨op, rd, rn, rm, ra, imm, cond, wide⟩ = C := ⟨_, rfl⟩
        have HC := Lib.hid hC
        rw [hC] at hA
        clear hC
        by_cases hc0 : C = 0
        · subst hc0
          rw [if_pos (by rfl)] at hA
          have HA := Lib.hid hA
          clear hA
          go_wp2_with (go_at_call 28; refine (check_lit _ _ _ _ _ _ _ _ _ _ HC).mono ?_; rintro e w4 ⟨rfl, hb4⟩)
          exact ⟨⟨k + 1, by simp, by omega, HA.out, (hB.alloc hB.size _).trans (hb4.mono (by have := hB.size; simp; omega))⟩, by simp [intOf]; omega⟩
        · have hc1 : (C != 0) = true := by simpa using hc0
          rw [if_neg (by simpa using hc0)] at hA
          subst hA
          go_wp2_with (go_at_call 28; refine (check_lit _ _ _ _ _ _ _ _ _ _ HC).mono ?_; rintro e w4 ⟨rfl, hb4⟩)
          go_ret
          exact ⟨rfl, (hB.alloc hB.size _).trans (hb4.mono (by have := hB.size; simp; omega))⟩
      · have hkd1 : (kind != 0) = true := by simpa using hkd
        rw [if_neg (by simpa using hkd)] at hA
        have HA := Lib.hid hA
        clear hA
        go_wp2
        exact ⟨⟨k + 1, by simp, by omega, HA.out, hB.alloc hB.size _⟩, by simp [intOf]; omega⟩
    · have hge : ¬ (k : Int) < (n : Int) := by omega
      obtain rfl : k = n := by omega
      have hR0 : R = 0 := by rw [← hA, ← hn.out, List.drop_length]; rfl
      subst hR0
      go_wp2
      go_ret
      exact ⟨rfl, hB⟩
theorem acheck_any (pl : Option Addr) (cl n : Nat) (L : List As.It) (base : Int) (w : World) (hn : Hid (L.length = n)) (hb : n ≤ 1000000) (hL : Hid (SliceC itC 10 w (.slice pl n cl) L)) :
    Calls Try.prog 15 #[.slice pl n cl, .int .i64 base] w fun e w' => e = .returned (.int .i64 (As.check L base)) ∧ Below w.heap.size w w' := by
  by_cases h1 : base < 0
  · rw [show As.check L base = 2 by unfold As.check; rw [if_pos (by simp [h1])]]
    exact acheck_neg pl cl n L base w hn hb hL h1
  · by_cases h2 : 262144 < base
    · rw [show As.check L base = 2 by unfold As.check; rw [if_pos (by simp [h2])]]
      exact acheck_big pl cl n L base w hn hb hL h2
    · cases h3 : (base % 2 != 0) with
      | true =>
        rw [show As.check L base = 2 by unfold As.check; rw [if_pos (by rw [h3]; simp)]]
        exact acheck_odd pl cl n L base w hn hb hL ⟨by omega, by omega⟩ h3
      | false =>
        cases h4 : L.any As.nn with
        | true =>
          rw [show As.check L base = 2 by unfold As.check; rw [if_pos (by rw [h4]; simp)]]
          exact acheck_none pl cl n L base w hn hb hL ⟨by omega, by omega⟩ h3 (Lib.hid h4)
        | false =>
          rw [show As.check L base = As.bad L by unfold As.check; rw [if_neg (by rw [h3, h4]; simp; omega)]]
          exact acheck_all pl cl n L base w hn hb hL ⟨by omega, by omega⟩ h3 (Lib.hid h4) _ (Lib.hid rfl)
end Go.Proofs.Ytplfpaffjaldoaa
