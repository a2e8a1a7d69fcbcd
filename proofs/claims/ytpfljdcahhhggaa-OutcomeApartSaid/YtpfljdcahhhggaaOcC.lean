/-
  Package memmap: what whole, has, Check and Rail return, and the document's Check.
-/
import Derived.Deep.Slices
import Derived.Lib.Hide
import Derived.WalkKit
import Derived.ProofKit
import Derived.OwnWalk
import Derived.Below
import Derived.LoopN
import Derived.Laws.Cover1
import Derived.Handy
import Derived.Deep.RegionHeld3
import Derived.Deep.QuietTactic
import Derived.Test.YtpfljdcahhhggaaRows
import Derived.Test.YtpfljdcahhhggaaMemM
namespace Go.Proofs.Ytpfljdcahhhggaa
open Go.ChangeShapes Go.WideShapes Go.ChangeAt Go.RowKit
set_option linter.unusedVariables false

theorem ret_bool {a b : Bool} (h : a = b) : Ending.returned (.bool a) = .returned (.bool b) := by rw [h]
set_option maxHeartbeats 4000000 in
theorem whole_any (n : Int) (w : World) :
    Calls Try.prog 21 #[.int .i64 n] w fun e w' => e = .returned (.bool (Mm.whole n)) ∧ w' = w := by
  by_cases h0 : (0 : Int) ≤ n
  · have e : (n % 4 == 0) = Mm.whole n := by unfold Mm.whole; rw [decide_eq_true h0, Bool.true_and]
    have He := Lib.hid e
    clear e
    go_enter Try.func21, Try.ntmps21
    go_wp2
    go_ret
    exact ⟨ret_bool He.out, rfl⟩
  · have e : false = Mm.whole n := by unfold Mm.whole; rw [decide_eq_false h0, Bool.false_and]
    have He := Lib.hid e
    clear e
    go_enter Try.func21, Try.ntmps21
    go_wp2
    go_ret
    exact ⟨ret_bool He.out, rfl⟩
theorem Mm.w64 {n : Int} (h : -9223372036854775808 ≤ n) (h' : n ≤ 9223372036854775807) : wrap64 n = n := by unfold wrap64; omega
def Mm.mx (i o r : Int) : Int := if r > (if o > i then o else i) then r else (if o > i then o else i)
def Mm.mn (i o r f : Int) : Int := if f < (if r < (if o < i then o else i) then r else (if o < i then o else i)) then f else (if r < (if o < i then o else i) then r else (if o < i then o else i))
theorem Mm.mx_le (i o r : Int) : ¬ (65536 < Mm.mx i o r) ↔ (i ≤ 65536 ∧ o ≤ 65536 ∧ r ≤ 65536) := by
  unfold Mm.mx; split <;> split <;> omega
theorem Mm.mn_neg (i o r f : Int) : Mm.mn i o r f < 0 ↔ (i < 0 ∨ o < 0 ∨ r < 0 ∨ f < 0) := by
  unfold Mm.mn; repeat' split
  all_goals omega
theorem run_max3 {P : Program} (ts : Array TypeId) (t : TypeId) (i o r m : Int) (h : Mm.mx i o r = m) (w : World) : (Builtin.max_ ts t #[.int .i64 i, .int .i64 o, .int .i64 r]).run P w = .ok (.int .i64 m) w := by
  rw [run_max_int3, ← h]; rfl
theorem run_min4 {P : Program} (ts : Array TypeId) (t : TypeId) (i o r f m : Int) (h : Mm.mn i o r f = m) (w : World) : (Builtin.min_ ts t #[.int .i64 i, .int .i64 o, .int .i64 r, .int .i64 f]).run P w = .ok (.int .i64 m) w := by
  rw [← h]; simp [Builtin.min_, Builtin.min2, Mm.mn]
theorem Mm.err_ok {i o r f : Int} (h1 : Mm.whole i = true) (h2 : Mm.whole o = true) (h3 : Mm.whole r = true) (h4 : 0 ≤ f) (h5 : 4 ≤ r) : Mm.err i o r f = if i ≤ 65536 ∧ o ≤ 65536 ∧ r ≤ 65536 ∧ f ≤ 262144 then 0 else 5 := by
  unfold Mm.err; rw [h1, h2, h3, decide_eq_true h4, decide_eq_true h5]; rfl
set_option maxHeartbeats 8000000 in
set_option maxRecDepth 100000 in
theorem check_any (i o r f : Int) (w : World) :
    Calls Try.prog 18 #[.agg #[.int .i64 i, .int .i64 o, .int .i64 r], .int .i64 f] w fun e w' => e = .returned (.int .i64 (Mm.err i o r f)) ∧ Below w.heap.size w w' := by
  obtain ⟨m, hm⟩ : ∃ m, Mm.mx i o r = m := ⟨_, rfl⟩
  have hM := fun (w : World) => run_max3 (P := Try.prog) #[3, 3, 3] 3 i o r m hm w
  have hle := Mm.mx_le i o r
  rw [hm] at hle
  have HL := Lib.hid hle
  clear hle hm
  cases h1 : Mm.whole i with
  | false =>
    have HE : Hid (Mm.err i o r f = 2) := Lib.hid (by unfold Mm.err; rw [h1]; rfl)
    rw [HE.out]
    clear HE
    go_enter Try.func18, Try.ntmps18
    go_wp2_with (go_at_call 21; refine (whole_any _ _).mono ?_; rintro e w1 ⟨rfl, rfl⟩)
    go_ret
    exact ⟨rfl, by go_grown⟩
  | true =>
    cases h2 : Mm.whole o with
    | false =>
      have HE : Hid (Mm.err i o r f = 2) := Lib.hid (by unfold Mm.err; rw [h1, h2]; rfl)
      rw [HE.out]
      clear HE
      go_enter Try.func18, Try.ntmps18
      go_wp2_with (go_at_call 21; refine (whole_any _ _).mono ?_; rintro e w1 ⟨rfl, rfl⟩)
      go_ret
      exact ⟨rfl, by go_grown⟩
    | true =>
      cases h3 : Mm.whole r with
      | false =>
        have HE : Hid (Mm.err i o r f = 2) := Lib.hid (by unfold Mm.err; rw [h1, h2, h3]; rfl)
        rw [HE.out]
        clear HE
        go_enter Try.func18, Try.ntmps18
        go_wp2_with (go_at_call 21; refine (whole_any _ _).mono ?_; rintro e w1 ⟨rfl, rfl⟩)
        go_ret
        exact ⟨rfl, by go_grown⟩
      | true =>
        by_cases h4 : f < 0
        · have HE : Hid (Mm.err i o r f = 2) := Lib.hid (by unfold Mm.err; rw [h1, h2, h3, decide_eq_false (by omega : ¬ 0 ≤ f)]; rfl)
          rw [HE.out]
          clear HE
          go_enter Try.func18, Try.ntmps18
          go_wp2_with (go_at_call 21; refine (whole_any _ _).mono ?_; rintro e w1 ⟨rfl, rfl⟩)
          go_ret
          exact ⟨rfl, by go_grown⟩
        · by_cases h5 : r < 4
          · have HE : Hid (Mm.err i o r f = 2) := Lib.hid (by unfold Mm.err; rw [h1, h2, h3, decide_eq_true (by omega : 0 ≤ f), decide_eq_false (by omega : ¬ 4 ≤ r)]; rfl)
            rw [HE.out]
            clear HE
            go_enter Try.func18, Try.ntmps18
            go_wp2_with (go_at_call 21; refine (whole_any _ _).mono ?_; rintro e w1 ⟨rfl, rfl⟩)
            go_ret
            exact ⟨rfl, by go_grown⟩
          · by_cases h6 : 65536 < m
            · have HE : Hid (Mm.err i o r f = 5) := Lib.hid (by rw [Mm.err_ok h1 h2 h3 (by omega) (by omega), if_neg (fun h => (HL.out.2 ⟨h.1, h.2.1, h.2.2.1⟩) h6)])
              rw [HE.out]
              clear HE
              go_enter Try.func18, Try.ntmps18
              go_wp2_with (go_at_call 21; refine (whole_any _ _).mono ?_; rintro e w1 ⟨rfl, rfl⟩)
              go_ret
              exact ⟨rfl, by go_grown⟩
            · by_cases h7 : 262144 < f
              · have HE : Hid (Mm.err i o r f = 5) := Lib.hid (by rw [Mm.err_ok h1 h2 h3 (by omega) (by omega), if_neg (fun h => absurd h7 (by omega))])
                rw [HE.out]
                clear HE
                go_enter Try.func18, Try.ntmps18
                go_wp2_with (go_at_call 21; refine (whole_any _ _).mono ?_; rintro e w1 ⟨rfl, rfl⟩)
                go_ret
                exact ⟨rfl, by go_grown⟩
              · have HE : Hid (Mm.err i o r f = 0) := Lib.hid (by rw [Mm.err_ok h1 h2 h3 (by omega) (by omega), if_pos (by have := HL.out.1 h6; omega)])
                rw [HE.out]
                clear HE
                go_enter Try.func18, Try.ntmps18
                go_wp2_with (go_at_call 21; refine (whole_any _ _).mono ?_; rintro e w1 ⟨rfl, rfl⟩)
                go_ret
                exact ⟨rfl, by go_grown⟩
theorem Mm.whole_t {n : Int} (h : 0 ≤ n) (g : n % 4 = 0) : Mm.whole n = true := by unfold Mm.whole; rw [decide_eq_true h, g]; rfl
theorem Mm.whole_f {n : Int} (g : ¬ n % 4 = 0) : Mm.whole n = false := by unfold Mm.whole; rw [show (n % 4 == 0) = false by simpa using g, Bool.and_false]
theorem Mm.whole_n {n : Int} (h : n < 0) : Mm.whole n = false := by unfold Mm.whole; rw [decide_eq_false (by omega), Bool.false_and]
theorem Mm.err_neg {i o r f : Int} (h : i < 0 ∨ o < 0 ∨ r < 4 ∨ f < 0) : Mm.err i o r f = 2 := by
  unfold Mm.err
  rcases h with h | h | h | h
  · rw [Mm.whole_n h]; rfl
  · rw [Mm.whole_n h, Bool.and_false]; rfl
  · rw [decide_eq_false (by omega : ¬ 4 ≤ r), Bool.and_false]; rfl
  · rw [decide_eq_false (by omega : ¬ 0 ≤ f), Bool.and_false]; rfl
theorem Mm.bd {r : Int} (h : (Lit.int .i64 r).wf = true) : -9223372036854775808 ≤ r ∧ r ≤ 9223372036854775807 := by
  simp [Lit.wf, IntKind.min, IntKind.max, IntKind.signed, IntKind.bits] at h
  exact h
theorem Mm.w4 (r : Int) (h : (Lit.int .i64 r).wf = true) : wrap64 (r - 4) < 0 → r < 4 := by
  obtain ⟨h1, h2⟩ := Mm.bd h
  intro hw
  apply Int.lt_of_not_ge
  intro hge
  rw [Mm.w64 (by omega) (by omega)] at hw
  omega
set_option maxHeartbeats 8000000 in
set_option maxRecDepth 100000 in
theorem rcheck_any (i o r f : Int) (w : World) (wr : (Lit.int .i64 r).wf = true) :
    Calls Try.prog 19 #[.agg #[.int .i64 i, .int .i64 o, .int .i64 r], .int .i64 f] w fun e w' => e = .returned (.int .i64 (Mm.err i o r f)) ∧ Below w.heap.size w w' := by
  obtain ⟨m, hm⟩ : ∃ m, Mm.mx i o r = m := ⟨_, rfl⟩
  have hM := fun (w : World) => run_max3 (P := Try.prog) #[3, 3, 3] 3 i o r m hm w
  have hle := Mm.mx_le i o r
  rw [hm] at hle
  have HL := Lib.hid hle
  clear hle hm
  obtain ⟨l, hl⟩ : ∃ l, Mm.mn i o (wrap64 (r - 4)) f = l := ⟨_, rfl⟩
  have hN := fun (w : World) => run_min4 (P := Try.prog) #[3, 3, 3, 3] 3 i o (wrap64 (r - 4)) f l hl w
  have hng := Mm.mn_neg i o (wrap64 (r - 4)) f
  rw [hl] at hng
  have HN := Lib.hid hng
  clear hng hl
  have HW := Lib.hid (Mm.w4 r wr)
  clear wr
  by_cases g0 : l < 0
  · have HE : Hid (Mm.err i o r f = 2) := Lib.hid (by exact Mm.err_neg (by have h := HN.out.1 g0; have g := HW.out; omega))
    rw [HE.out]
    clear HE
    go_enter Try.func19, Try.ntmps19
    go_wp2
    go_ret
    exact ⟨rfl, by go_grown⟩
  · by_cases g1 : r < 4
    · have HE : Hid (Mm.err i o r f = 2) := Lib.hid (by exact Mm.err_neg (by omega))
      rw [HE.out]
      clear HE
      go_enter Try.func19, Try.ntmps19
      go_wp2
      go_ret
      exact ⟨rfl, by go_grown⟩
    · have HP : Hid (0 ≤ i ∧ 0 ≤ o ∧ 0 ≤ f) := Lib.hid (by have h : ¬ (i < 0 ∨ o < 0 ∨ wrap64 (r - 4) < 0 ∨ f < 0) := fun x => g0 (HN.out.2 x); omega)
      have p1 := HP.out.1
      have p2 := HP.out.2.1
      have p3 := HP.out.2.2
      have p4 : 0 ≤ r := by omega
      by_cases g2 : i % 4 = 0
      · by_cases g3 : o % 4 = 0
        · by_cases g4 : r % 4 = 0
          · have HX : Hid (Mm.err i o r f = if i ≤ 65536 ∧ o ≤ 65536 ∧ r ≤ 65536 ∧ f ≤ 262144 then 0 else 5) := Lib.hid (Mm.err_ok (Mm.whole_t p1 g2) (Mm.whole_t p2 g3) (Mm.whole_t p4 g4) p3 (by omega))
            by_cases h6 : 65536 < m
            · have HE : Hid (Mm.err i o r f = 5) := Lib.hid (by rw [HX.out, if_neg (fun h => (HL.out.2 ⟨h.1, h.2.1, h.2.2.1⟩) h6)])
              rw [HE.out]
              clear HE
              go_enter Try.func19, Try.ntmps19
              go_wp2
              go_ret
              exact ⟨rfl, by go_grown⟩
            · by_cases h7 : 262144 < f
              · have HE : Hid (Mm.err i o r f = 5) := Lib.hid (by rw [HX.out, if_neg (fun h => absurd h7 (by omega))])
                rw [HE.out]
                clear HE
                go_enter Try.func19, Try.ntmps19
                go_wp2
                go_ret
                exact ⟨rfl, by go_grown⟩
              · have HE : Hid (Mm.err i o r f = 0) := Lib.hid (by rw [HX.out, if_pos (by have := HL.out.1 h6; omega)])
                rw [HE.out]
                clear HE
                go_enter Try.func19, Try.ntmps19
                go_wp2
                go_ret
                exact ⟨rfl, by go_grown⟩
          · have HE : Hid (Mm.err i o r f = 2) := Lib.hid (by unfold Mm.err; rw [Mm.whole_f (n := r) g4, Bool.and_false]; rfl)
            rw [HE.out]
            clear HE
            go_enter Try.func19, Try.ntmps19
            go_wp2
            go_ret
            exact ⟨rfl, by go_grown⟩
        · have HE : Hid (Mm.err i o r f = 2) := Lib.hid (by unfold Mm.err; rw [Mm.whole_f (n := o) g3, Bool.and_false]; rfl)
          rw [HE.out]
          clear HE
          go_enter Try.func19, Try.ntmps19
          go_wp2
          go_ret
          exact ⟨rfl, by go_grown⟩
      · have HE : Hid (Mm.err i o r f = 2) := Lib.hid (by unfold Mm.err; rw [Mm.whole_f (n := i) g2]; rfl)
        rw [HE.out]
        clear HE
        go_enter Try.func19, Try.ntmps19
        go_wp2
        go_ret
        exact ⟨rfl, by go_grown⟩
end Go.Proofs.Ytpfljdcahhhggaa
