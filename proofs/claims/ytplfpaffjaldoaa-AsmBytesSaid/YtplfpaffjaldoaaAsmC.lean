/-
  Package asm: what none, and slices.ContainsFunc of it, return.
-/
import Derived.Test.YtplfpaffjaldoaaAsmB
namespace Go.Proofs.Ytplfpaffjaldoaa
open Go.ChangeShapes Go.WideShapes Go.ChangeAt Go.RowKit
set_option linter.unusedVariables false

/-- is an item none? -/
def As.none' (kind op cond : Int) : Bool :=
  if kind == 0 || kind == 1 then false else if kind == 2 then (if op == 24 || op == 25 then Th.check ⟨op, 0, 0, 0, 0, 0, cond, false⟩ != 0 else true) else true
theorem check_lit (op rd rn rm ra imm cond : Int) (wide : Bool) (n : Int) (w : World) (h : Hid (Th.check ⟨op, rd, rn, rm, ra, imm, cond, wide⟩ = n)) :
    Calls Try.prog 28 #[.agg #[.int .i64 op, .int .i64 rd, .int .i64 rn, .int .i64 rm, .int .i64 ra, .int .i64 imm, .int .i64 cond, .bool wide]] w fun e w' => e = .returned (.int .i64 n) ∧ Below w.heap.size w w' := by
  have := check_any op rd rn rm ra imm cond wide w
  rw [h.out] at this
  exact this
set_option maxHeartbeats 4000000 in
set_option maxRecDepth 100000 in
theorem none_branch (op : Int) (label rd rn rm ra imm cond : Int) (wide : Bool) (w : World) (ho : op = 24 ∨ op = 25) :
    Calls Try.prog 32 #[.agg #[.int .i64 2, .int .i64 label, .int .i64 op, .int .i64 rd, .int .i64 rn, .int .i64 rm, .int .i64 ra, .int .i64 imm, .int .i64 cond, .bool wide]] w fun e w' => e = .returned (.bool (Th.check ⟨op, 0, 0, 0, 0, 0, cond, false⟩ != 0)) ∧ Below w.heap.size w w' := by
  obtain ⟨E, hE⟩ : ∃ E, Th.check ⟨op, 0, 0, 0, 0, 0, cond, false⟩ = E := ⟨_, rfl⟩
  have HE := Lib.hid hE
  rw [hE]
  clear hE
  rcases ho with rfl | rfl
  all_goals
    go_enter Try.func32, Try.ntmps32
    go_wp2_with (first | (go_at_call 36; refine (abranch_any _ _ _ _ _ _ _ _ _ _ _ _ _).mono ?_; rintro e w1 ⟨rfl, hb1⟩; have hz1 := hb1.size; simp at hz1) | (go_at_call 28; refine (check_lit _ _ _ _ _ _ _ _ _ _ HE).mono ?_; rintro e w2 ⟨rfl, hb2⟩))
    go_ret
    exact ⟨rfl, (((Below.refl _ _).alloc (Nat.le_refl _) _).trans (hb1.mono (by simp))).trans (hb2.mono (by omega))⟩
set_option maxHeartbeats 4000000 in
set_option maxRecDepth 100000 in
theorem anone_any (kind label op rd rn rm ra imm cond : Int) (wide : Bool) (w : World) :
    Calls Try.prog 32 #[.agg #[.int .i64 kind, .int .i64 label, .int .i64 op, .int .i64 rd, .int .i64 rn, .int .i64 rm, .int .i64 ra, .int .i64 imm, .int .i64 cond, .bool wide]] w fun e w' => e = .returned (.bool (As.none' kind op cond)) ∧ Below w.heap.size w w' := by
  by_cases h0 : kind = 0
  · subst h0
    rw [show As.none' 0 op cond = false from rfl]
    go_enter Try.func32, Try.ntmps32
    go_wp2
    go_ret
    exact ⟨rfl, by go_grown⟩
  · by_cases h1 : kind = 1
    · subst h1
      rw [show As.none' 1 op cond = false from rfl]
      go_enter Try.func32, Try.ntmps32
      go_wp2
      go_ret
      exact ⟨rfl, by go_grown⟩
    · by_cases h2 : kind = 2
      · subst h2
        by_cases ho : op = 24 ∨ op = 25
        · rw [show As.none' 2 op cond = (Th.check ⟨op, 0, 0, 0, 0, 0, cond, false⟩ != 0) by rcases ho with rfl | rfl <;> rfl]
          exact none_branch op label rd rn rm ra imm cond wide w ho
        · have q1 : (op != 24) = true := by simp; omega
          have q2 : (op != 25) = true := by simp; omega
          have q3 : (op == 24) = false := by simp; omega
          have q4 : (op == 25) = false := by simp; omega
          rw [show As.none' 2 op cond = true by unfold As.none'; rw [q3, q4]; rfl]
          clear q3 q4 ho
          go_enter Try.func32, Try.ntmps32
          go_wp2
          go_ret
          exact ⟨rfl, by go_grown⟩
      · have q0 : (kind == 0) = false := by simpa using h0
        have q1 : (kind == 1) = false := by simpa using h1
        have q2 : (kind == 2) = false := by simpa using h2
        rw [show As.none' kind op cond = true by unfold As.none'; rw [q0, q1, q2]; rfl]
        go_enter Try.func32, Try.ntmps32
        go_wp2
        go_ret
        exact ⟨rfl, by go_grown⟩
def As.nn (x : As.It) : Bool := As.none' x.kind x.ins.op x.ins.cond
theorem any_take {α : Type} (f : α → Bool) (L : List α) (k : Nat) (hk : k < L.length) : (L.take (k + 1)).any f = ((L.take k).any f || f L[k]) := by
  rw [List.take_add_one, List.getElem?_eq_getElem hk, List.any_append]
  simp
theorem any_le {α : Type} (f : α → Bool) (L : List α) (k : Nat) (h : (L.take k).any f = true) : L.any f = true := by
  rw [← List.take_append_drop k L, List.any_append, h, Bool.true_or]
set_option maxHeartbeats 8000000 in
set_option maxRecDepth 100000 in
theorem index_any (pl : Option Addr) (cl n : Nat) (L : List As.It) (w : World) (hn : Hid (L.length = n)) (hb : n ≤ 1000000) (hL : Hid (SliceC itC 10 w (.slice pl n cl) L)) :
    Calls Try.prog 53 #[.slice pl n cl, .func (.func 32) #[] #[]] w fun e w' => ∃ r : Int, e = .returned (.int .i64 r) ∧ decide (0 ≤ r) = L.any As.nn ∧ Below w.heap.size w w' := by
  go_enter Try.func53, Try.ntmps53
  go_wp2
  go_loopw [8] (fun K wr => ∃ k : Nat, K = .int .i64 (k : Int) ∧ k ≤ n ∧ (L.take k).any As.nn = false ∧ Below w.heap.size w wr) (fun K _ => n - (intOf K).toNat)
  case atStart => exact ⟨0, rfl, Nat.zero_le _, rfl, Below.refl _ _⟩
  case round =>
    obtain ⟨k, rfl, hk, hA, hB⟩ := hrel
    by_cases hlt : k < n
    · have hkL : k < L.length := by rw [hn.out]; exact hlt
      have hlt' : (k : Int) < (n : Int) := by omega
      have hk0 : (0 : Int) ≤ (k : Int) := by omega
      have hstep := any_take As.nn L k hkL
      rw [hA, Bool.false_or] at hstep
      have hup := any_le As.nn L (k + 1)
      obtain ⟨p', c', e', hat⟩ := hL.out.kept hB
      obtain ⟨a, hpa, hOn⟩ := hat k hkL
      injection e' with ep en ec
      rw [hpa] at ep
      subst ep
      rcases hx : L[k] with ⟨kind, label, ⟨op, rd, rn, rm, ra, imm, cond, wide⟩⟩
      rw [hx] at hOn hstep
      obtain ⟨x0, x1, x2, x3, x4, x5, x6, x7, x8, x9⟩ := ItAt.of hOn
      obtain ⟨bv, hbv⟩ : ∃ bv, As.none' kind op cond = bv := ⟨_, rfl⟩
      have hs2 : (L.take (k + 1)).any As.nn = bv := by rw [hstep, ← hbv]; rfl
      have HS2 := Lib.hid hs2
      have HUP := Lib.hid hup
      have HZ : Hid (∀ w : World, Calls Try.prog 32 #[.agg #[.int .i64 kind, .int .i64 label, .int .i64 op, .int .i64 rd, .int .i64 rn, .int .i64 rm, .int .i64 ra, .int .i64 imm, .int .i64 cond, .bool wide]] w fun e w' => e = .returned (.bool bv) ∧ Below w.heap.size w w') := Lib.hid fun w => by rw [← hbv]; exact anone_any kind label op rd rn rm ra imm cond wide w
      clear hOn hat hpa ec en hx hbv hstep hs2 hup
      cases bv with
      | true =>
        go_wp2_with (go_at_call 32; refine (HZ.out _).mono ?_; rintro e w4 ⟨rfl, hb4⟩)
        go_ret
        exact ⟨_, rfl, by rw [HUP.out HS2.out]; simp, hB.trans (hb4.mono hB.size)⟩
      | false =>
        go_wp2_with (go_at_call 32; refine (HZ.out _).mono ?_; rintro e w4 ⟨rfl, hb4⟩)
        exact ⟨⟨k + 1, by simp, by omega, HS2.out, hB.trans (hb4.mono hB.size)⟩, by simp [intOf]; omega⟩
    · have hge : ¬ (k : Int) < (n : Int) := by omega
      obtain rfl : k = n := by omega
      have hall : L.any As.nn = false := by rw [← hn.out, List.take_length] at hA; exact hA
      have HALL := Lib.hid hall
      clear hA hall
      go_wp2
      go_ret
      exact ⟨_, rfl, by rw [HALL.out]; rfl, hB⟩
set_option maxHeartbeats 4000000 in
theorem contains_any (pl : Option Addr) (cl n : Nat) (L : List As.It) (bv : Bool) (w : World) (hn : Hid (L.length = n)) (hb : n ≤ 1000000) (hL : Hid (SliceC itC 10 w (.slice pl n cl) L)) (hbv : Hid (L.any As.nn = bv)) :
    Calls Try.prog 31 #[.slice pl n cl, .func (.func 32) #[] #[]] w fun e w' => e = .returned (.bool bv) ∧ Below w.heap.size w w' := by
  go_enter Try.func31, Try.ntmps31
  go_wp2_with (go_at_call 53; refine (index_any pl cl n L _ hn hb hL).mono ?_; rintro e w4 ⟨r, rfl, hr, hb4⟩; have HR := Lib.hid hr; clear hr)
  go_ret
  exact ⟨congrArg (fun b => Ending.returned (.bool b)) (HR.out.trans hbv.out), hb4⟩
end Go.Proofs.Ytplfpaffjaldoaa
