/-
The document's own find and may of asm.
The document's own size of asm.
-/
import Derived.Test.YtplfpaffjaldoaaAsmE
import Derived.Test.YtplfpaffjaldoaaThumbX
section
namespace Go.Proofs.Ytplfpaffjaldoaa
open Go.ChangeShapes Go.WideShapes Go.ChangeAt Go.RowKit
set_option linter.unusedVariables false

def As.may (op cond : Int) : Bool := (op == 24 && cond == 0) || (op == 25 && decide (0 ≤ cond) && decide (cond ≤ 13))
set_option maxHeartbeats 4000000 in
set_option maxRecDepth 100000 in
theorem rmay_any (op rd rn rm ra imm cond : Int) (wide : Bool) (w : World) :
    Calls Try.prog 40 #[.agg #[.int .i64 op, .int .i64 rd, .int .i64 rn, .int .i64 rm, .int .i64 ra, .int .i64 imm, .int .i64 cond, .bool wide]] w fun e w' => e = .returned (.bool (As.may op cond)) ∧ Below w.heap.size w w' := by
  by_cases h1 : op = 24
  · subst h1
    by_cases h2 : cond = 0
    · subst h2
      rw [show As.may 24 0 = true from rfl]
      go_enter Try.func40, Try.ntmps40
      go_wp2
      go_ret
      exact ⟨rfl, by go_grown⟩
    · have q : (cond == 0) = false := by simpa using h2
      rw [show As.may 24 cond = false by unfold As.may; rw [q]; rfl]
      go_enter Try.func40, Try.ntmps40
      go_wp2
      go_ret
      exact ⟨rfl, by go_grown⟩
  · have q1 : (op == 24) = false := by simpa using h1
    by_cases h2 : op = 25
    · subst h2
      by_cases h3 : 0 ≤ cond
      · by_cases h4 : cond ≤ 13
        · rw [show As.may 25 cond = true by unfold As.may; simp [h3, h4]]
          go_enter Try.func40, Try.ntmps40
          go_wp2
          go_ret
          exact ⟨rfl, by go_grown⟩
        · rw [show As.may 25 cond = false by unfold As.may; simp [h3, h4]]
          go_enter Try.func40, Try.ntmps40
          go_wp2
          go_ret
          exact ⟨rfl, by go_grown⟩
      · rw [show As.may 25 cond = false by unfold As.may; simp [h3]]
        go_enter Try.func40, Try.ntmps40
        go_wp2
        go_ret
        exact ⟨rfl, by go_grown⟩
    · have q2 : (op == 25) = false := by simpa using h2
      rw [show As.may op cond = false by unfold As.may; rw [q1, q2]; rfl]
      go_enter Try.func40, Try.ntmps40
      go_wp2
      go_ret
      exact ⟨rfl, by go_grown⟩
def As.fndI (L : List As.It) (n : Nat) (label : Int) : Int := match As.fnd L n label with | some j => (j : Int) | none => -1
theorem fnd_le (L : List As.It) (k n : Nat) (label : Int) (j : Nat) (hkn : k ≤ n) (h : As.fnd L k label = some j) : As.fnd L n label = some j := by
  unfold As.fnd at *
  have e : L.take n = L.take k ++ (L.drop k).take (n - k) := by
    rw [← List.take_append_drop k (L.take n), List.take_take, Nat.min_eq_left hkn, List.drop_take]
  rw [e, List.findIdx?_append, h]
  rfl
set_option maxHeartbeats 8000000 in
set_option maxRecDepth 100000 in
theorem rfind_any (pl : Option Addr) (cl n : Nat) (L : List As.It) (lb : Int) (w : World) (hn : Hid (L.length = n)) (hb : n ≤ 1000000) (hL : Hid (SliceC itC 10 w (.slice pl n cl) L)) (R : Int) (hR : Hid (As.fndI L n lb = R)) :
    Calls Try.prog 42 #[.slice pl n cl, .int .i64 lb] w fun e w' => e = .returned (.int .i64 R) ∧ w' = w := by
  go_enter Try.func42, Try.ntmps42
  go_wp2
  go_loopw [5] (fun K wr => ∃ k : Nat, K = .int .i64 (k : Int) ∧ k ≤ n ∧ As.fnd L k lb = none ∧ wr = w) (fun K _ => n - (intOf K).toNat)
  case atStart => exact ⟨0, rfl, Nat.zero_le _, rfl, rfl⟩
  case round =>
    obtain ⟨k, rfl, hk, hF, rfl⟩ := hrel
    by_cases hlt : k < n
    · have hkL : k < L.length := by rw [hn.out]; exact hlt
      have hlt' : (k : Int) < (n : Int) := by omega
      have hk0 : (0 : Int) ≤ (k : Int) := by omega
      have hfs := fnd_succ L k hkL lb
      rw [hF] at hfs
      obtain ⟨p', c', e', hat⟩ := hL.out
      obtain ⟨a, hpa, hOn⟩ := hat k hkL
      injection e' with ep en ec
      rw [hpa] at ep
      subst ep
      rcases hx : L[k] with ⟨kind, label, ⟨op, rd, rn, rm, ra, imm, cond, wide⟩⟩
      rw [hx] at hOn hfs
      obtain ⟨x0, x1, x2, x3, x4, x5, x6, x7, x8, x9⟩ := ItAt.of hOn
      clear hOn hat hpa ec en hx
      by_cases hk1 : kind = 1
      · subst hk1
        by_cases hl : label = lb
        · subst hl
          have hR' : R = (k : Int) := by
            rw [← hR.out]; unfold As.fndI
            rw [fnd_le L (k + 1) n label k (by omega) (by rw [hfs]; simp [As.isL])]
          subst hR'
          clear hF hfs
          go_wp2
          go_ret
          exact ⟨rfl, rfl⟩
        · have hl' : (label == lb) = false := by simpa using hl
          have hF2 : As.fnd L (k + 1) lb = none := by rw [hfs]; simp [As.isL, hl]
          have HF2 := Lib.hid hF2
          clear hF hfs hF2
          go_wp2
          exact ⟨⟨k + 1, by simp, by omega, HF2.out, trivial⟩, by simp [intOf]; omega⟩
      · have hk2 : (kind == 1) = false := by simpa using hk1
        have hF2 : As.fnd L (k + 1) lb = none := by rw [hfs]; simp [As.isL, hk1]
        have HF2 := Lib.hid hF2
        clear hF hfs hF2
        go_wp2
        exact ⟨⟨k + 1, by simp, by omega, HF2.out, trivial⟩, by simp [intOf]; omega⟩
    · have hge : ¬ (k : Int) < (n : Int) := by omega
      obtain rfl : k = n := by omega
      have hR' : R = -1 := by rw [← hR.out]; unfold As.fndI; rw [hF]
      subst hR'
      clear hF
      go_wp2
      go_ret
      exact ⟨rfl, rfl⟩
end Go.Proofs.Ytplfpaffjaldoaa
end
section
namespace Go.Proofs.Ytplfpaffjaldoaa
open Go.ChangeShapes Go.WideShapes Go.ChangeAt Go.RowKit
set_option linter.unusedVariables false

theorem rsz_lit (op rd rn rm ra imm cond : Int) (wide : Bool) (n : Int) (w : World) (h : Hid (Th.size ⟨op, rd, rn, rm, ra, imm, cond, wide⟩ = n)) :
    Calls Try.prog 64 #[.agg #[.int .i64 op, .int .i64 rd, .int .i64 rn, .int .i64 rm, .int .i64 ra, .int .i64 imm, .int .i64 cond, .bool wide]] w fun e w' => e = .returned (.int .i64 n) ∧ Below w.heap.size w w' := by
  have := rsize_any op rd rn rm ra imm cond wide w
  rw [h.out] at this
  exact this
set_option maxHeartbeats 8000000 in
set_option maxRecDepth 100000 in
theorem rasize_any (pl pw : Option Addr) (cl cw n m k : Nat) (L : List As.It) (wl : List Bool) (w : World) (hn : Hid (L.length = n)) (hm : Hid (wl.length = m)) (hb : n ≤ 1000000) (hk : k < n) (hL : Hid (SliceC itC 10 w (.slice pl n cl) L)) (hW : Hid (SliceC boolC 1 w (.slice pw m cw) wl)) (Z : Int) (hZ : Hid (∀ h, As.size (L[k]'h).kind (L[k]'h).ins (As.wd wl k) = Z)) :
    Calls Try.prog 43 #[.slice pl n cl, .int .i64 (k : Int), .slice pw m cw] w fun e w' => e = .returned (.int .i64 Z) ∧ Below w.heap.size w w' := by
  have hkL : k < L.length := by rw [hn.out]; exact hk
  have hlt' : (k : Int) < (n : Int) := by omega
  have hk0 : (0 : Int) ≤ (k : Int) := by omega
  have hz := hZ.out hkL
  obtain ⟨p', c', e', hat⟩ := hL.out
  obtain ⟨a, hpa, hOn⟩ := hat k hkL
  injection e' with ep en ec
  rw [hpa] at ep
  subst ep
  rcases hx : L[k] with ⟨kind, label, ⟨op, rd, rn, rm, ra, imm, cond, wide⟩⟩
  rw [hx] at hOn hz
  dsimp only at hz
  obtain ⟨x0, x1, x2, x3, x4, x5, x6, x7, x8, x9⟩ := ItAt.of hOn
  clear hOn hat hpa ec en hx
  by_cases h0 : kind = 0
  · subst h0
    have HZ : Hid (Th.size ⟨op, rd, rn, rm, ra, imm, cond, wide⟩ = Z) := Lib.hid hz
    clear hz
    go_enter Try.func43, Try.ntmps43
    go_wp2_with (go_at_call 64; refine (rsz_lit _ _ _ _ _ _ _ _ _ _ HZ).mono ?_; rintro e w1 ⟨rfl, hb1⟩)
    go_ret
    exact ⟨rfl, hb1⟩
  · have q0 : (kind == 0) = false := by simpa using h0
    by_cases h2 : kind = 2
    · subst h2
      by_cases hw : k < m
      · have hkW : k < wl.length := by rw [hm.out]; exact hw
        have hw' : (k : Int) < (m : Int) := by omega
        obtain ⟨p2, c2, e2, hat2⟩ := hW.out
        obtain ⟨aw, hpw, hOn3⟩ := hat2 k hkW
        injection e2 with ep2 en2 ec2
        rw [hpw] at ep2
        subst ep2
        obtain ⟨bv, hbl⟩ : ∃ bv, wl[k] = bv := ⟨_, rfl⟩
        have hbv : As.wd wl k = bv := by rw [← hbl]; unfold As.wd; rw [List.getD_eq_getElem?_getD, List.getElem?_eq_getElem hkW]; rfl
        have hcw0 : w.cell? (aw.add k) = some (.bool bv) := by
          have h := hOn3 0 _ rfl
          rw [add_zero', Nat.mul_one, hbl] at h
          exact h
        rw [hbv] at hz
        clear hat2 en2 ec2 hbl hpw hOn3 hbv
        cases bv with
        | true =>
          obtain rfl : Z = 4 := hz.symm
          go_enter Try.func43, Try.ntmps43
          go_wp2
          go_ret
          exact ⟨rfl, Below.refl _ _⟩
        | false =>
          obtain rfl : Z = 2 := hz.symm
          go_enter Try.func43, Try.ntmps43
          go_wp2
          go_ret
          exact ⟨rfl, Below.refl _ _⟩
      · have hw' : ¬ (k : Int) < (m : Int) := by omega
        have hbv : As.wd wl k = false := by unfold As.wd; rw [List.getD_eq_getElem?_getD, List.getElem?_eq_none (by rw [hm.out]; omega)]; rfl
        rw [hbv] at hz
        obtain rfl : Z = 2 := hz.symm
        clear hbv hz
        go_enter Try.func43, Try.ntmps43
        go_wp2
        go_ret
        exact ⟨rfl, Below.refl _ _⟩
    · have q2 : (kind == 2) = false := by simpa using h2
      obtain rfl : Z = 0 := by rw [← hz]; unfold As.size; rw [q0, q2]; rfl
      clear hz
      go_enter Try.func43, Try.ntmps43
      go_wp2
      go_ret
      exact ⟨rfl, Below.refl _ _⟩
end Go.Proofs.Ytplfpaffjaldoaa
end
