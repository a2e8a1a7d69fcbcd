/-
  Plain mathematics of bytes as instructions: bits that fit a row of the table are those of the instruction that is read of them. It names nothing of the translated program.
-/
import Derived.Test.YtcajllbhgfaofaaDecodeM
import Derived.Lib.Hide
namespace Go.Proofs.Ytcajllbhgfaofaa.De
open Go.RowKit
open Th (Ins none0 check num size fv off)
set_option linter.unusedVariables false

theorem run_of (x m b lo len v M : Nat) (h : x &&& m = b) (hM : 2 ^ len - 1 = M) (hm : m / 2 ^ lo % 2 ^ len = M) (hb : b / 2 ^ lo % 2 ^ len = v) : pt x lo len = v := by
  subst hM
  unfold pt
  rw [← hb, ← h, ← Nat.shiftRight_eq_div_pow, ← Nat.shiftRight_eq_div_pow, Nat.shiftRight_and_distrib, Nat.and_mod_two_pow, Nat.shiftRight_eq_div_pow m, hm, Nat.and_two_pow_sub_one_eq_mod, Nat.mod_mod]
theorem seg (x a l A L B : Nat) (hA : 2 ^ a = A) (hL : 2 ^ l = L) (hB : 2 ^ (a + l) = B) : x / A = x / B * L + pt x a l := by
  subst hA; subst hL; subst hB
  unfold pt
  rw [Nat.pow_add, ← Nat.div_div_eq_div_mul]
  have := Nat.div_add_mod (x / 2 ^ a) (2 ^ l)
  rw [Nat.mul_comm] at this
  exact this.symm
theorem dig (n h d l r q : Nat) (e : n = (h * q + d) * r + l) (hl : l < r) (hd : d < q) : n / r % q = d := by
  have hr : 0 < r := by omega
  rw [e, Nat.mul_comm _ r, Nat.mul_add_div hr, Nat.div_eq_of_lt hl, Nat.add_zero, Nat.mul_comm h q, Nat.mul_add_mod, Nat.mod_eq_of_lt hd]
theorem fv_nat (n r q : Nat) : fv (n : Int) r q = n / r % q := rfl
set_option maxRecDepth 100000 in
theorem rowA1 (x : Nat) (hx : x < 4294967296) (h : hit x 4294967295 48896 = true) (ht : there (read 1 x) = true) : check (read 1 x) = 0 ∧ num (read 1 x) = x := by
  have h' : x &&& 4294967295 = 48896 := eq_of_beq h
  have hr : read 1 x = ⟨1, 0, 0, 0, 0, 0, 0, false⟩ := rfl
  rw [hr] at ht ⊢
  clear hr
  unfold there at ht
  have s0 := seg x 0 32 1 4294967296 4294967296 (by decide) (by decide) (by decide)
  have f0 : pt x 0 32 = 48896 := run_of x 4294967295 48896 0 32 48896 4294967295 h' (by decide) (by decide) (by decide)
  have z : x / 4294967296 = 0 := Nat.div_eq_of_lt hx
  rw [Nat.div_one] at s0
  rw [z] at s0
  generalize hp0 : pt x 0 32 = p0 at *
  clear h h'
  simp at ht
  refine ⟨(Th.ok1 _ _ _ _ _ _ _).2 ⟨by first | rfl | omega, by first | rfl | omega, by first | rfl | omega, by first | rfl | omega, by first | rfl | omega, by first | rfl | omega, by first | rfl | omega⟩, ?_⟩
  rw [Th.num1]
  (try simp only [fv_nat])
  (try unfold fv)
  omega
set_option maxRecDepth 100000 in
theorem rowA2 (x : Nat) (hx : x < 4294967296) (h : hit x 4294967040 48640 = true) (ht : there (read 2 x) = true) : check (read 2 x) = 0 ∧ num (read 2 x) = x := by
  have h' : x &&& 4294967040 = 48640 := eq_of_beq h
  have hr : read 2 x = ⟨2, 0, 0, 0, 0, ((pt x 0 8 : Nat) : Int), 0, false⟩ := rfl
  rw [hr] at ht ⊢
  clear hr
  unfold there at ht
  have s0 := seg x 0 8 1 256 256 (by decide) (by decide) (by decide)
  have f0 : pt x 0 8 < 256 := pt_lt x 0 8
  have s1 := seg x 8 24 256 16777216 4294967296 (by decide) (by decide) (by decide)
  have f1 : pt x 8 24 = 190 := run_of x 4294967040 48640 8 24 190 16777215 h' (by decide) (by decide) (by decide)
  have z : x / 4294967296 = 0 := Nat.div_eq_of_lt hx
  rw [Nat.div_one] at s0
  rw [z] at s1
  generalize x / 256 = q0 at *
  generalize hp0 : pt x 0 8 = p0 at *
  generalize hp1 : pt x 8 24 = p1 at *
  clear h h'
  simp at ht
  refine ⟨(Th.ok2 _ _ _ _ _ _ _).2 ⟨by first | rfl | omega, by first | rfl | omega, by first | rfl | omega, by first | rfl | omega, by first | rfl | omega, by first | rfl | omega, by first | rfl | omega⟩, ?_⟩
  rw [Th.num2]
  (try simp only [fv_nat])
  (try unfold fv)
  omega
set_option maxRecDepth 100000 in
theorem rowA3 (x : Nat) (hx : x < 4294967296) (h : hit x 4226842624 4064280576 = true) (ht : there (read 3 x) = true) : check (read 3 x) = 0 ∧ num (read 3 x) = x := by
  have h' : x &&& 4226842624 = 4064280576 := eq_of_beq h
  have hr : read 3 x = ⟨3, ((pt x 8 4 : Nat) : Int), 0, 0, 0, ((imm16 x : Nat) : Int), 0, false⟩ := rfl
  rw [hr] at ht ⊢
  clear hr
  unfold there at ht
  unfold imm16 at *
  have s0 := seg x 0 8 1 256 256 (by decide) (by decide) (by decide)
  have f0 : pt x 0 8 < 256 := pt_lt x 0 8
  have s1 := seg x 8 4 256 16 4096 (by decide) (by decide) (by decide)
  have f1 : pt x 8 4 < 16 := pt_lt x 8 4
  have s2 := seg x 12 3 4096 8 32768 (by decide) (by decide) (by decide)
  have f2 : pt x 12 3 < 8 := pt_lt x 12 3
  have s3 := seg x 15 1 32768 2 65536 (by decide) (by decide) (by decide)
  have f3 : pt x 15 1 = 0 := run_of x 4226842624 4064280576 15 1 0 1 h' (by decide) (by decide) (by decide)
  have s4 := seg x 16 4 65536 16 1048576 (by decide) (by decide) (by decide)
  have f4 : pt x 16 4 < 16 := pt_lt x 16 4
  have s5 := seg x 20 6 1048576 64 67108864 (by decide) (by decide) (by decide)
  have f5 : pt x 20 6 = 36 := run_of x 4226842624 4064280576 20 6 36 63 h' (by decide) (by decide) (by decide)
  have s6 := seg x 26 1 67108864 2 134217728 (by decide) (by decide) (by decide)
  have f6 : pt x 26 1 < 2 := pt_lt x 26 1
  have s7 := seg x 27 5 134217728 32 4294967296 (by decide) (by decide) (by decide)
  have f7 : pt x 27 5 = 30 := run_of x 4226842624 4064280576 27 5 30 31 h' (by decide) (by decide) (by decide)
  have z : x / 4294967296 = 0 := Nat.div_eq_of_lt hx
  rw [Nat.div_one] at s0
  rw [z] at s7
  generalize x / 256 = q0 at *
  generalize x / 4096 = q1 at *
  generalize x / 32768 = q2 at *
  generalize x / 65536 = q3 at *
  generalize x / 1048576 = q4 at *
  generalize x / 67108864 = q5 at *
  generalize x / 134217728 = q6 at *
  generalize hp0 : pt x 0 8 = p0 at *
  generalize hp1 : pt x 8 4 = p1 at *
  generalize hp2 : pt x 12 3 = p2 at *
  generalize hp3 : pt x 15 1 = p3 at *
  generalize hp4 : pt x 16 4 = p4 at *
  generalize hp5 : pt x 20 6 = p5 at *
  generalize hp6 : pt x 26 1 = p6 at *
  generalize hp7 : pt x 27 5 = p7 at *
  clear h h'
  simp at ht
  refine ⟨(Th.ok3 _ _ _ _ _ _ _).2 ⟨by first | rfl | omega, by first | rfl | omega, by first | rfl | omega, by first | rfl | omega, by first | rfl | omega, by first | rfl | omega, by first | rfl | omega⟩, ?_⟩
  rw [Th.num3]
  have g0 : fv ((p4 * 4096 + p6 * 2048 + p2 * 256 + p0 : Nat) : Int) 2048 2 = p6 := by rw [fv_nat]; exact dig _ (p4 * 1) p6 (p2 * 256 + p0 * 1) 2048 2 (by omega) (by omega) (by omega)
  have g1 : fv ((p4 * 4096 + p6 * 2048 + p2 * 256 + p0 : Nat) : Int) 4096 16 = p4 := by rw [fv_nat]; exact dig _ (0) p4 (p6 * 2048 + p2 * 256 + p0 * 1) 4096 16 (by omega) (by omega) (by omega)
  have g2 : fv ((p4 * 4096 + p6 * 2048 + p2 * 256 + p0 : Nat) : Int) 256 8 = p2 := by rw [fv_nat]; exact dig _ (p4 * 2 + p6 * 1) p2 (p0 * 1) 256 8 (by omega) (by omega) (by omega)
  have g3 : fv ((p4 * 4096 + p6 * 2048 + p2 * 256 + p0 : Nat) : Int) 1 256 = p0 := by rw [fv_nat]; exact dig _ (p4 * 16 + p6 * 8 + p2 * 1) p0 (0) 1 256 (by omega) (by omega) (by omega)
  have g4 : fv ((p1 : Nat) : Int) 1 16 = p1 := by rw [fv_nat]; omega
  rw [g0, g1, g2, g3, g4]
  omega
set_option maxRecDepth 100000 in
theorem rowA4 (x : Nat) (hx : x < 4294967296) (h : hit x 4226842624 4072669184 = true) (ht : there (read 4 x) = true) : check (read 4 x) = 0 ∧ num (read 4 x) = x := by
  have h' : x &&& 4226842624 = 4072669184 := eq_of_beq h
  have hr : read 4 x = ⟨4, ((pt x 8 4 : Nat) : Int), 0, 0, 0, ((imm16 x : Nat) : Int), 0, false⟩ := rfl
  rw [hr] at ht ⊢
  clear hr
  unfold there at ht
  unfold imm16 at *
  have s0 := seg x 0 8 1 256 256 (by decide) (by decide) (by decide)
  have f0 : pt x 0 8 < 256 := pt_lt x 0 8
  have s1 := seg x 8 4 256 16 4096 (by decide) (by decide) (by decide)
  have f1 : pt x 8 4 < 16 := pt_lt x 8 4
  have s2 := seg x 12 3 4096 8 32768 (by decide) (by decide) (by decide)
  have f2 : pt x 12 3 < 8 := pt_lt x 12 3
  have s3 := seg x 15 1 32768 2 65536 (by decide) (by decide) (by decide)
  have f3 : pt x 15 1 = 0 := run_of x 4226842624 4072669184 15 1 0 1 h' (by decide) (by decide) (by decide)
  have s4 := seg x 16 4 65536 16 1048576 (by decide) (by decide) (by decide)
  have f4 : pt x 16 4 < 16 := pt_lt x 16 4
  have s5 := seg x 20 6 1048576 64 67108864 (by decide) (by decide) (by decide)
  have f5 : pt x 20 6 = 44 := run_of x 4226842624 4072669184 20 6 44 63 h' (by decide) (by decide) (by decide)
  have s6 := seg x 26 1 67108864 2 134217728 (by decide) (by decide) (by decide)
  have f6 : pt x 26 1 < 2 := pt_lt x 26 1
  have s7 := seg x 27 5 134217728 32 4294967296 (by decide) (by decide) (by decide)
  have f7 : pt x 27 5 = 30 := run_of x 4226842624 4072669184 27 5 30 31 h' (by decide) (by decide) (by decide)
  have z : x / 4294967296 = 0 := Nat.div_eq_of_lt hx
  rw [Nat.div_one] at s0
  rw [z] at s7
  generalize x / 256 = q0 at *
  generalize x / 4096 = q1 at *
  generalize x / 32768 = q2 at *
  generalize x / 65536 = q3 at *
  generalize x / 1048576 = q4 at *
  generalize x / 67108864 = q5 at *
  generalize x / 134217728 = q6 at *
  generalize hp0 : pt x 0 8 = p0 at *
  generalize hp1 : pt x 8 4 = p1 at *
  generalize hp2 : pt x 12 3 = p2 at *
  generalize hp3 : pt x 15 1 = p3 at *
  generalize hp4 : pt x 16 4 = p4 at *
  generalize hp5 : pt x 20 6 = p5 at *
  generalize hp6 : pt x 26 1 = p6 at *
  generalize hp7 : pt x 27 5 = p7 at *
  clear h h'
  simp at ht
  refine ⟨(Th.ok4 _ _ _ _ _ _ _).2 ⟨by first | rfl | omega, by first | rfl | omega, by first | rfl | omega, by first | rfl | omega, by first | rfl | omega, by first | rfl | omega, by first | rfl | omega⟩, ?_⟩
  rw [Th.num4]
  have g0 : fv ((p4 * 4096 + p6 * 2048 + p2 * 256 + p0 : Nat) : Int) 2048 2 = p6 := by rw [fv_nat]; exact dig _ (p4 * 1) p6 (p2 * 256 + p0 * 1) 2048 2 (by omega) (by omega) (by omega)
  have g1 : fv ((p4 * 4096 + p6 * 2048 + p2 * 256 + p0 : Nat) : Int) 4096 16 = p4 := by rw [fv_nat]; exact dig _ (0) p4 (p6 * 2048 + p2 * 256 + p0 * 1) 4096 16 (by omega) (by omega) (by omega)
  have g2 : fv ((p4 * 4096 + p6 * 2048 + p2 * 256 + p0 : Nat) : Int) 256 8 = p2 := by rw [fv_nat]; exact dig _ (p4 * 2 + p6 * 1) p2 (p0 * 1) 256 8 (by omega) (by omega) (by omega)
  have g3 : fv ((p4 * 4096 + p6 * 2048 + p2 * 256 + p0 : Nat) : Int) 1 256 = p0 := by rw [fv_nat]; exact dig _ (p4 * 16 + p6 * 8 + p2 * 1) p0 (0) 1 256 (by omega) (by omega) (by omega)
  have g4 : fv ((p1 : Nat) : Int) 1 16 = p1 := by rw [fv_nat]; omega
  rw [g0, g1, g2, g3, g4]
  omega
set_option maxRecDepth 100000 in
theorem rowA5 (x : Nat) (hx : x < 4294967296) (h : hit x 4294934576 3931045888 = true) (ht : there (read 5 x) = true) : check (read 5 x) = 0 ∧ num (read 5 x) = x := by
  have h' : x &&& 4294934576 = 3931045888 := eq_of_beq h
  have hr : read 5 x = ⟨5, ((pt x 8 4 : Nat) : Int), 0, ((pt x 0 4 : Nat) : Int), 0, ((shift x : Nat) : Int), 0, false⟩ := rfl
  rw [hr] at ht ⊢
  clear hr
  unfold there at ht
  unfold shift at *
  have s0 := seg x 0 4 1 16 16 (by decide) (by decide) (by decide)
  have f0 : pt x 0 4 < 16 := pt_lt x 0 4
  have s1 := seg x 4 2 16 4 64 (by decide) (by decide) (by decide)
  have f1 : pt x 4 2 = 0 := run_of x 4294934576 3931045888 4 2 0 3 h' (by decide) (by decide) (by decide)
  have s2 := seg x 6 2 64 4 256 (by decide) (by decide) (by decide)
  have f2 : pt x 6 2 < 4 := pt_lt x 6 2
  have s3 := seg x 8 4 256 16 4096 (by decide) (by decide) (by decide)
  have f3 : pt x 8 4 < 16 := pt_lt x 8 4
  have s4 := seg x 12 3 4096 8 32768 (by decide) (by decide) (by decide)
  have f4 : pt x 12 3 < 8 := pt_lt x 12 3
  have s5 := seg x 15 17 32768 131072 4294967296 (by decide) (by decide) (by decide)
  have f5 : pt x 15 17 = 119966 := run_of x 4294934576 3931045888 15 17 119966 131071 h' (by decide) (by decide) (by decide)
  have z : x / 4294967296 = 0 := Nat.div_eq_of_lt hx
  rw [Nat.div_one] at s0
  rw [z] at s5
  generalize x / 16 = q0 at *
  generalize x / 64 = q1 at *
  generalize x / 256 = q2 at *
  generalize x / 4096 = q3 at *
  generalize x / 32768 = q4 at *
  generalize hp0 : pt x 0 4 = p0 at *
  generalize hp1 : pt x 4 2 = p1 at *
  generalize hp2 : pt x 6 2 = p2 at *
  generalize hp3 : pt x 8 4 = p3 at *
  generalize hp4 : pt x 12 3 = p4 at *
  generalize hp5 : pt x 15 17 = p5 at *
  clear h h'
  simp at ht
  refine ⟨(Th.ok5 _ _ _ _ _ _ _).2 ⟨by first | rfl | omega, by first | rfl | omega, by first | rfl | omega, by first | rfl | omega, by first | rfl | omega, by first | rfl | omega, by first | rfl | omega⟩, ?_⟩
  rw [Th.num5]
  (try simp only [fv_nat])
  (try unfold fv)
  omega
set_option maxRecDepth 100000 in
theorem rowA6 (x : Nat) (hx : x < 4294967296) (h : hit x 4294934576 3931045904 = true) (ht : there (read 6 x) = true) : check (read 6 x) = 0 ∧ num (read 6 x) = x := by
  have h' : x &&& 4294934576 = 3931045904 := eq_of_beq h
  have hr : read 6 x = ⟨6, ((pt x 8 4 : Nat) : Int), 0, ((pt x 0 4 : Nat) : Int), 0, ((shift x : Nat) : Int), 0, false⟩ := rfl
  rw [hr] at ht ⊢
  clear hr
  unfold there at ht
  unfold shift at *
  have s0 := seg x 0 4 1 16 16 (by decide) (by decide) (by decide)
  have f0 : pt x 0 4 < 16 := pt_lt x 0 4
  have s1 := seg x 4 2 16 4 64 (by decide) (by decide) (by decide)
  have f1 : pt x 4 2 = 1 := run_of x 4294934576 3931045904 4 2 1 3 h' (by decide) (by decide) (by decide)
  have s2 := seg x 6 2 64 4 256 (by decide) (by decide) (by decide)
  have f2 : pt x 6 2 < 4 := pt_lt x 6 2
  have s3 := seg x 8 4 256 16 4096 (by decide) (by decide) (by decide)
  have f3 : pt x 8 4 < 16 := pt_lt x 8 4
  have s4 := seg x 12 3 4096 8 32768 (by decide) (by decide) (by decide)
  have f4 : pt x 12 3 < 8 := pt_lt x 12 3
  have s5 := seg x 15 17 32768 131072 4294967296 (by decide) (by decide) (by decide)
  have f5 : pt x 15 17 = 119966 := run_of x 4294934576 3931045904 15 17 119966 131071 h' (by decide) (by decide) (by decide)
  have z : x / 4294967296 = 0 := Nat.div_eq_of_lt hx
  rw [Nat.div_one] at s0
  rw [z] at s5
  generalize x / 16 = q0 at *
  generalize x / 64 = q1 at *
  generalize x / 256 = q2 at *
  generalize x / 4096 = q3 at *
  generalize x / 32768 = q4 at *
  generalize hp0 : pt x 0 4 = p0 at *
  generalize hp1 : pt x 4 2 = p1 at *
  generalize hp2 : pt x 6 2 = p2 at *
  generalize hp3 : pt x 8 4 = p3 at *
  generalize hp4 : pt x 12 3 = p4 at *
  generalize hp5 : pt x 15 17 = p5 at *
  clear h h'
  simp at ht
  refine ⟨(Th.ok6 _ _ _ _ _ _ _).2 ⟨by first | rfl | omega, by first | rfl | omega, by first | rfl | omega, by first | rfl | omega, by first | rfl | omega, by first | rfl | omega, by first | rfl | omega⟩, ?_⟩
  rw [Th.num6]
  (try simp only [fv_nat])
  (try unfold fv)
  omega
set_option maxRecDepth 100000 in
theorem rowA7 (x : Nat) (hx : x < 4294967296) (h : hit x 4294934576 3931045920 = true) (ht : there (read 7 x) = true) : check (read 7 x) = 0 ∧ num (read 7 x) = x := by
  have h' : x &&& 4294934576 = 3931045920 := eq_of_beq h
  have hr : read 7 x = ⟨7, ((pt x 8 4 : Nat) : Int), 0, ((pt x 0 4 : Nat) : Int), 0, ((shift x : Nat) : Int), 0, false⟩ := rfl
  rw [hr] at ht ⊢
  clear hr
  unfold there at ht
  unfold shift at *
  have s0 := seg x 0 4 1 16 16 (by decide) (by decide) (by decide)
  have f0 : pt x 0 4 < 16 := pt_lt x 0 4
  have s1 := seg x 4 2 16 4 64 (by decide) (by decide) (by decide)
  have f1 : pt x 4 2 = 2 := run_of x 4294934576 3931045920 4 2 2 3 h' (by decide) (by decide) (by decide)
  have s2 := seg x 6 2 64 4 256 (by decide) (by decide) (by decide)
  have f2 : pt x 6 2 < 4 := pt_lt x 6 2
  have s3 := seg x 8 4 256 16 4096 (by decide) (by decide) (by decide)
  have f3 : pt x 8 4 < 16 := pt_lt x 8 4
  have s4 := seg x 12 3 4096 8 32768 (by decide) (by decide) (by decide)
  have f4 : pt x 12 3 < 8 := pt_lt x 12 3
  have s5 := seg x 15 17 32768 131072 4294967296 (by decide) (by decide) (by decide)
  have f5 : pt x 15 17 = 119966 := run_of x 4294934576 3931045920 15 17 119966 131071 h' (by decide) (by decide) (by decide)
  have z : x / 4294967296 = 0 := Nat.div_eq_of_lt hx
  rw [Nat.div_one] at s0
  rw [z] at s5
  generalize x / 16 = q0 at *
  generalize x / 64 = q1 at *
  generalize x / 256 = q2 at *
  generalize x / 4096 = q3 at *
  generalize x / 32768 = q4 at *
  generalize hp0 : pt x 0 4 = p0 at *
  generalize hp1 : pt x 4 2 = p1 at *
  generalize hp2 : pt x 6 2 = p2 at *
  generalize hp3 : pt x 8 4 = p3 at *
  generalize hp4 : pt x 12 3 = p4 at *
  generalize hp5 : pt x 15 17 = p5 at *
  clear h h'
  simp at ht
  refine ⟨(Th.ok7 _ _ _ _ _ _ _).2 ⟨by first | rfl | omega, by first | rfl | omega, by first | rfl | omega, by first | rfl | omega, by first | rfl | omega, by first | rfl | omega, by first | rfl | omega⟩, ?_⟩
  rw [Th.num7]
  (try simp only [fv_nat])
  (try unfold fv)
  omega
set_option maxRecDepth 100000 in
theorem rowA8 (x : Nat) (hx : x < 4294967296) (h : hit x 4294934576 3931045936 = true) (ht : there (read 8 x) = true) : check (read 8 x) = 0 ∧ num (read 8 x) = x := by
  have h' : x &&& 4294934576 = 3931045936 := eq_of_beq h
  have hr : read 8 x = ⟨8, ((pt x 8 4 : Nat) : Int), 0, ((pt x 0 4 : Nat) : Int), 0, ((shift x : Nat) : Int), 0, false⟩ := rfl
  rw [hr] at ht ⊢
  clear hr
  unfold there at ht
  unfold shift at *
  have s0 := seg x 0 4 1 16 16 (by decide) (by decide) (by decide)
  have f0 : pt x 0 4 < 16 := pt_lt x 0 4
  have s1 := seg x 4 2 16 4 64 (by decide) (by decide) (by decide)
  have f1 : pt x 4 2 = 3 := run_of x 4294934576 3931045936 4 2 3 3 h' (by decide) (by decide) (by decide)
  have s2 := seg x 6 2 64 4 256 (by decide) (by decide) (by decide)
  have f2 : pt x 6 2 < 4 := pt_lt x 6 2
  have s3 := seg x 8 4 256 16 4096 (by decide) (by decide) (by decide)
  have f3 : pt x 8 4 < 16 := pt_lt x 8 4
  have s4 := seg x 12 3 4096 8 32768 (by decide) (by decide) (by decide)
  have f4 : pt x 12 3 < 8 := pt_lt x 12 3
  have s5 := seg x 15 17 32768 131072 4294967296 (by decide) (by decide) (by decide)
  have f5 : pt x 15 17 = 119966 := run_of x 4294934576 3931045936 15 17 119966 131071 h' (by decide) (by decide) (by decide)
  have z : x / 4294967296 = 0 := Nat.div_eq_of_lt hx
  rw [Nat.div_one] at s0
  rw [z] at s5
  generalize x / 16 = q0 at *
  generalize x / 64 = q1 at *
  generalize x / 256 = q2 at *
  generalize x / 4096 = q3 at *
  generalize x / 32768 = q4 at *
  generalize hp0 : pt x 0 4 = p0 at *
  generalize hp1 : pt x 4 2 = p1 at *
  generalize hp2 : pt x 6 2 = p2 at *
  generalize hp3 : pt x 8 4 = p3 at *
  generalize hp4 : pt x 12 3 = p4 at *
  generalize hp5 : pt x 15 17 = p5 at *
  clear h h'
  simp at ht
  refine ⟨(Th.ok8 _ _ _ _ _ _ _).2 ⟨by first | rfl | omega, by first | rfl | omega, by first | rfl | omega, by first | rfl | omega, by first | rfl | omega, by first | rfl | omega, by first | rfl | omega⟩, ?_⟩
  rw [Th.num8]
  (try simp only [fv_nat])
  (try unfold fv)
  omega
set_option maxRecDepth 100000 in
theorem rowA9 (x : Nat) (hx : x < 4294967296) (h : hit x 4294963440 3933143040 = true) (ht : there (read 9 x) = true) : check (read 9 x) = 0 ∧ num (read 9 x) = x := by
  have h' : x &&& 4294963440 = 3933143040 := eq_of_beq h
  have hr : read 9 x = ⟨9, ((pt x 8 4 : Nat) : Int), 0, ((pt x 0 4 : Nat) : Int), 0, 0, 0, false⟩ := rfl
  rw [hr] at ht ⊢
  clear hr
  unfold there at ht
  have s0 := seg x 0 4 1 16 16 (by decide) (by decide) (by decide)
  have f0 : pt x 0 4 < 16 := pt_lt x 0 4
  have s1 := seg x 4 4 16 16 256 (by decide) (by decide) (by decide)
  have f1 : pt x 4 4 = 0 := run_of x 4294963440 3933143040 4 4 0 15 h' (by decide) (by decide) (by decide)
  have s2 := seg x 8 4 256 16 4096 (by decide) (by decide) (by decide)
  have f2 : pt x 8 4 < 16 := pt_lt x 8 4
  have s3 := seg x 12 20 4096 1048576 4294967296 (by decide) (by decide) (by decide)
  have f3 : pt x 12 20 = 960240 := run_of x 4294963440 3933143040 12 20 960240 1048575 h' (by decide) (by decide) (by decide)
  have z : x / 4294967296 = 0 := Nat.div_eq_of_lt hx
  rw [Nat.div_one] at s0
  rw [z] at s3
  generalize x / 16 = q0 at *
  generalize x / 256 = q1 at *
  generalize x / 4096 = q2 at *
  generalize hp0 : pt x 0 4 = p0 at *
  generalize hp1 : pt x 4 4 = p1 at *
  generalize hp2 : pt x 8 4 = p2 at *
  generalize hp3 : pt x 12 20 = p3 at *
  clear h h'
  simp at ht
  refine ⟨(Th.ok9 _ _ _ _ _ _ _).2 ⟨by first | rfl | omega, by first | rfl | omega, by first | rfl | omega, by first | rfl | omega, by first | rfl | omega, by first | rfl | omega, by first | rfl | omega⟩, ?_⟩
  rw [Th.num9]
  (try simp only [fv_nat])
  (try unfold fv)
  omega
set_option maxRecDepth 100000 in
theorem rowA10 (x : Nat) (hx : x < 4294967296) (h : hit x 4293980400 3925868544 = true) (ht : there (read 10 x) = true) : check (read 10 x) = 0 ∧ num (read 10 x) = x := by
  have h' : x &&& 4293980400 = 3925868544 := eq_of_beq h
  have hr : read 10 x = ⟨10, ((pt x 8 4 : Nat) : Int), ((pt x 16 4 : Nat) : Int), ((pt x 0 4 : Nat) : Int), 0, 0, 0, false⟩ := rfl
  rw [hr] at ht ⊢
  clear hr
  unfold there at ht
  have s0 := seg x 0 4 1 16 16 (by decide) (by decide) (by decide)
  have f0 : pt x 0 4 < 16 := pt_lt x 0 4
  have s1 := seg x 4 4 16 16 256 (by decide) (by decide) (by decide)
  have f1 : pt x 4 4 = 0 := run_of x 4293980400 3925868544 4 4 0 15 h' (by decide) (by decide) (by decide)
  have s2 := seg x 8 4 256 16 4096 (by decide) (by decide) (by decide)
  have f2 : pt x 8 4 < 16 := pt_lt x 8 4
  have s3 := seg x 12 4 4096 16 65536 (by decide) (by decide) (by decide)
  have f3 : pt x 12 4 = 0 := run_of x 4293980400 3925868544 12 4 0 15 h' (by decide) (by decide) (by decide)
  have s4 := seg x 16 4 65536 16 1048576 (by decide) (by decide) (by decide)
  have f4 : pt x 16 4 < 16 := pt_lt x 16 4
  have s5 := seg x 20 12 1048576 4096 4294967296 (by decide) (by decide) (by decide)
  have f5 : pt x 20 12 = 3744 := run_of x 4293980400 3925868544 20 12 3744 4095 h' (by decide) (by decide) (by decide)
  have z : x / 4294967296 = 0 := Nat.div_eq_of_lt hx
  rw [Nat.div_one] at s0
  rw [z] at s5
  generalize x / 16 = q0 at *
  generalize x / 256 = q1 at *
  generalize x / 4096 = q2 at *
  generalize x / 65536 = q3 at *
  generalize x / 1048576 = q4 at *
  generalize hp0 : pt x 0 4 = p0 at *
  generalize hp1 : pt x 4 4 = p1 at *
  generalize hp2 : pt x 8 4 = p2 at *
  generalize hp3 : pt x 12 4 = p3 at *
  generalize hp4 : pt x 16 4 = p4 at *
  generalize hp5 : pt x 20 12 = p5 at *
  clear h h'
  simp at ht
  refine ⟨(Th.ok10 _ _ _ _ _ _ _).2 ⟨by first | rfl | omega, by first | rfl | omega, by first | rfl | omega, by first | rfl | omega, by first | rfl | omega, by first | rfl | omega, by first | rfl | omega⟩, ?_⟩
  rw [Th.num10]
  (try simp only [fv_nat])
  (try unfold fv)
  omega
set_option maxRecDepth 100000 in
theorem rowA11 (x : Nat) (hx : x < 4294967296) (h : hit x 4293980400 3927965696 = true) (ht : there (read 11 x) = true) : check (read 11 x) = 0 ∧ num (read 11 x) = x := by
  have h' : x &&& 4293980400 = 3927965696 := eq_of_beq h
  have hr : read 11 x = ⟨11, ((pt x 8 4 : Nat) : Int), ((pt x 16 4 : Nat) : Int), ((pt x 0 4 : Nat) : Int), 0, 0, 0, false⟩ := rfl
  rw [hr] at ht ⊢
  clear hr
  unfold there at ht
  have s0 := seg x 0 4 1 16 16 (by decide) (by decide) (by decide)
  have f0 : pt x 0 4 < 16 := pt_lt x 0 4
  have s1 := seg x 4 4 16 16 256 (by decide) (by decide) (by decide)
  have f1 : pt x 4 4 = 0 := run_of x 4293980400 3927965696 4 4 0 15 h' (by decide) (by decide) (by decide)
  have s2 := seg x 8 4 256 16 4096 (by decide) (by decide) (by decide)
  have f2 : pt x 8 4 < 16 := pt_lt x 8 4
  have s3 := seg x 12 4 4096 16 65536 (by decide) (by decide) (by decide)
  have f3 : pt x 12 4 = 0 := run_of x 4293980400 3927965696 12 4 0 15 h' (by decide) (by decide) (by decide)
  have s4 := seg x 16 4 65536 16 1048576 (by decide) (by decide) (by decide)
  have f4 : pt x 16 4 < 16 := pt_lt x 16 4
  have s5 := seg x 20 12 1048576 4096 4294967296 (by decide) (by decide) (by decide)
  have f5 : pt x 20 12 = 3746 := run_of x 4293980400 3927965696 20 12 3746 4095 h' (by decide) (by decide) (by decide)
  have z : x / 4294967296 = 0 := Nat.div_eq_of_lt hx
  rw [Nat.div_one] at s0
  rw [z] at s5
  generalize x / 16 = q0 at *
  generalize x / 256 = q1 at *
  generalize x / 4096 = q2 at *
  generalize x / 65536 = q3 at *
  generalize x / 1048576 = q4 at *
  generalize hp0 : pt x 0 4 = p0 at *
  generalize hp1 : pt x 4 4 = p1 at *
  generalize hp2 : pt x 8 4 = p2 at *
  generalize hp3 : pt x 12 4 = p3 at *
  generalize hp4 : pt x 16 4 = p4 at *
  generalize hp5 : pt x 20 12 = p5 at *
  clear h h'
  simp at ht
  refine ⟨(Th.ok11 _ _ _ _ _ _ _).2 ⟨by first | rfl | omega, by first | rfl | omega, by first | rfl | omega, by first | rfl | omega, by first | rfl | omega, by first | rfl | omega, by first | rfl | omega⟩, ?_⟩
  rw [Th.num11]
  (try simp only [fv_nat])
  (try unfold fv)
  omega
set_option maxRecDepth 100000 in
theorem rowA12 (x : Nat) (hx : x < 4294967296) (h : hit x 4293980400 3930062848 = true) (ht : there (read 12 x) = true) : check (read 12 x) = 0 ∧ num (read 12 x) = x := by
  have h' : x &&& 4293980400 = 3930062848 := eq_of_beq h
  have hr : read 12 x = ⟨12, ((pt x 8 4 : Nat) : Int), ((pt x 16 4 : Nat) : Int), ((pt x 0 4 : Nat) : Int), 0, 0, 0, false⟩ := rfl
  rw [hr] at ht ⊢
  clear hr
  unfold there at ht
  have s0 := seg x 0 4 1 16 16 (by decide) (by decide) (by decide)
  have f0 : pt x 0 4 < 16 := pt_lt x 0 4
  have s1 := seg x 4 4 16 16 256 (by decide) (by decide) (by decide)
  have f1 : pt x 4 4 = 0 := run_of x 4293980400 3930062848 4 4 0 15 h' (by decide) (by decide) (by decide)
  have s2 := seg x 8 4 256 16 4096 (by decide) (by decide) (by decide)
  have f2 : pt x 8 4 < 16 := pt_lt x 8 4
  have s3 := seg x 12 4 4096 16 65536 (by decide) (by decide) (by decide)
  have f3 : pt x 12 4 = 0 := run_of x 4293980400 3930062848 12 4 0 15 h' (by decide) (by decide) (by decide)
  have s4 := seg x 16 4 65536 16 1048576 (by decide) (by decide) (by decide)
  have f4 : pt x 16 4 < 16 := pt_lt x 16 4
  have s5 := seg x 20 12 1048576 4096 4294967296 (by decide) (by decide) (by decide)
  have f5 : pt x 20 12 = 3748 := run_of x 4293980400 3930062848 20 12 3748 4095 h' (by decide) (by decide) (by decide)
  have z : x / 4294967296 = 0 := Nat.div_eq_of_lt hx
  rw [Nat.div_one] at s0
  rw [z] at s5
  generalize x / 16 = q0 at *
  generalize x / 256 = q1 at *
  generalize x / 4096 = q2 at *
  generalize x / 65536 = q3 at *
  generalize x / 1048576 = q4 at *
  generalize hp0 : pt x 0 4 = p0 at *
  generalize hp1 : pt x 4 4 = p1 at *
  generalize hp2 : pt x 8 4 = p2 at *
  generalize hp3 : pt x 12 4 = p3 at *
  generalize hp4 : pt x 16 4 = p4 at *
  generalize hp5 : pt x 20 12 = p5 at *
  clear h h'
  simp at ht
  refine ⟨(Th.ok12 _ _ _ _ _ _ _).2 ⟨by first | rfl | omega, by first | rfl | omega, by first | rfl | omega, by first | rfl | omega, by first | rfl | omega, by first | rfl | omega, by first | rfl | omega⟩, ?_⟩
  rw [Th.num12]
  (try simp only [fv_nat])
  (try unfold fv)
  omega
set_option maxRecDepth 100000 in
theorem rowA13 (x : Nat) (hx : x < 4294967296) (h : hit x 4293980400 3934257152 = true) (ht : there (read 13 x) = true) : check (read 13 x) = 0 ∧ num (read 13 x) = x := by
  have h' : x &&& 4293980400 = 3934257152 := eq_of_beq h
  have hr : read 13 x = ⟨13, ((pt x 8 4 : Nat) : Int), ((pt x 16 4 : Nat) : Int), ((pt x 0 4 : Nat) : Int), 0, 0, 0, false⟩ := rfl
  rw [hr] at ht ⊢
  clear hr
  unfold there at ht
  have s0 := seg x 0 4 1 16 16 (by decide) (by decide) (by decide)
  have f0 : pt x 0 4 < 16 := pt_lt x 0 4
  have s1 := seg x 4 4 16 16 256 (by decide) (by decide) (by decide)
  have f1 : pt x 4 4 = 0 := run_of x 4293980400 3934257152 4 4 0 15 h' (by decide) (by decide) (by decide)
  have s2 := seg x 8 4 256 16 4096 (by decide) (by decide) (by decide)
  have f2 : pt x 8 4 < 16 := pt_lt x 8 4
  have s3 := seg x 12 4 4096 16 65536 (by decide) (by decide) (by decide)
  have f3 : pt x 12 4 = 0 := run_of x 4293980400 3934257152 12 4 0 15 h' (by decide) (by decide) (by decide)
  have s4 := seg x 16 4 65536 16 1048576 (by decide) (by decide) (by decide)
  have f4 : pt x 16 4 < 16 := pt_lt x 16 4
  have s5 := seg x 20 12 1048576 4096 4294967296 (by decide) (by decide) (by decide)
  have f5 : pt x 20 12 = 3752 := run_of x 4293980400 3934257152 20 12 3752 4095 h' (by decide) (by decide) (by decide)
  have z : x / 4294967296 = 0 := Nat.div_eq_of_lt hx
  rw [Nat.div_one] at s0
  rw [z] at s5
  generalize x / 16 = q0 at *
  generalize x / 256 = q1 at *
  generalize x / 4096 = q2 at *
  generalize x / 65536 = q3 at *
  generalize x / 1048576 = q4 at *
  generalize hp0 : pt x 0 4 = p0 at *
  generalize hp1 : pt x 4 4 = p1 at *
  generalize hp2 : pt x 8 4 = p2 at *
  generalize hp3 : pt x 12 4 = p3 at *
  generalize hp4 : pt x 16 4 = p4 at *
  generalize hp5 : pt x 20 12 = p5 at *
  clear h h'
  simp at ht
  refine ⟨(Th.ok13 _ _ _ _ _ _ _).2 ⟨by first | rfl | omega, by first | rfl | omega, by first | rfl | omega, by first | rfl | omega, by first | rfl | omega, by first | rfl | omega, by first | rfl | omega⟩, ?_⟩
  rw [Th.num13]
  (try simp only [fv_nat])
  (try unfold fv)
  omega
set_option maxRecDepth 100000 in
theorem rowA14 (x : Nat) (hx : x < 4294967296) (h : hit x 4293980400 3942645760 = true) (ht : there (read 14 x) = true) : check (read 14 x) = 0 ∧ num (read 14 x) = x := by
  have h' : x &&& 4293980400 = 3942645760 := eq_of_beq h
  have hr : read 14 x = ⟨14, ((pt x 8 4 : Nat) : Int), ((pt x 16 4 : Nat) : Int), ((pt x 0 4 : Nat) : Int), 0, 0, 0, false⟩ := rfl
  rw [hr] at ht ⊢
  clear hr
  unfold there at ht
  have s0 := seg x 0 4 1 16 16 (by decide) (by decide) (by decide)
  have f0 : pt x 0 4 < 16 := pt_lt x 0 4
  have s1 := seg x 4 4 16 16 256 (by decide) (by decide) (by decide)
  have f1 : pt x 4 4 = 0 := run_of x 4293980400 3942645760 4 4 0 15 h' (by decide) (by decide) (by decide)
  have s2 := seg x 8 4 256 16 4096 (by decide) (by decide) (by decide)
  have f2 : pt x 8 4 < 16 := pt_lt x 8 4
  have s3 := seg x 12 4 4096 16 65536 (by decide) (by decide) (by decide)
  have f3 : pt x 12 4 = 0 := run_of x 4293980400 3942645760 12 4 0 15 h' (by decide) (by decide) (by decide)
  have s4 := seg x 16 4 65536 16 1048576 (by decide) (by decide) (by decide)
  have f4 : pt x 16 4 < 16 := pt_lt x 16 4
  have s5 := seg x 20 12 1048576 4096 4294967296 (by decide) (by decide) (by decide)
  have f5 : pt x 20 12 = 3760 := run_of x 4293980400 3942645760 20 12 3760 4095 h' (by decide) (by decide) (by decide)
  have z : x / 4294967296 = 0 := Nat.div_eq_of_lt hx
  rw [Nat.div_one] at s0
  rw [z] at s5
  generalize x / 16 = q0 at *
  generalize x / 256 = q1 at *
  generalize x / 4096 = q2 at *
  generalize x / 65536 = q3 at *
  generalize x / 1048576 = q4 at *
  generalize hp0 : pt x 0 4 = p0 at *
  generalize hp1 : pt x 4 4 = p1 at *
  generalize hp2 : pt x 8 4 = p2 at *
  generalize hp3 : pt x 12 4 = p3 at *
  generalize hp4 : pt x 16 4 = p4 at *
  generalize hp5 : pt x 20 12 = p5 at *
  clear h h'
  simp at ht
  refine ⟨(Th.ok14 _ _ _ _ _ _ _).2 ⟨by first | rfl | omega, by first | rfl | omega, by first | rfl | omega, by first | rfl | omega, by first | rfl | omega, by first | rfl | omega, by first | rfl | omega⟩, ?_⟩
  rw [Th.num14]
  (try simp only [fv_nat])
  (try unfold fv)
  omega
set_option maxRecDepth 100000 in
theorem rowA15 (x : Nat) (hx : x < 4294967296) (h : hit x 4293980400 3953131520 = true) (ht : there (read 15 x) = true) : check (read 15 x) = 0 ∧ num (read 15 x) = x := by
  have h' : x &&& 4293980400 = 3953131520 := eq_of_beq h
  have hr : read 15 x = ⟨15, ((pt x 8 4 : Nat) : Int), ((pt x 16 4 : Nat) : Int), ((pt x 0 4 : Nat) : Int), 0, 0, 0, false⟩ := rfl
  rw [hr] at ht ⊢
  clear hr
  unfold there at ht
  have s0 := seg x 0 4 1 16 16 (by decide) (by decide) (by decide)
  have f0 : pt x 0 4 < 16 := pt_lt x 0 4
  have s1 := seg x 4 4 16 16 256 (by decide) (by decide) (by decide)
  have f1 : pt x 4 4 = 0 := run_of x 4293980400 3953131520 4 4 0 15 h' (by decide) (by decide) (by decide)
  have s2 := seg x 8 4 256 16 4096 (by decide) (by decide) (by decide)
  have f2 : pt x 8 4 < 16 := pt_lt x 8 4
  have s3 := seg x 12 4 4096 16 65536 (by decide) (by decide) (by decide)
  have f3 : pt x 12 4 = 0 := run_of x 4293980400 3953131520 12 4 0 15 h' (by decide) (by decide) (by decide)
  have s4 := seg x 16 4 65536 16 1048576 (by decide) (by decide) (by decide)
  have f4 : pt x 16 4 < 16 := pt_lt x 16 4
  have s5 := seg x 20 12 1048576 4096 4294967296 (by decide) (by decide) (by decide)
  have f5 : pt x 20 12 = 3770 := run_of x 4293980400 3953131520 20 12 3770 4095 h' (by decide) (by decide) (by decide)
  have z : x / 4294967296 = 0 := Nat.div_eq_of_lt hx
  rw [Nat.div_one] at s0
  rw [z] at s5
  generalize x / 16 = q0 at *
  generalize x / 256 = q1 at *
  generalize x / 4096 = q2 at *
  generalize x / 65536 = q3 at *
  generalize x / 1048576 = q4 at *
  generalize hp0 : pt x 0 4 = p0 at *
  generalize hp1 : pt x 4 4 = p1 at *
  generalize hp2 : pt x 8 4 = p2 at *
  generalize hp3 : pt x 12 4 = p3 at *
  generalize hp4 : pt x 16 4 = p4 at *
  generalize hp5 : pt x 20 12 = p5 at *
  clear h h'
  simp at ht
  refine ⟨(Th.ok15 _ _ _ _ _ _ _).2 ⟨by first | rfl | omega, by first | rfl | omega, by first | rfl | omega, by first | rfl | omega, by first | rfl | omega, by first | rfl | omega, by first | rfl | omega⟩, ?_⟩
  rw [Th.num15]
  (try simp only [fv_nat])
  (try unfold fv)
  omega
set_option maxRecDepth 100000 in
theorem rowA16 (x : Nat) (hx : x < 4294967296) (h : hit x 4293980400 4211142656 = true) (ht : there (read 16 x) = true) : check (read 16 x) = 0 ∧ num (read 16 x) = x := by
  have h' : x &&& 4293980400 = 4211142656 := eq_of_beq h
  have hr : read 16 x = ⟨16, ((pt x 8 4 : Nat) : Int), ((pt x 16 4 : Nat) : Int), ((pt x 0 4 : Nat) : Int), 0, 0, 0, false⟩ := rfl
  rw [hr] at ht ⊢
  clear hr
  unfold there at ht
  have s0 := seg x 0 4 1 16 16 (by decide) (by decide) (by decide)
  have f0 : pt x 0 4 < 16 := pt_lt x 0 4
  have s1 := seg x 4 4 16 16 256 (by decide) (by decide) (by decide)
  have f1 : pt x 4 4 = 0 := run_of x 4293980400 4211142656 4 4 0 15 h' (by decide) (by decide) (by decide)
  have s2 := seg x 8 4 256 16 4096 (by decide) (by decide) (by decide)
  have f2 : pt x 8 4 < 16 := pt_lt x 8 4
  have s3 := seg x 12 4 4096 16 65536 (by decide) (by decide) (by decide)
  have f3 : pt x 12 4 = 15 := run_of x 4293980400 4211142656 12 4 15 15 h' (by decide) (by decide) (by decide)
  have s4 := seg x 16 4 65536 16 1048576 (by decide) (by decide) (by decide)
  have f4 : pt x 16 4 < 16 := pt_lt x 16 4
  have s5 := seg x 20 12 1048576 4096 4294967296 (by decide) (by decide) (by decide)
  have f5 : pt x 20 12 = 4016 := run_of x 4293980400 4211142656 20 12 4016 4095 h' (by decide) (by decide) (by decide)
  have z : x / 4294967296 = 0 := Nat.div_eq_of_lt hx
  rw [Nat.div_one] at s0
  rw [z] at s5
  generalize x / 16 = q0 at *
  generalize x / 256 = q1 at *
  generalize x / 4096 = q2 at *
  generalize x / 65536 = q3 at *
  generalize x / 1048576 = q4 at *
  generalize hp0 : pt x 0 4 = p0 at *
  generalize hp1 : pt x 4 4 = p1 at *
  generalize hp2 : pt x 8 4 = p2 at *
  generalize hp3 : pt x 12 4 = p3 at *
  generalize hp4 : pt x 16 4 = p4 at *
  generalize hp5 : pt x 20 12 = p5 at *
  clear h h'
  simp at ht
  refine ⟨(Th.ok16 _ _ _ _ _ _ _).2 ⟨by first | rfl | omega, by first | rfl | omega, by first | rfl | omega, by first | rfl | omega, by first | rfl | omega, by first | rfl | omega, by first | rfl | omega⟩, ?_⟩
  rw [Th.num16]
  (try simp only [fv_nat])
  (try unfold fv)
  omega
set_option maxRecDepth 100000 in
theorem rowA17 (x : Nat) (hx : x < 4294967296) (h : hit x 4293918960 4221566976 = true) (ht : there (read 17 x) = true) : check (read 17 x) = 0 ∧ num (read 17 x) = x := by
  have h' : x &&& 4293918960 = 4221566976 := eq_of_beq h
  have hr : read 17 x = ⟨17, ((pt x 12 4 : Nat) : Int), ((pt x 16 4 : Nat) : Int), ((pt x 0 4 : Nat) : Int), ((pt x 8 4 : Nat) : Int), 0, 0, false⟩ := rfl
  rw [hr] at ht ⊢
  clear hr
  unfold there at ht
  have s0 := seg x 0 4 1 16 16 (by decide) (by decide) (by decide)
  have f0 : pt x 0 4 < 16 := pt_lt x 0 4
  have s1 := seg x 4 4 16 16 256 (by decide) (by decide) (by decide)
  have f1 : pt x 4 4 = 0 := run_of x 4293918960 4221566976 4 4 0 15 h' (by decide) (by decide) (by decide)
  have s2 := seg x 8 4 256 16 4096 (by decide) (by decide) (by decide)
  have f2 : pt x 8 4 < 16 := pt_lt x 8 4
  have s3 := seg x 12 4 4096 16 65536 (by decide) (by decide) (by decide)
  have f3 : pt x 12 4 < 16 := pt_lt x 12 4
  have s4 := seg x 16 4 65536 16 1048576 (by decide) (by decide) (by decide)
  have f4 : pt x 16 4 < 16 := pt_lt x 16 4
  have s5 := seg x 20 12 1048576 4096 4294967296 (by decide) (by decide) (by decide)
  have f5 : pt x 20 12 = 4026 := run_of x 4293918960 4221566976 20 12 4026 4095 h' (by decide) (by decide) (by decide)
  have z : x / 4294967296 = 0 := Nat.div_eq_of_lt hx
  rw [Nat.div_one] at s0
  rw [z] at s5
  generalize x / 16 = q0 at *
  generalize x / 256 = q1 at *
  generalize x / 4096 = q2 at *
  generalize x / 65536 = q3 at *
  generalize x / 1048576 = q4 at *
  generalize hp0 : pt x 0 4 = p0 at *
  generalize hp1 : pt x 4 4 = p1 at *
  generalize hp2 : pt x 8 4 = p2 at *
  generalize hp3 : pt x 12 4 = p3 at *
  generalize hp4 : pt x 16 4 = p4 at *
  generalize hp5 : pt x 20 12 = p5 at *
  clear h h'
  simp at ht
  refine ⟨(Th.ok17 _ _ _ _ _ _ _).2 ⟨by first | rfl | omega, by first | rfl | omega, by first | rfl | omega, by first | rfl | omega, by first | rfl | omega, by first | rfl | omega, by first | rfl | omega⟩, ?_⟩
  rw [Th.num17]
  (try simp only [fv_nat])
  (try unfold fv)
  omega
set_option maxRecDepth 100000 in
theorem rowA18 (x : Nat) (hx : x < 4294967296) (h : hit x 4293951520 4083154944 = true) (ht : there (read 18 x) = true) : check (read 18 x) = 0 ∧ num (read 18 x) = x := by
  have h' : x &&& 4293951520 = 4083154944 := eq_of_beq h
  have hr : read 18 x = ⟨18, ((pt x 8 4 : Nat) : Int), ((pt x 16 4 : Nat) : Int), 0, ((pt x 0 5 : Nat) : Int) + 1 - ((shift x : Nat) : Int), ((shift x : Nat) : Int), 0, false⟩ := rfl
  rw [hr] at ht ⊢
  clear hr
  unfold there at ht
  unfold shift at *
  have s0 := seg x 0 5 1 32 32 (by decide) (by decide) (by decide)
  have f0 : pt x 0 5 < 32 := pt_lt x 0 5
  have s1 := seg x 5 1 32 2 64 (by decide) (by decide) (by decide)
  have f1 : pt x 5 1 = 0 := run_of x 4293951520 4083154944 5 1 0 1 h' (by decide) (by decide) (by decide)
  have s2 := seg x 6 2 64 4 256 (by decide) (by decide) (by decide)
  have f2 : pt x 6 2 < 4 := pt_lt x 6 2
  have s3 := seg x 8 4 256 16 4096 (by decide) (by decide) (by decide)
  have f3 : pt x 8 4 < 16 := pt_lt x 8 4
  have s4 := seg x 12 3 4096 8 32768 (by decide) (by decide) (by decide)
  have f4 : pt x 12 3 < 8 := pt_lt x 12 3
  have s5 := seg x 15 1 32768 2 65536 (by decide) (by decide) (by decide)
  have f5 : pt x 15 1 = 0 := run_of x 4293951520 4083154944 15 1 0 1 h' (by decide) (by decide) (by decide)
  have s6 := seg x 16 4 65536 16 1048576 (by decide) (by decide) (by decide)
  have f6 : pt x 16 4 < 16 := pt_lt x 16 4
  have s7 := seg x 20 12 1048576 4096 4294967296 (by decide) (by decide) (by decide)
  have f7 : pt x 20 12 = 3894 := run_of x 4293951520 4083154944 20 12 3894 4095 h' (by decide) (by decide) (by decide)
  have z : x / 4294967296 = 0 := Nat.div_eq_of_lt hx
  rw [Nat.div_one] at s0
  rw [z] at s7
  generalize x / 32 = q0 at *
  generalize x / 64 = q1 at *
  generalize x / 256 = q2 at *
  generalize x / 4096 = q3 at *
  generalize x / 32768 = q4 at *
  generalize x / 65536 = q5 at *
  generalize x / 1048576 = q6 at *
  generalize hp0 : pt x 0 5 = p0 at *
  generalize hp1 : pt x 5 1 = p1 at *
  generalize hp2 : pt x 6 2 = p2 at *
  generalize hp3 : pt x 8 4 = p3 at *
  generalize hp4 : pt x 12 3 = p4 at *
  generalize hp5 : pt x 15 1 = p5 at *
  generalize hp6 : pt x 16 4 = p6 at *
  generalize hp7 : pt x 20 12 = p7 at *
  clear h h'
  simp at ht
  refine ⟨(Th.ok18 _ _ _ _ _ _ _).2 ⟨by first | rfl | omega, by first | rfl | omega, by first | rfl | omega, by first | rfl | omega, by first | rfl | omega, by first | rfl | omega, by first | rfl | omega⟩, ?_⟩
  rw [Th.num18]
  have g0 : fv ((p4 * 4 + p2 : Nat) : Int) 4 8 = p4 := by rw [fv_nat]; exact dig _ (0) p4 (p2 * 1) 4 8 (by omega) (by omega) (by omega)
  have g1 : fv ((p4 * 4 + p2 : Nat) : Int) 1 4 = p2 := by rw [fv_nat]; exact dig _ (p4 * 1) p2 (0) 1 4 (by omega) (by omega) (by omega)
  have g2 : fv ((p3 : Nat) : Int) 1 16 = p3 := by rw [fv_nat]; omega
  have g3 : fv ((p6 : Nat) : Int) 1 16 = p6 := by rw [fv_nat]; omega
  have gi : ((p4 * 4 + p2 : Nat) : Int) + (((p0 : Nat) : Int) + 1 - ((p4 * 4 + p2 : Nat) : Int)) - 1 = ((p0 : Nat) : Int) := by omega
  have g4 : fv (((p4 * 4 + p2 : Nat) : Int) + (((p0 : Nat) : Int) + 1 - ((p4 * 4 + p2 : Nat) : Int)) - 1) 1 32 = p0 := by rw [gi, fv_nat]; omega
  rw [g0, g1, g2, g3, g4]
  omega
set_option maxRecDepth 100000 in
theorem rowA19 (x : Nat) (hx : x < 4294967296) (h : hit x 4294967232 26624 = true) (ht : there (read 19 x) = true) : check (read 19 x) = 0 ∧ num (read 19 x) = x := by
  have h' : x &&& 4294967232 = 26624 := eq_of_beq h
  have hr : read 19 x = ⟨19, ((pt x 0 3 : Nat) : Int), ((pt x 3 3 : Nat) : Int), 0, 0, 0, 0, false⟩ := rfl
  rw [hr] at ht ⊢
  clear hr
  unfold there at ht
  have s0 := seg x 0 3 1 8 8 (by decide) (by decide) (by decide)
  have f0 : pt x 0 3 < 8 := pt_lt x 0 3
  have s1 := seg x 3 3 8 8 64 (by decide) (by decide) (by decide)
  have f1 : pt x 3 3 < 8 := pt_lt x 3 3
  have s2 := seg x 6 26 64 67108864 4294967296 (by decide) (by decide) (by decide)
  have f2 : pt x 6 26 = 416 := run_of x 4294967232 26624 6 26 416 67108863 h' (by decide) (by decide) (by decide)
  have z : x / 4294967296 = 0 := Nat.div_eq_of_lt hx
  rw [Nat.div_one] at s0
  rw [z] at s2
  generalize x / 8 = q0 at *
  generalize x / 64 = q1 at *
  generalize hp0 : pt x 0 3 = p0 at *
  generalize hp1 : pt x 3 3 = p1 at *
  generalize hp2 : pt x 6 26 = p2 at *
  clear h h'
  simp at ht
  refine ⟨(Th.ok19 _ _ _ _ _ _ _).2 ⟨by first | rfl | omega, by first | rfl | omega, by first | rfl | omega, by first | rfl | omega, by first | rfl | omega, by first | rfl | omega, by first | rfl | omega⟩, ?_⟩
  rw [Th.num19]
  (try simp only [fv_nat])
  (try unfold fv)
  omega
set_option maxRecDepth 100000 in
theorem rowA20 (x : Nat) (hx : x < 4294967296) (h : hit x 4294967232 24576 = true) (ht : there (read 20 x) = true) : check (read 20 x) = 0 ∧ num (read 20 x) = x := by
  have h' : x &&& 4294967232 = 24576 := eq_of_beq h
  have hr : read 20 x = ⟨20, ((pt x 0 3 : Nat) : Int), ((pt x 3 3 : Nat) : Int), 0, 0, 0, 0, false⟩ := rfl
  rw [hr] at ht ⊢
  clear hr
  unfold there at ht
  have s0 := seg x 0 3 1 8 8 (by decide) (by decide) (by decide)
  have f0 : pt x 0 3 < 8 := pt_lt x 0 3
  have s1 := seg x 3 3 8 8 64 (by decide) (by decide) (by decide)
  have f1 : pt x 3 3 < 8 := pt_lt x 3 3
  have s2 := seg x 6 26 64 67108864 4294967296 (by decide) (by decide) (by decide)
  have f2 : pt x 6 26 = 384 := run_of x 4294967232 24576 6 26 384 67108863 h' (by decide) (by decide) (by decide)
  have z : x / 4294967296 = 0 := Nat.div_eq_of_lt hx
  rw [Nat.div_one] at s0
  rw [z] at s2
  generalize x / 8 = q0 at *
  generalize x / 64 = q1 at *
  generalize hp0 : pt x 0 3 = p0 at *
  generalize hp1 : pt x 3 3 = p1 at *
  generalize hp2 : pt x 6 26 = p2 at *
  clear h h'
  simp at ht
  refine ⟨(Th.ok20 _ _ _ _ _ _ _).2 ⟨by first | rfl | omega, by first | rfl | omega, by first | rfl | omega, by first | rfl | omega, by first | rfl | omega, by first | rfl | omega, by first | rfl | omega⟩, ?_⟩
  rw [Th.num20]
  (try simp only [fv_nat])
  (try unfold fv)
  omega
set_option maxRecDepth 100000 in
theorem rowA21 (x : Nat) (hx : x < 4294967296) (h : hit x 4294967232 30720 = true) (ht : there (read 21 x) = true) : check (read 21 x) = 0 ∧ num (read 21 x) = x := by
  have h' : x &&& 4294967232 = 30720 := eq_of_beq h
  have hr : read 21 x = ⟨21, ((pt x 0 3 : Nat) : Int), ((pt x 3 3 : Nat) : Int), 0, 0, 0, 0, false⟩ := rfl
  rw [hr] at ht ⊢
  clear hr
  unfold there at ht
  have s0 := seg x 0 3 1 8 8 (by decide) (by decide) (by decide)
  have f0 : pt x 0 3 < 8 := pt_lt x 0 3
  have s1 := seg x 3 3 8 8 64 (by decide) (by decide) (by decide)
  have f1 : pt x 3 3 < 8 := pt_lt x 3 3
  have s2 := seg x 6 26 64 67108864 4294967296 (by decide) (by decide) (by decide)
  have f2 : pt x 6 26 = 480 := run_of x 4294967232 30720 6 26 480 67108863 h' (by decide) (by decide) (by decide)
  have z : x / 4294967296 = 0 := Nat.div_eq_of_lt hx
  rw [Nat.div_one] at s0
  rw [z] at s2
  generalize x / 8 = q0 at *
  generalize x / 64 = q1 at *
  generalize hp0 : pt x 0 3 = p0 at *
  generalize hp1 : pt x 3 3 = p1 at *
  generalize hp2 : pt x 6 26 = p2 at *
  clear h h'
  simp at ht
  refine ⟨(Th.ok21 _ _ _ _ _ _ _).2 ⟨by first | rfl | omega, by first | rfl | omega, by first | rfl | omega, by first | rfl | omega, by first | rfl | omega, by first | rfl | omega, by first | rfl | omega⟩, ?_⟩
  rw [Th.num21]
  (try simp only [fv_nat])
  (try unfold fv)
  omega
set_option maxRecDepth 100000 in
theorem rowA22 (x : Nat) (hx : x < 4294967296) (h : hit x 4294967232 28672 = true) (ht : there (read 22 x) = true) : check (read 22 x) = 0 ∧ num (read 22 x) = x := by
  have h' : x &&& 4294967232 = 28672 := eq_of_beq h
  have hr : read 22 x = ⟨22, ((pt x 0 3 : Nat) : Int), ((pt x 3 3 : Nat) : Int), 0, 0, 0, 0, false⟩ := rfl
  rw [hr] at ht ⊢
  clear hr
  unfold there at ht
  have s0 := seg x 0 3 1 8 8 (by decide) (by decide) (by decide)
  have f0 : pt x 0 3 < 8 := pt_lt x 0 3
  have s1 := seg x 3 3 8 8 64 (by decide) (by decide) (by decide)
  have f1 : pt x 3 3 < 8 := pt_lt x 3 3
  have s2 := seg x 6 26 64 67108864 4294967296 (by decide) (by decide) (by decide)
  have f2 : pt x 6 26 = 448 := run_of x 4294967232 28672 6 26 448 67108863 h' (by decide) (by decide) (by decide)
  have z : x / 4294967296 = 0 := Nat.div_eq_of_lt hx
  rw [Nat.div_one] at s0
  rw [z] at s2
  generalize x / 8 = q0 at *
  generalize x / 64 = q1 at *
  generalize hp0 : pt x 0 3 = p0 at *
  generalize hp1 : pt x 3 3 = p1 at *
  generalize hp2 : pt x 6 26 = p2 at *
  clear h h'
  simp at ht
  refine ⟨(Th.ok22 _ _ _ _ _ _ _).2 ⟨by first | rfl | omega, by first | rfl | omega, by first | rfl | omega, by first | rfl | omega, by first | rfl | omega, by first | rfl | omega, by first | rfl | omega⟩, ?_⟩
  rw [Th.num22]
  (try simp only [fv_nat])
  (try unfold fv)
  omega
set_option maxRecDepth 100000 in
theorem rowA23 (x : Nat) (hx : x < 4294967296) (h : hit x 4294967232 17024 = true) (ht : there (read 23 x) = true) : check (read 23 x) = 0 ∧ num (read 23 x) = x := by
  have h' : x &&& 4294967232 = 17024 := eq_of_beq h
  have hr : read 23 x = ⟨23, 0, ((pt x 0 3 : Nat) : Int), ((pt x 3 3 : Nat) : Int), 0, 0, 0, false⟩ := rfl
  rw [hr] at ht ⊢
  clear hr
  unfold there at ht
  have s0 := seg x 0 3 1 8 8 (by decide) (by decide) (by decide)
  have f0 : pt x 0 3 < 8 := pt_lt x 0 3
  have s1 := seg x 3 3 8 8 64 (by decide) (by decide) (by decide)
  have f1 : pt x 3 3 < 8 := pt_lt x 3 3
  have s2 := seg x 6 26 64 67108864 4294967296 (by decide) (by decide) (by decide)
  have f2 : pt x 6 26 = 266 := run_of x 4294967232 17024 6 26 266 67108863 h' (by decide) (by decide) (by decide)
  have z : x / 4294967296 = 0 := Nat.div_eq_of_lt hx
  rw [Nat.div_one] at s0
  rw [z] at s2
  generalize x / 8 = q0 at *
  generalize x / 64 = q1 at *
  generalize hp0 : pt x 0 3 = p0 at *
  generalize hp1 : pt x 3 3 = p1 at *
  generalize hp2 : pt x 6 26 = p2 at *
  clear h h'
  simp at ht
  refine ⟨(Th.ok23 _ _ _ _ _ _ _).2 ⟨by first | rfl | omega, by first | rfl | omega, by first | rfl | omega, by first | rfl | omega, by first | rfl | omega, by first | rfl | omega, by first | rfl | omega⟩, ?_⟩
  rw [Th.num23]
  (try simp only [fv_nat])
  (try unfold fv)
  omega
theorem signed_is (n c H F : Nat) (hH : 2 ^ (c - 1) = H) (hF : 2 ^ c = F) : signed n c = if n < H then (n : Int) else (n : Int) - (F : Int) := by
  subst hH; subst hF
  unfold signed
  rw [Wd.pow_cast]
set_option maxRecDepth 100000 in
theorem rowA24n (x : Nat) (hx : x < 4294967296) (h : hit x 4294965248 57344 = true) (ht : there (read 24 x) = true) : check (read 24 x) = 0 ∧ num (read 24 x) = x := by
  have h' : x &&& 4294965248 = 57344 := eq_of_beq h
  have ft : pt x 11 21 = 28 := run_of x 4294965248 57344 11 21 28 2097151 h' (by decide) (by decide) (by decide)
  have st := seg x 11 21 2048 2097152 4294967296 (by decide) (by decide) (by decide)
  have hw : ¬ 65536 ≤ x := by omega
  clear ft st
  have hr : read 24 x = ⟨24, 0, 0, 0, 0, signed (b24n x) 12, 0, false⟩ := by
    show readB 24 x = _
    unfold readB; rw [if_neg hw]; rfl
  rw [hr] at ht ⊢
  clear hr
  unfold there at ht
  have hs := signed_is (b24n x) 12 2048 4096 (by decide) (by decide)
  generalize signed (b24n x) 12 = I at *
  unfold b24n at hs
  have s0 := seg x 0 11 1 2048 2048 (by decide) (by decide) (by decide)
  have f0 : pt x 0 11 < 2048 := pt_lt x 0 11
  have s1 := seg x 11 21 2048 2097152 4294967296 (by decide) (by decide) (by decide)
  have f1 : pt x 11 21 = 28 := run_of x 4294965248 57344 11 21 28 2097151 h' (by decide) (by decide) (by decide)
  have z : x / 4294967296 = 0 := Nat.div_eq_of_lt hx
  rw [Nat.div_one] at s0
  rw [z] at s1
  generalize x / 2048 = q0 at *
  generalize hp0 : pt x 0 11 = p0 at *
  generalize hp1 : pt x 11 21 = p1 at *
  clear h h'
  simp at ht
  by_cases hc : p0 * 2 < 2048
  · rw [if_pos hc] at hs
    have ho : off I = ((p0 * 2 : Nat) : Int) := by unfold off; rw [if_neg (by omega)]; omega
    have g0 : fv (off I) 2 2048 = p0 := by rw [ho, fv_nat]; exact dig _ (0) p0 (0) 2 2048 (by omega) (by clear hs ho hc s0 s1; omega) (by omega)
    refine ⟨(Th.ok24 _ _ _ _ _ _ _).2 ⟨rfl, rfl, rfl, rfl, ⟨by omega, ?_, ?_⟩, ?_⟩, ?_⟩
    · intro hx; first | (cases hx; done) | omega
    · intro hx; first | (cases hx; done) | omega
    · first | rfl | omega | exact ⟨rfl, Or.inl rfl⟩ | exact ⟨by omega, by simp⟩ | exact ⟨⟨by omega, by omega⟩, by simp⟩
    rw [Th.num24n, g0]
    omega
  · rw [if_neg hc] at hs
    have ho : off I = ((p0 * 2 + 33550336 : Nat) : Int) := by unfold off; rw [if_pos (by omega)]; omega
    have g0 : fv (off I) 2 2048 = p0 := by rw [ho, fv_nat]; exact dig _ (8191) p0 (0) 2 2048 (by omega) (by clear hs ho hc s0 s1; omega) (by omega)
    refine ⟨(Th.ok24 _ _ _ _ _ _ _).2 ⟨rfl, rfl, rfl, rfl, ⟨by omega, ?_, ?_⟩, ?_⟩, ?_⟩
    · intro hx; first | (cases hx; done) | omega
    · intro hx; first | (cases hx; done) | omega
    · first | rfl | omega | exact ⟨rfl, Or.inl rfl⟩ | exact ⟨by omega, by simp⟩ | exact ⟨⟨by omega, by omega⟩, by simp⟩
    rw [Th.num24n, g0]
    omega
set_option maxRecDepth 100000 in
theorem rowA24w (x : Nat) (hx : x < 4294967296) (h : hit x 4160802816 4026568704 = true) (ht : there (read 24 x) = true) : check (read 24 x) = 0 ∧ num (read 24 x) = x := by
  have h' : x &&& 4160802816 = 4026568704 := eq_of_beq h
  have ft : pt x 27 5 = 30 := run_of x 4160802816 4026568704 27 5 30 31 h' (by decide) (by decide) (by decide)
  have st := seg x 27 5 134217728 32 4294967296 (by decide) (by decide) (by decide)
  have hw : 65536 ≤ x := by omega
  clear ft st
  have hr : read 24 x = ⟨24, 0, 0, 0, 0, signed (b24w x) 25, 0, true⟩ := by
    show readB 24 x = _
    unfold readB; rw [if_pos hw]; rfl
  rw [hr] at ht ⊢
  clear hr
  unfold there at ht
  have hs := signed_is (b24w x) 25 16777216 33554432 (by decide) (by decide)
  generalize signed (b24w x) 25 = I at *
  unfold b24w at hs
  have s0 := seg x 0 11 1 2048 2048 (by decide) (by decide) (by decide)
  have f0 : pt x 0 11 < 2048 := pt_lt x 0 11
  have s1 := seg x 11 1 2048 2 4096 (by decide) (by decide) (by decide)
  have f1 : pt x 11 1 < 2 := pt_lt x 11 1
  have s2 := seg x 12 1 4096 2 8192 (by decide) (by decide) (by decide)
  have f2 : pt x 12 1 = 1 := run_of x 4160802816 4026568704 12 1 1 1 h' (by decide) (by decide) (by decide)
  have s3 := seg x 13 1 8192 2 16384 (by decide) (by decide) (by decide)
  have f3 : pt x 13 1 < 2 := pt_lt x 13 1
  have s4 := seg x 14 2 16384 4 65536 (by decide) (by decide) (by decide)
  have f4 : pt x 14 2 = 2 := run_of x 4160802816 4026568704 14 2 2 3 h' (by decide) (by decide) (by decide)
  have s5 := seg x 16 10 65536 1024 67108864 (by decide) (by decide) (by decide)
  have f5 : pt x 16 10 < 1024 := pt_lt x 16 10
  have s6 := seg x 26 1 67108864 2 134217728 (by decide) (by decide) (by decide)
  have f6 : pt x 26 1 < 2 := pt_lt x 26 1
  have s7 := seg x 27 5 134217728 32 4294967296 (by decide) (by decide) (by decide)
  have f7 : pt x 27 5 = 30 := run_of x 4160802816 4026568704 27 5 30 31 h' (by decide) (by decide) (by decide)
  have z : x / 4294967296 = 0 := Nat.div_eq_of_lt hx
  rw [Nat.div_one] at s0
  rw [z] at s7
  generalize x / 2048 = q0 at *
  generalize x / 4096 = q1 at *
  generalize x / 8192 = q2 at *
  generalize x / 16384 = q3 at *
  generalize x / 65536 = q4 at *
  generalize x / 67108864 = q5 at *
  generalize x / 134217728 = q6 at *
  generalize hp0 : pt x 0 11 = p0 at *
  generalize hp1 : pt x 11 1 = p1 at *
  generalize hp2 : pt x 12 1 = p2 at *
  generalize hp3 : pt x 13 1 = p3 at *
  generalize hp4 : pt x 14 2 = p4 at *
  generalize hp5 : pt x 16 10 = p5 at *
  generalize hp6 : pt x 26 1 = p6 at *
  generalize hp7 : pt x 27 5 = p7 at *
  clear h h'
  simp at ht
  have a1 : alike p3 p6 < 2 := alike_lt _ _
  have a2 : alike p1 p6 < 2 := alike_lt _ _
  have e1 : (if alike p3 p6 = p6 then 1 else 0) = p3 := by unfold alike; split <;> split <;> omega
  have e2 : (if alike p1 p6 = p6 then 1 else 0) = p1 := by unfold alike; split <;> split <;> omega
  generalize alike p3 p6 = A at *
  generalize alike p1 p6 = B at *
  have E1 := Lib.hid e1
  have E2 := Lib.hid e2
  clear e1 e2
  by_cases hc : p6 * 16777216 + A * 8388608 + B * 4194304 + p5 * 4096 + p0 * 2 < 16777216
  · rw [if_pos hc] at hs
    have ho : off I = ((p6 * 16777216 + A * 8388608 + B * 4194304 + p5 * 4096 + p0 * 2 : Nat) : Int) := by unfold off; rw [if_neg (by omega)]; omega
    have k1 : fv (off I) 8388608 2 = A := by rw [ho, fv_nat]; exact dig _ (p6 * 1) A (B * 4194304 + p5 * 4096 + p0 * 2) 8388608 2 (by omega) (by clear hs ho hc s0 s1 s2 s3 s4 s5 s6 s7; omega) (by omega)
    have k2 : fv (off I) 4194304 2 = B := by rw [ho, fv_nat]; exact dig _ (p6 * 2 + A * 1) B (p5 * 4096 + p0 * 2) 4194304 2 (by omega) (by clear hs ho hc s0 s1 s2 s3 s4 s5 s6 s7; omega) (by omega)
    have g0 : fv (off I) 16777216 2 = p6 := by rw [ho, fv_nat]; exact dig _ (0) p6 (A * 8388608 + B * 4194304 + p5 * 4096 + p0 * 2) 16777216 2 (by omega) (by clear hs ho hc s0 s1 s2 s3 s4 s5 s6 s7; omega) (by omega)
    have g1 : fv (off I) 4096 1024 = p5 := by rw [ho, fv_nat]; exact dig _ (p6 * 4 + A * 2 + B * 1) p5 (p0 * 2) 4096 1024 (by omega) (by clear hs ho hc s0 s1 s2 s3 s4 s5 s6 s7; omega) (by omega)
    have g2 : fv (off I) 2 2048 = p0 := by rw [ho, fv_nat]; exact dig _ (p6 * 4096 + A * 2048 + B * 1024 + p5 * 1) p0 (0) 2 2048 (by omega) (by clear hs ho hc s0 s1 s2 s3 s4 s5 s6 s7; omega) (by omega)
    have k0 : 0 ≤ off I := by rw [ho]; omega
    have l1 : fv (Th.alike (off I) 23 24) 1 2 = p3 := by rw [Th.alike_fv (off I) 23 24 8388608 16777216 (by decide) (by decide) k0, k1, g0]; exact E1.out
    have l2 : fv (Th.alike (off I) 22 24) 1 2 = p1 := by rw [Th.alike_fv (off I) 22 24 4194304 16777216 (by decide) (by decide) k0, k2, g0]; exact E2.out
    refine ⟨(Th.ok24 _ _ _ _ _ _ _).2 ⟨rfl, rfl, rfl, rfl, ⟨by omega, ?_, ?_⟩, ?_⟩, ?_⟩
    · intro hx; first | (cases hx; done) | omega
    · intro hx; first | (cases hx; done) | omega
    · first | rfl | omega | exact ⟨rfl, Or.inl rfl⟩ | exact ⟨by omega, by simp⟩ | exact ⟨⟨by omega, by omega⟩, by simp⟩
    rw [Th.num24w, g0, g1, g2, l1, l2]
    omega
  · rw [if_neg hc] at hs
    have ho : off I = ((p6 * 16777216 + A * 8388608 + B * 4194304 + p5 * 4096 + p0 * 2 : Nat) : Int) := by unfold off; rw [if_pos (by omega)]; omega
    have k1 : fv (off I) 8388608 2 = A := by rw [ho, fv_nat]; exact dig _ (p6 * 1) A (B * 4194304 + p5 * 4096 + p0 * 2) 8388608 2 (by omega) (by clear hs ho hc s0 s1 s2 s3 s4 s5 s6 s7; omega) (by omega)
    have k2 : fv (off I) 4194304 2 = B := by rw [ho, fv_nat]; exact dig _ (p6 * 2 + A * 1) B (p5 * 4096 + p0 * 2) 4194304 2 (by omega) (by clear hs ho hc s0 s1 s2 s3 s4 s5 s6 s7; omega) (by omega)
    have g0 : fv (off I) 16777216 2 = p6 := by rw [ho, fv_nat]; exact dig _ (0) p6 (A * 8388608 + B * 4194304 + p5 * 4096 + p0 * 2) 16777216 2 (by omega) (by clear hs ho hc s0 s1 s2 s3 s4 s5 s6 s7; omega) (by omega)
    have g1 : fv (off I) 4096 1024 = p5 := by rw [ho, fv_nat]; exact dig _ (p6 * 4 + A * 2 + B * 1) p5 (p0 * 2) 4096 1024 (by omega) (by clear hs ho hc s0 s1 s2 s3 s4 s5 s6 s7; omega) (by omega)
    have g2 : fv (off I) 2 2048 = p0 := by rw [ho, fv_nat]; exact dig _ (p6 * 4096 + A * 2048 + B * 1024 + p5 * 1) p0 (0) 2 2048 (by omega) (by clear hs ho hc s0 s1 s2 s3 s4 s5 s6 s7; omega) (by omega)
    have k0 : 0 ≤ off I := by rw [ho]; omega
    have l1 : fv (Th.alike (off I) 23 24) 1 2 = p3 := by rw [Th.alike_fv (off I) 23 24 8388608 16777216 (by decide) (by decide) k0, k1, g0]; exact E1.out
    have l2 : fv (Th.alike (off I) 22 24) 1 2 = p1 := by rw [Th.alike_fv (off I) 22 24 4194304 16777216 (by decide) (by decide) k0, k2, g0]; exact E2.out
    refine ⟨(Th.ok24 _ _ _ _ _ _ _).2 ⟨rfl, rfl, rfl, rfl, ⟨by omega, ?_, ?_⟩, ?_⟩, ?_⟩
    · intro hx; first | (cases hx; done) | omega
    · intro hx; first | (cases hx; done) | omega
    · first | rfl | omega | exact ⟨rfl, Or.inl rfl⟩ | exact ⟨by omega, by simp⟩ | exact ⟨⟨by omega, by omega⟩, by simp⟩
    rw [Th.num24w, g0, g1, g2, l1, l2]
    omega
set_option maxRecDepth 100000 in
theorem rowA25n (x : Nat) (hx : x < 4294967296) (h : hit x 4294963200 53248 = true) (ht : there (read 25 x) = true) : check (read 25 x) = 0 ∧ num (read 25 x) = x := by
  have h' : x &&& 4294963200 = 53248 := eq_of_beq h
  have ft : pt x 12 20 = 13 := run_of x 4294963200 53248 12 20 13 1048575 h' (by decide) (by decide) (by decide)
  have st := seg x 12 20 4096 1048576 4294967296 (by decide) (by decide) (by decide)
  have hw : ¬ 65536 ≤ x := by omega
  clear ft st
  have hr : read 25 x = ⟨25, 0, 0, 0, 0, signed (b25n x) 9, ((pt x 8 4 : Nat) : Int), false⟩ := by
    show readB 25 x = _
    unfold readB; rw [if_neg hw, if_neg hw]; rfl
  rw [hr] at ht ⊢
  clear hr
  unfold there at ht
  have hs := signed_is (b25n x) 9 256 512 (by decide) (by decide)
  generalize signed (b25n x) 9 = I at *
  unfold b25n at hs
  have s0 := seg x 0 8 1 256 256 (by decide) (by decide) (by decide)
  have f0 : pt x 0 8 < 256 := pt_lt x 0 8
  have s1 := seg x 8 4 256 16 4096 (by decide) (by decide) (by decide)
  have f1 : pt x 8 4 < 16 := pt_lt x 8 4
  have s2 := seg x 12 20 4096 1048576 4294967296 (by decide) (by decide) (by decide)
  have f2 : pt x 12 20 = 13 := run_of x 4294963200 53248 12 20 13 1048575 h' (by decide) (by decide) (by decide)
  have z : x / 4294967296 = 0 := Nat.div_eq_of_lt hx
  rw [Nat.div_one] at s0
  rw [z] at s2
  generalize x / 256 = q0 at *
  generalize x / 4096 = q1 at *
  generalize hp0 : pt x 0 8 = p0 at *
  generalize hp1 : pt x 8 4 = p1 at *
  generalize hp2 : pt x 12 20 = p2 at *
  clear h h'
  simp at ht
  have gc : fv ((p1 : Nat) : Int) 1 16 = p1 := by rw [fv_nat]; omega
  by_cases hc : p0 * 2 < 256
  · rw [if_pos hc] at hs
    have ho : off I = ((p0 * 2 : Nat) : Int) := by unfold off; rw [if_neg (by omega)]; omega
    have g0 : fv (off I) 2 256 = p0 := by rw [ho, fv_nat]; exact dig _ (0) p0 (0) 2 256 (by omega) (by clear hs ho hc s0 s1 s2; omega) (by omega)
    refine ⟨(Th.ok25 _ _ _ _ _ _ _).2 ⟨rfl, rfl, rfl, rfl, ⟨by omega, ?_, ?_⟩, ?_⟩, ?_⟩
    · intro hx; first | (cases hx; done) | omega
    · intro hx; first | (cases hx; done) | omega
    · first | rfl | omega | exact ⟨rfl, Or.inl rfl⟩ | exact ⟨by omega, by simp⟩ | exact ⟨⟨by omega, by omega⟩, by simp⟩
    rw [Th.num25n, g0, gc]
    omega
  · rw [if_neg hc] at hs
    have ho : off I = ((p0 * 2 + 33553920 : Nat) : Int) := by unfold off; rw [if_pos (by omega)]; omega
    have g0 : fv (off I) 2 256 = p0 := by rw [ho, fv_nat]; exact dig _ (65535) p0 (0) 2 256 (by omega) (by clear hs ho hc s0 s1 s2; omega) (by omega)
    refine ⟨(Th.ok25 _ _ _ _ _ _ _).2 ⟨rfl, rfl, rfl, rfl, ⟨by omega, ?_, ?_⟩, ?_⟩, ?_⟩
    · intro hx; first | (cases hx; done) | omega
    · intro hx; first | (cases hx; done) | omega
    · first | rfl | omega | exact ⟨rfl, Or.inl rfl⟩ | exact ⟨by omega, by simp⟩ | exact ⟨⟨by omega, by omega⟩, by simp⟩
    rw [Th.num25n, g0, gc]
    omega
set_option maxRecDepth 100000 in
theorem rowA25w (x : Nat) (hx : x < 4294967296) (h : hit x 4160802816 4026564608 = true) (ht : there (read 25 x) = true) : check (read 25 x) = 0 ∧ num (read 25 x) = x := by
  have h' : x &&& 4160802816 = 4026564608 := eq_of_beq h
  have ft : pt x 27 5 = 30 := run_of x 4160802816 4026564608 27 5 30 31 h' (by decide) (by decide) (by decide)
  have st := seg x 27 5 134217728 32 4294967296 (by decide) (by decide) (by decide)
  have hw : 65536 ≤ x := by omega
  clear ft st
  have hr : read 25 x = ⟨25, 0, 0, 0, 0, signed (b25w x) 21, ((pt x 22 4 : Nat) : Int), true⟩ := by
    show readB 25 x = _
    unfold readB; rw [if_pos hw, if_pos hw]; rfl
  rw [hr] at ht ⊢
  clear hr
  unfold there at ht
  have hs := signed_is (b25w x) 21 1048576 2097152 (by decide) (by decide)
  generalize signed (b25w x) 21 = I at *
  unfold b25w at hs
  have s0 := seg x 0 11 1 2048 2048 (by decide) (by decide) (by decide)
  have f0 : pt x 0 11 < 2048 := pt_lt x 0 11
  have s1 := seg x 11 1 2048 2 4096 (by decide) (by decide) (by decide)
  have f1 : pt x 11 1 < 2 := pt_lt x 11 1
  have s2 := seg x 12 1 4096 2 8192 (by decide) (by decide) (by decide)
  have f2 : pt x 12 1 = 0 := run_of x 4160802816 4026564608 12 1 0 1 h' (by decide) (by decide) (by decide)
  have s3 := seg x 13 1 8192 2 16384 (by decide) (by decide) (by decide)
  have f3 : pt x 13 1 < 2 := pt_lt x 13 1
  have s4 := seg x 14 2 16384 4 65536 (by decide) (by decide) (by decide)
  have f4 : pt x 14 2 = 2 := run_of x 4160802816 4026564608 14 2 2 3 h' (by decide) (by decide) (by decide)
  have s5 := seg x 16 6 65536 64 4194304 (by decide) (by decide) (by decide)
  have f5 : pt x 16 6 < 64 := pt_lt x 16 6
  have s6 := seg x 22 4 4194304 16 67108864 (by decide) (by decide) (by decide)
  have f6 : pt x 22 4 < 16 := pt_lt x 22 4
  have s7 := seg x 26 1 67108864 2 134217728 (by decide) (by decide) (by decide)
  have f7 : pt x 26 1 < 2 := pt_lt x 26 1
  have s8 := seg x 27 5 134217728 32 4294967296 (by decide) (by decide) (by decide)
  have f8 : pt x 27 5 = 30 := run_of x 4160802816 4026564608 27 5 30 31 h' (by decide) (by decide) (by decide)
  have z : x / 4294967296 = 0 := Nat.div_eq_of_lt hx
  rw [Nat.div_one] at s0
  rw [z] at s8
  generalize x / 2048 = q0 at *
  generalize x / 4096 = q1 at *
  generalize x / 8192 = q2 at *
  generalize x / 16384 = q3 at *
  generalize x / 65536 = q4 at *
  generalize x / 4194304 = q5 at *
  generalize x / 67108864 = q6 at *
  generalize x / 134217728 = q7 at *
  generalize hp0 : pt x 0 11 = p0 at *
  generalize hp1 : pt x 11 1 = p1 at *
  generalize hp2 : pt x 12 1 = p2 at *
  generalize hp3 : pt x 13 1 = p3 at *
  generalize hp4 : pt x 14 2 = p4 at *
  generalize hp5 : pt x 16 6 = p5 at *
  generalize hp6 : pt x 22 4 = p6 at *
  generalize hp7 : pt x 26 1 = p7 at *
  generalize hp8 : pt x 27 5 = p8 at *
  clear h h'
  simp at ht
  have gc : fv ((p6 : Nat) : Int) 1 16 = p6 := by rw [fv_nat]; omega
  by_cases hc : p7 * 1048576 + p1 * 524288 + p3 * 262144 + p5 * 4096 + p0 * 2 < 1048576
  · rw [if_pos hc] at hs
    have ho : off I = ((p7 * 1048576 + p1 * 524288 + p3 * 262144 + p5 * 4096 + p0 * 2 : Nat) : Int) := by unfold off; rw [if_neg (by omega)]; omega
    have g0 : fv (off I) 1048576 2 = p7 := by rw [ho, fv_nat]; exact dig _ (0) p7 (p1 * 524288 + p3 * 262144 + p5 * 4096 + p0 * 2) 1048576 2 (by omega) (by clear hs ho hc s0 s1 s2 s3 s4 s5 s6 s7 s8; omega) (by omega)
    have g1 : fv (off I) 4096 64 = p5 := by rw [ho, fv_nat]; exact dig _ (p7 * 4 + p1 * 2 + p3 * 1) p5 (p0 * 2) 4096 64 (by omega) (by clear hs ho hc s0 s1 s2 s3 s4 s5 s6 s7 s8; omega) (by omega)
    have g2 : fv (off I) 262144 2 = p3 := by rw [ho, fv_nat]; exact dig _ (p7 * 2 + p1 * 1) p3 (p5 * 4096 + p0 * 2) 262144 2 (by omega) (by clear hs ho hc s0 s1 s2 s3 s4 s5 s6 s7 s8; omega) (by omega)
    have g3 : fv (off I) 524288 2 = p1 := by rw [ho, fv_nat]; exact dig _ (p7 * 1) p1 (p3 * 262144 + p5 * 4096 + p0 * 2) 524288 2 (by omega) (by clear hs ho hc s0 s1 s2 s3 s4 s5 s6 s7 s8; omega) (by omega)
    have g4 : fv (off I) 2 2048 = p0 := by rw [ho, fv_nat]; exact dig _ (p7 * 256 + p1 * 128 + p3 * 64 + p5 * 1) p0 (0) 2 2048 (by omega) (by clear hs ho hc s0 s1 s2 s3 s4 s5 s6 s7 s8; omega) (by omega)
    refine ⟨(Th.ok25 _ _ _ _ _ _ _).2 ⟨rfl, rfl, rfl, rfl, ⟨by omega, ?_, ?_⟩, ?_⟩, ?_⟩
    · intro hx; first | (cases hx; done) | omega
    · intro hx; first | (cases hx; done) | omega
    · first | rfl | omega | exact ⟨rfl, Or.inl rfl⟩ | exact ⟨by omega, by simp⟩ | exact ⟨⟨by omega, by omega⟩, by simp⟩
    rw [Th.num25w, g0, g1, g2, g3, g4, gc]
    omega
  · rw [if_neg hc] at hs
    have ho : off I = ((p7 * 1048576 + p1 * 524288 + p3 * 262144 + p5 * 4096 + p0 * 2 + 31457280 : Nat) : Int) := by unfold off; rw [if_pos (by omega)]; omega
    have g0 : fv (off I) 1048576 2 = p7 := by rw [ho, fv_nat]; exact dig _ (15) p7 (p1 * 524288 + p3 * 262144 + p5 * 4096 + p0 * 2) 1048576 2 (by omega) (by clear hs ho hc s0 s1 s2 s3 s4 s5 s6 s7 s8; omega) (by omega)
    have g1 : fv (off I) 4096 64 = p5 := by rw [ho, fv_nat]; exact dig _ (p7 * 4 + p1 * 2 + p3 * 1 + 120) p5 (p0 * 2) 4096 64 (by omega) (by clear hs ho hc s0 s1 s2 s3 s4 s5 s6 s7 s8; omega) (by omega)
    have g2 : fv (off I) 262144 2 = p3 := by rw [ho, fv_nat]; exact dig _ (p7 * 2 + p1 * 1 + 60) p3 (p5 * 4096 + p0 * 2) 262144 2 (by omega) (by clear hs ho hc s0 s1 s2 s3 s4 s5 s6 s7 s8; omega) (by omega)
    have g3 : fv (off I) 524288 2 = p1 := by rw [ho, fv_nat]; exact dig _ (p7 * 1 + 30) p1 (p3 * 262144 + p5 * 4096 + p0 * 2) 524288 2 (by omega) (by clear hs ho hc s0 s1 s2 s3 s4 s5 s6 s7 s8; omega) (by omega)
    have g4 : fv (off I) 2 2048 = p0 := by rw [ho, fv_nat]; exact dig _ (p7 * 256 + p1 * 128 + p3 * 64 + p5 * 1 + 7680) p0 (0) 2 2048 (by omega) (by clear hs ho hc s0 s1 s2 s3 s4 s5 s6 s7 s8; omega) (by omega)
    refine ⟨(Th.ok25 _ _ _ _ _ _ _).2 ⟨rfl, rfl, rfl, rfl, ⟨by omega, ?_, ?_⟩, ?_⟩, ?_⟩
    · intro hx; first | (cases hx; done) | omega
    · intro hx; first | (cases hx; done) | omega
    · first | rfl | omega | exact ⟨rfl, Or.inl rfl⟩ | exact ⟨by omega, by simp⟩ | exact ⟨⟨by omega, by omega⟩, by simp⟩
    rw [Th.num25w, g0, g1, g2, g3, g4, gc]
    omega
end Go.Proofs.Ytcajllbhgfaofaa.De
