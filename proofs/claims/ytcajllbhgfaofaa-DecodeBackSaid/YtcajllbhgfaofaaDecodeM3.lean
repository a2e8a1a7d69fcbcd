/-
  Plain mathematics of bytes as instructions: what is decoded is an instruction of just those bits, and an instruction's bits are decoded as it. It names nothing of the translated program.
-/
import Derived.Test.YtcajllbhgfaofaaDecodeM2
namespace Go.Proofs.Ytcajllbhgfaofaa.De
open Go.RowKit
open Th (Ins none0 check num size fv off)
set_option linter.unusedVariables false
set_option linter.unusedSimpArgs false

theorem findIn_spec (x : Nat) (l : List (Int × Nat × Nat)) : findIn x l = 0 ∨ ∃ r ∈ l, hit x r.2.1 r.2.2 = true ∧ findIn x l = r.1 := by
  induction l with
  | nil => exact Or.inl rfl
  | cons r l ih =>
    rw [findIn]
    by_cases h : hit x r.2.1 r.2.2 = true
    · rw [if_pos h]; exact Or.inr ⟨r, by simp, h, rfl⟩
    · rw [if_neg h]
      rcases ih with ih | ⟨q, hq, h1, h2⟩
      · exact Or.inl ih
      · exact Or.inr ⟨q, by simp [hq], h1, h2⟩
theorem sound (x : Nat) (hx : x < 4294967296) (ht : there (read (find x) x) = true) : check (read (find x) x) = 0 ∧ num (read (find x) x) = x := by
  rcases findIn_spec x rows with h | ⟨r, hr, hh, hf⟩
  · have h' : find x = 0 := h
    rw [h'] at ht
    exact absurd ht (show ¬ there (read 0 x) = true from (by intro c; cases c))
  · have hf' : find x = r.1 := hf
    simp only [rows, List.mem_cons, List.not_mem_nil, or_false] at hr
    rcases hr with rfl | rfl | rfl | rfl | rfl | rfl | rfl | rfl | rfl | rfl | rfl | rfl | rfl | rfl | rfl | rfl | rfl | rfl | rfl | rfl | rfl | rfl | rfl | rfl | rfl | rfl | rfl
    · rw [hf'] at ht ⊢; exact rowA1 x hx hh ht
    · rw [hf'] at ht ⊢; exact rowA2 x hx hh ht
    · rw [hf'] at ht ⊢; exact rowA3 x hx hh ht
    · rw [hf'] at ht ⊢; exact rowA4 x hx hh ht
    · rw [hf'] at ht ⊢; exact rowA5 x hx hh ht
    · rw [hf'] at ht ⊢; exact rowA6 x hx hh ht
    · rw [hf'] at ht ⊢; exact rowA7 x hx hh ht
    · rw [hf'] at ht ⊢; exact rowA8 x hx hh ht
    · rw [hf'] at ht ⊢; exact rowA9 x hx hh ht
    · rw [hf'] at ht ⊢; exact rowA10 x hx hh ht
    · rw [hf'] at ht ⊢; exact rowA11 x hx hh ht
    · rw [hf'] at ht ⊢; exact rowA12 x hx hh ht
    · rw [hf'] at ht ⊢; exact rowA13 x hx hh ht
    · rw [hf'] at ht ⊢; exact rowA14 x hx hh ht
    · rw [hf'] at ht ⊢; exact rowA15 x hx hh ht
    · rw [hf'] at ht ⊢; exact rowA16 x hx hh ht
    · rw [hf'] at ht ⊢; exact rowA17 x hx hh ht
    · rw [hf'] at ht ⊢; exact rowA18 x hx hh ht
    · rw [hf'] at ht ⊢; exact rowA19 x hx hh ht
    · rw [hf'] at ht ⊢; exact rowA20 x hx hh ht
    · rw [hf'] at ht ⊢; exact rowA21 x hx hh ht
    · rw [hf'] at ht ⊢; exact rowA22 x hx hh ht
    · rw [hf'] at ht ⊢; exact rowA23 x hx hh ht
    · rw [hf'] at ht ⊢; exact rowA24n x hx hh ht
    · rw [hf'] at ht ⊢; exact rowA24w x hx hh ht
    · rw [hf'] at ht ⊢; exact rowA25n x hx hh ht
    · rw [hf'] at ht ⊢; exact rowA25w x hx hh ht
theorem findIn_app (x : Nat) (l1 l2 : List (Int × Nat × Nat)) (h : ∀ r ∈ l1, hit x r.2.1 r.2.2 = false) : findIn x (l1 ++ l2) = findIn x l2 := by
  induction l1 with
  | nil => rfl
  | cons r l ih =>
    rw [List.cons_append, findIn, if_neg (by rw [h r (by simp)]; decide)]
    exact ih fun q hq => h q (by simp [hq])
theorem find_of (x j m b : Nat) (op : Int) (hr : rows.drop j = (op, m, b) :: rows.drop (j + 1)) (hh : hit x m b = true) (hno : ∀ r ∈ rows.take j, hit x r.2.1 r.2.2 = false) : find x = op := by
  have e : rows = rows.take j ++ rows.drop j := (List.take_append_drop j rows).symm
  unfold find
  rw [e, findIn_app x _ _ hno, hr, findIn, if_pos hh]
theorem apart (x m b m' b' : Nat) (h : hit x m b = true) (hd : ((b &&& m') == (b' &&& m)) = false) : hit x m' b' = false := by
  cases c : hit x m' b' with
  | false => rfl
  | true =>
    have e1 : x &&& m = b := eq_of_beq h
    have e2 : x &&& m' = b' := eq_of_beq c
    rw [← e1, ← e2, Nat.and_assoc, Nat.and_assoc, Nat.and_comm m' m, beq_self_eq_true] at hd
    cases hd
theorem and_join (x m b l len v M B : Nat) (h : x &&& m = b) (hm : m < 2 ^ l) (hv : pt x l len = v) (hM : m + (2 ^ len - 1) * 2 ^ l = M) (hB : b + v * 2 ^ l = B) : x &&& M = B := by
  have hb : b < 2 ^ l := by rw [← h]; exact Nat.lt_of_le_of_lt Nat.and_le_right hm
  have e : M = 2 ^ l * (2 ^ len - 1) ||| m := by rw [← hM, Nat.add_comm, Nat.mul_comm, Nat.two_pow_add_eq_or_of_lt hm]
  have e2 : x &&& 2 ^ l * (2 ^ len - 1) = 2 ^ l * pt x l len := by
    apply Nat.eq_of_testBit_eq
    intro i
    rw [Nat.testBit_and, Nat.testBit_two_pow_mul, Nat.testBit_two_pow_mul, Nat.testBit_two_pow_sub_one]
    unfold pt
    rw [Nat.testBit_mod_two_pow, Nat.testBit_div_two_pow]
    by_cases hi : l ≤ i
    · rw [Nat.sub_add_cancel hi]
      simp [hi, Bool.and_comm]
    · simp [hi]
  rw [e, Nat.and_or_distrib_left, h, e2, hv, ← Nat.two_pow_add_eq_or_of_lt hb, ← hB, Nat.mul_comm, Nat.add_comm]
theorem there24 (I : Int) (b : Bool) : there ⟨24, 0, 0, 0, 0, I, 0, b⟩ = true := by unfold there; simp
theorem there25 (I c : Int) (b : Bool) (h : c ≤ 13) : there ⟨25, 0, 0, 0, 0, I, c, b⟩ = true := by
  unfold there; simp; omega
theorem rd24w (x : Nat) (hw : 65536 ≤ x) : read 24 x = ⟨24, 0, 0, 0, 0, signed (b24w x) 25, 0, true⟩ := by
  show readB 24 x = _
  unfold readB; rw [if_pos hw]; rfl
theorem rd24n (x : Nat) (hw : ¬ 65536 ≤ x) : read 24 x = ⟨24, 0, 0, 0, 0, signed (b24n x) 12, 0, false⟩ := by
  show readB 24 x = _
  unfold readB; rw [if_neg hw]; rfl
theorem rd25w (x : Nat) (hw : 65536 ≤ x) : read 25 x = ⟨25, 0, 0, 0, 0, signed (b25w x) 21, ((pt x 22 4 : Nat) : Int), true⟩ := by
  show readB 25 x = _
  unfold readB; rw [if_pos hw, if_pos hw]; rfl
theorem rd25n (x : Nat) (hw : ¬ 65536 ≤ x) : read 25 x = ⟨25, 0, 0, 0, 0, signed (b25n x) 9, ((pt x 8 4 : Nat) : Int), false⟩ := by
  show readB 25 x = _
  unfold readB; rw [if_neg hw, if_neg hw]; rfl
theorem pt_dig (x lo n h d l r q : Nat) (hr : 2 ^ lo = r) (hq : 2 ^ n = q) (e : x = (h * q + d) * r + l) (hl : l < r) (hd : d < q) : pt x lo n = d := by
  subst hr; subst hq
  exact dig x h d l _ _ e hl hd
set_option maxRecDepth 100000 in
theorem rowB1 (rd rn rm ra imm cond : Int) (wide : Bool) (h : check ⟨1, rd, rn, rm, ra, imm, cond, wide⟩ = 0) : find (num ⟨1, rd, rn, rm, ra, imm, cond, wide⟩) = 1 ∧ there (read 1 (num ⟨1, rd, rn, rm, ra, imm, cond, wide⟩)) = true := by
  have hx : num ⟨1, rd, rn, rm, ra, imm, cond, wide⟩ < 4294967296 := by rcases Th.size_num _ h with h | h <;> omega
  rw [Th.num1] at hx ⊢
  rw [Th.ok1] at h
  generalize hX : 48896 = x at *
  have p0 : pt x 0 32 = 48896 := pt_dig x 0 32 (0) 48896 (0) 1 4294967296 (by decide) (by decide) (by omega) (by omega) (by omega)
  have a0 : x &&& 4294967295 = 48896 := and_join x 0 0 0 32 48896 4294967295 48896 (Nat.and_zero x) (by decide) p0 (by decide) (by decide)
  have hh : hit x 4294967295 48896 = true := by unfold hit; rw [a0]; exact beq_self_eq_true _
  have hno : ∀ r ∈ rows.take 0, hit x r.2.1 r.2.2 = false := by
    have hd : ∀ r ∈ rows.take 0, ((48896 &&& r.2.1) == (r.2.2 &&& 4294967295)) = false := by decide +kernel
    intro r hr
    exact apart x _ _ _ _ hh (hd r hr)
  refine ⟨find_of x 0 4294967295 48896 1 rfl hh hno, ?_⟩
  have hr : read 1 x = ⟨1, 0, 0, 0, 0, 0, 0, false⟩ := rfl
  rw [hr]
  unfold there
  simp only [p0]
  clear hno hh hr a0
  rfl
set_option maxRecDepth 100000 in
theorem rowB2 (rd rn rm ra imm cond : Int) (wide : Bool) (h : check ⟨2, rd, rn, rm, ra, imm, cond, wide⟩ = 0) : find (num ⟨2, rd, rn, rm, ra, imm, cond, wide⟩) = 2 ∧ there (read 2 (num ⟨2, rd, rn, rm, ra, imm, cond, wide⟩)) = true := by
  have hx : num ⟨2, rd, rn, rm, ra, imm, cond, wide⟩ < 4294967296 := by rcases Th.size_num _ h with h | h <;> omega
  rw [Th.num2] at hx ⊢
  rw [Th.ok2] at h
  have b0 := Th.fv_lt (imm) 1 256 (by decide)
  generalize Th.fv (imm) 1 256 = F0 at *
  generalize hX : 48640 + F0 * 1 = x at *
  have p0 : pt x 0 8 = F0 := pt_dig x 0 8 (190 * 1) F0 (0) 1 256 (by decide) (by decide) (by omega) (by omega) (by omega)
  have p1 : pt x 8 24 = 190 := pt_dig x 8 24 (0) 190 (F0 * 1) 256 16777216 (by decide) (by decide) (by omega) (by omega) (by omega)
  have a0 : x &&& 4294967040 = 48640 := and_join x 0 0 8 24 190 4294967040 48640 (Nat.and_zero x) (by decide) p1 (by decide) (by decide)
  have hh : hit x 4294967040 48640 = true := by unfold hit; rw [a0]; exact beq_self_eq_true _
  have hno : ∀ r ∈ rows.take 1, hit x r.2.1 r.2.2 = false := by
    have hd : ∀ r ∈ rows.take 1, ((48640 &&& r.2.1) == (r.2.2 &&& 4294967040)) = false := by decide +kernel
    intro r hr
    exact apart x _ _ _ _ hh (hd r hr)
  refine ⟨find_of x 1 4294967040 48640 2 rfl hh hno, ?_⟩
  have hr : read 2 x = ⟨2, 0, 0, 0, 0, ((pt x 0 8 : Nat) : Int), 0, false⟩ := rfl
  rw [hr]
  unfold there
  simp only [p0, p1]
  clear hno hh hr a0
  rfl
set_option maxRecDepth 100000 in
theorem rowB3 (rd rn rm ra imm cond : Int) (wide : Bool) (h : check ⟨3, rd, rn, rm, ra, imm, cond, wide⟩ = 0) : find (num ⟨3, rd, rn, rm, ra, imm, cond, wide⟩) = 3 ∧ there (read 3 (num ⟨3, rd, rn, rm, ra, imm, cond, wide⟩)) = true := by
  have hx : num ⟨3, rd, rn, rm, ra, imm, cond, wide⟩ < 4294967296 := by rcases Th.size_num _ h with h | h <;> omega
  rw [Th.num3] at hx ⊢
  rw [Th.ok3] at h
  have b0 := Th.fv_lt (imm) 2048 2 (by decide)
  have b1 := Th.fv_lt (imm) 4096 16 (by decide)
  have b2 := Th.fv_lt (imm) 256 8 (by decide)
  have b3 := Th.fv_lt (rd) 1 16 (by decide)
  have b4 := Th.fv_lt (imm) 1 256 (by decide)
  have e3 : (Th.fv rd 1 16 : Int) = rd := by unfold Th.fv; omega
  generalize Th.fv (imm) 2048 2 = F0 at *
  generalize Th.fv (imm) 4096 16 = F1 at *
  generalize Th.fv (imm) 256 8 = F2 at *
  generalize Th.fv (rd) 1 16 = F3 at *
  generalize Th.fv (imm) 1 256 = F4 at *
  generalize hX : 4064280576 + F0 * 67108864 + F1 * 65536 + F2 * 4096 + F3 * 256 + F4 * 1 = x at *
  have p0 : pt x 0 8 = F4 := pt_dig x 0 8 (F3 * 1 + F2 * 16 + 0 * 128 + F1 * 256 + 36 * 4096 + F0 * 262144 + 30 * 524288) F4 (0) 1 256 (by decide) (by decide) (by omega) (by omega) (by omega)
  have p1 : pt x 8 4 = F3 := pt_dig x 8 4 (F2 * 1 + 0 * 8 + F1 * 16 + 36 * 256 + F0 * 16384 + 30 * 32768) F3 (F4 * 1) 256 16 (by decide) (by decide) (by omega) (by omega) (by omega)
  have p2 : pt x 12 3 = F2 := pt_dig x 12 3 (0 * 1 + F1 * 2 + 36 * 32 + F0 * 2048 + 30 * 4096) F2 (F4 * 1 + F3 * 256) 4096 8 (by decide) (by decide) (by omega) (by omega) (by omega)
  have p3 : pt x 15 1 = 0 := pt_dig x 15 1 (F1 * 1 + 36 * 16 + F0 * 1024 + 30 * 2048) 0 (F4 * 1 + F3 * 256 + F2 * 4096) 32768 2 (by decide) (by decide) (by omega) (by omega) (by omega)
  have p4 : pt x 16 4 = F1 := pt_dig x 16 4 (36 * 1 + F0 * 64 + 30 * 128) F1 (F4 * 1 + F3 * 256 + F2 * 4096 + 0 * 32768) 65536 16 (by decide) (by decide) (by omega) (by omega) (by omega)
  have p5 : pt x 20 6 = 36 := pt_dig x 20 6 (F0 * 1 + 30 * 2) 36 (F4 * 1 + F3 * 256 + F2 * 4096 + 0 * 32768 + F1 * 65536) 1048576 64 (by decide) (by decide) (by omega) (by omega) (by omega)
  have p6 : pt x 26 1 = F0 := pt_dig x 26 1 (30 * 1) F0 (F4 * 1 + F3 * 256 + F2 * 4096 + 0 * 32768 + F1 * 65536 + 36 * 1048576) 67108864 2 (by decide) (by decide) (by omega) (by omega) (by omega)
  have p7 : pt x 27 5 = 30 := pt_dig x 27 5 (0) 30 (F4 * 1 + F3 * 256 + F2 * 4096 + 0 * 32768 + F1 * 65536 + 36 * 1048576 + F0 * 67108864) 134217728 32 (by decide) (by decide) (by omega) (by omega) (by omega)
  have a0 : x &&& 32768 = 0 := and_join x 0 0 15 1 0 32768 0 (Nat.and_zero x) (by decide) p3 (by decide) (by decide)
  have a1 : x &&& 66093056 = 37748736 := and_join x 32768 0 20 6 36 66093056 37748736 a0 (by decide) p5 (by decide) (by decide)
  have a2 : x &&& 4226842624 = 4064280576 := and_join x 66093056 37748736 27 5 30 4226842624 4064280576 a1 (by decide) p7 (by decide) (by decide)
  have hh : hit x 4226842624 4064280576 = true := by unfold hit; rw [a2]; exact beq_self_eq_true _
  have hno : ∀ r ∈ rows.take 2, hit x r.2.1 r.2.2 = false := by
    have hd : ∀ r ∈ rows.take 2, ((4064280576 &&& r.2.1) == (r.2.2 &&& 4226842624)) = false := by decide +kernel
    intro r hr
    exact apart x _ _ _ _ hh (hd r hr)
  refine ⟨find_of x 2 4226842624 4064280576 3 rfl hh hno, ?_⟩
  have hr : read 3 x = ⟨3, ((pt x 8 4 : Nat) : Int), 0, 0, 0, ((imm16 x : Nat) : Int), 0, false⟩ := rfl
  rw [hr]
  unfold there
  simp only [p0, p1, p2, p3, p4, p5, p6, p7]
  clear hno hh hr a0 a1 a2
  simp
  omega
set_option maxRecDepth 100000 in
theorem rowB4 (rd rn rm ra imm cond : Int) (wide : Bool) (h : check ⟨4, rd, rn, rm, ra, imm, cond, wide⟩ = 0) : find (num ⟨4, rd, rn, rm, ra, imm, cond, wide⟩) = 4 ∧ there (read 4 (num ⟨4, rd, rn, rm, ra, imm, cond, wide⟩)) = true := by
  have hx : num ⟨4, rd, rn, rm, ra, imm, cond, wide⟩ < 4294967296 := by rcases Th.size_num _ h with h | h <;> omega
  rw [Th.num4] at hx ⊢
  rw [Th.ok4] at h
  have b0 := Th.fv_lt (imm) 2048 2 (by decide)
  have b1 := Th.fv_lt (imm) 4096 16 (by decide)
  have b2 := Th.fv_lt (imm) 256 8 (by decide)
  have b3 := Th.fv_lt (rd) 1 16 (by decide)
  have b4 := Th.fv_lt (imm) 1 256 (by decide)
  have e3 : (Th.fv rd 1 16 : Int) = rd := by unfold Th.fv; omega
  generalize Th.fv (imm) 2048 2 = F0 at *
  generalize Th.fv (imm) 4096 16 = F1 at *
  generalize Th.fv (imm) 256 8 = F2 at *
  generalize Th.fv (rd) 1 16 = F3 at *
  generalize Th.fv (imm) 1 256 = F4 at *
  generalize hX : 4072669184 + F0 * 67108864 + F1 * 65536 + F2 * 4096 + F3 * 256 + F4 * 1 = x at *
  have p0 : pt x 0 8 = F4 := pt_dig x 0 8 (F3 * 1 + F2 * 16 + 0 * 128 + F1 * 256 + 44 * 4096 + F0 * 262144 + 30 * 524288) F4 (0) 1 256 (by decide) (by decide) (by omega) (by omega) (by omega)
  have p1 : pt x 8 4 = F3 := pt_dig x 8 4 (F2 * 1 + 0 * 8 + F1 * 16 + 44 * 256 + F0 * 16384 + 30 * 32768) F3 (F4 * 1) 256 16 (by decide) (by decide) (by omega) (by omega) (by omega)
  have p2 : pt x 12 3 = F2 := pt_dig x 12 3 (0 * 1 + F1 * 2 + 44 * 32 + F0 * 2048 + 30 * 4096) F2 (F4 * 1 + F3 * 256) 4096 8 (by decide) (by decide) (by omega) (by omega) (by omega)
  have p3 : pt x 15 1 = 0 := pt_dig x 15 1 (F1 * 1 + 44 * 16 + F0 * 1024 + 30 * 2048) 0 (F4 * 1 + F3 * 256 + F2 * 4096) 32768 2 (by decide) (by decide) (by omega) (by omega) (by omega)
  have p4 : pt x 16 4 = F1 := pt_dig x 16 4 (44 * 1 + F0 * 64 + 30 * 128) F1 (F4 * 1 + F3 * 256 + F2 * 4096 + 0 * 32768) 65536 16 (by decide) (by decide) (by omega) (by omega) (by omega)
  have p5 : pt x 20 6 = 44 := pt_dig x 20 6 (F0 * 1 + 30 * 2) 44 (F4 * 1 + F3 * 256 + F2 * 4096 + 0 * 32768 + F1 * 65536) 1048576 64 (by decide) (by decide) (by omega) (by omega) (by omega)
  have p6 : pt x 26 1 = F0 := pt_dig x 26 1 (30 * 1) F0 (F4 * 1 + F3 * 256 + F2 * 4096 + 0 * 32768 + F1 * 65536 + 44 * 1048576) 67108864 2 (by decide) (by decide) (by omega) (by omega) (by omega)
  have p7 : pt x 27 5 = 30 := pt_dig x 27 5 (0) 30 (F4 * 1 + F3 * 256 + F2 * 4096 + 0 * 32768 + F1 * 65536 + 44 * 1048576 + F0 * 67108864) 134217728 32 (by decide) (by decide) (by omega) (by omega) (by omega)
  have a0 : x &&& 32768 = 0 := and_join x 0 0 15 1 0 32768 0 (Nat.and_zero x) (by decide) p3 (by decide) (by decide)
  have a1 : x &&& 66093056 = 46137344 := and_join x 32768 0 20 6 44 66093056 46137344 a0 (by decide) p5 (by decide) (by decide)
  have a2 : x &&& 4226842624 = 4072669184 := and_join x 66093056 46137344 27 5 30 4226842624 4072669184 a1 (by decide) p7 (by decide) (by decide)
  have hh : hit x 4226842624 4072669184 = true := by unfold hit; rw [a2]; exact beq_self_eq_true _
  have hno : ∀ r ∈ rows.take 3, hit x r.2.1 r.2.2 = false := by
    have hd : ∀ r ∈ rows.take 3, ((4072669184 &&& r.2.1) == (r.2.2 &&& 4226842624)) = false := by decide +kernel
    intro r hr
    exact apart x _ _ _ _ hh (hd r hr)
  refine ⟨find_of x 3 4226842624 4072669184 4 rfl hh hno, ?_⟩
  have hr : read 4 x = ⟨4, ((pt x 8 4 : Nat) : Int), 0, 0, 0, ((imm16 x : Nat) : Int), 0, false⟩ := rfl
  rw [hr]
  unfold there
  simp only [p0, p1, p2, p3, p4, p5, p6, p7]
  clear hno hh hr a0 a1 a2
  simp
  omega
set_option maxRecDepth 100000 in
theorem rowB5 (rd rn rm ra imm cond : Int) (wide : Bool) (h : check ⟨5, rd, rn, rm, ra, imm, cond, wide⟩ = 0) : find (num ⟨5, rd, rn, rm, ra, imm, cond, wide⟩) = 5 ∧ there (read 5 (num ⟨5, rd, rn, rm, ra, imm, cond, wide⟩)) = true := by
  have hx : num ⟨5, rd, rn, rm, ra, imm, cond, wide⟩ < 4294967296 := by rcases Th.size_num _ h with h | h <;> omega
  rw [Th.num5] at hx ⊢
  rw [Th.ok5] at h
  have b0 := Th.fv_lt (imm) 4 8 (by decide)
  have b1 := Th.fv_lt (rd) 1 16 (by decide)
  have b2 := Th.fv_lt (imm) 1 4 (by decide)
  have b3 := Th.fv_lt (rm) 1 16 (by decide)
  have e1 : (Th.fv rd 1 16 : Int) = rd := by unfold Th.fv; omega
  have e3 : (Th.fv rm 1 16 : Int) = rm := by unfold Th.fv; omega
  have ei : (Th.fv imm 4 8 : Int) * 4 + (Th.fv imm 1 4 : Int) = imm := by unfold Th.fv; omega
  generalize Th.fv (imm) 4 8 = F0 at *
  generalize Th.fv (rd) 1 16 = F1 at *
  generalize Th.fv (imm) 1 4 = F2 at *
  generalize Th.fv (rm) 1 16 = F3 at *
  generalize hX : 3931045888 + F0 * 4096 + F1 * 256 + F2 * 64 + F3 * 1 = x at *
  have p0 : pt x 0 4 = F3 := pt_dig x 0 4 (0 * 1 + F2 * 4 + F1 * 16 + F0 * 256 + 119966 * 2048) F3 (0) 1 16 (by decide) (by decide) (by omega) (by omega) (by omega)
  have p1 : pt x 4 2 = 0 := pt_dig x 4 2 (F2 * 1 + F1 * 4 + F0 * 64 + 119966 * 512) 0 (F3 * 1) 16 4 (by decide) (by decide) (by omega) (by omega) (by omega)
  have p2 : pt x 6 2 = F2 := pt_dig x 6 2 (F1 * 1 + F0 * 16 + 119966 * 128) F2 (F3 * 1 + 0 * 16) 64 4 (by decide) (by decide) (by omega) (by omega) (by omega)
  have p3 : pt x 8 4 = F1 := pt_dig x 8 4 (F0 * 1 + 119966 * 8) F1 (F3 * 1 + 0 * 16 + F2 * 64) 256 16 (by decide) (by decide) (by omega) (by omega) (by omega)
  have p4 : pt x 12 3 = F0 := pt_dig x 12 3 (119966 * 1) F0 (F3 * 1 + 0 * 16 + F2 * 64 + F1 * 256) 4096 8 (by decide) (by decide) (by omega) (by omega) (by omega)
  have p5 : pt x 15 17 = 119966 := pt_dig x 15 17 (0) 119966 (F3 * 1 + 0 * 16 + F2 * 64 + F1 * 256 + F0 * 4096) 32768 131072 (by decide) (by decide) (by omega) (by omega) (by omega)
  have a0 : x &&& 48 = 0 := and_join x 0 0 4 2 0 48 0 (Nat.and_zero x) (by decide) p1 (by decide) (by decide)
  have a1 : x &&& 4294934576 = 3931045888 := and_join x 48 0 15 17 119966 4294934576 3931045888 a0 (by decide) p5 (by decide) (by decide)
  have hh : hit x 4294934576 3931045888 = true := by unfold hit; rw [a1]; exact beq_self_eq_true _
  have hno : ∀ r ∈ rows.take 4, hit x r.2.1 r.2.2 = false := by
    have hd : ∀ r ∈ rows.take 4, ((3931045888 &&& r.2.1) == (r.2.2 &&& 4294934576)) = false := by decide +kernel
    intro r hr
    exact apart x _ _ _ _ hh (hd r hr)
  refine ⟨find_of x 4 4294934576 3931045888 5 rfl hh hno, ?_⟩
  have hr : read 5 x = ⟨5, ((pt x 8 4 : Nat) : Int), 0, ((pt x 0 4 : Nat) : Int), 0, ((shift x : Nat) : Int), 0, false⟩ := rfl
  rw [hr]
  unfold there
  unfold shift
  simp only [p0, p1, p2, p3, p4, p5]
  clear hno hh hr a0 a1
  simp
  omega
set_option maxRecDepth 100000 in
theorem rowB6 (rd rn rm ra imm cond : Int) (wide : Bool) (h : check ⟨6, rd, rn, rm, ra, imm, cond, wide⟩ = 0) : find (num ⟨6, rd, rn, rm, ra, imm, cond, wide⟩) = 6 ∧ there (read 6 (num ⟨6, rd, rn, rm, ra, imm, cond, wide⟩)) = true := by
  have hx : num ⟨6, rd, rn, rm, ra, imm, cond, wide⟩ < 4294967296 := by rcases Th.size_num _ h with h | h <;> omega
  rw [Th.num6] at hx ⊢
  rw [Th.ok6] at h
  have b0 := Th.fv_lt (imm) 4 8 (by decide)
  have b1 := Th.fv_lt (rd) 1 16 (by decide)
  have b2 := Th.fv_lt (imm) 1 4 (by decide)
  have b3 := Th.fv_lt (rm) 1 16 (by decide)
  have e1 : (Th.fv rd 1 16 : Int) = rd := by unfold Th.fv; omega
  have e3 : (Th.fv rm 1 16 : Int) = rm := by unfold Th.fv; omega
  have ei : (Th.fv imm 4 8 : Int) * 4 + (Th.fv imm 1 4 : Int) = imm := by unfold Th.fv; omega
  generalize Th.fv (imm) 4 8 = F0 at *
  generalize Th.fv (rd) 1 16 = F1 at *
  generalize Th.fv (imm) 1 4 = F2 at *
  generalize Th.fv (rm) 1 16 = F3 at *
  generalize hX : 3931045904 + F0 * 4096 + F1 * 256 + F2 * 64 + F3 * 1 = x at *
  have p0 : pt x 0 4 = F3 := pt_dig x 0 4 (1 * 1 + F2 * 4 + F1 * 16 + F0 * 256 + 119966 * 2048) F3 (0) 1 16 (by decide) (by decide) (by omega) (by omega) (by omega)
  have p1 : pt x 4 2 = 1 := pt_dig x 4 2 (F2 * 1 + F1 * 4 + F0 * 64 + 119966 * 512) 1 (F3 * 1) 16 4 (by decide) (by decide) (by omega) (by omega) (by omega)
  have p2 : pt x 6 2 = F2 := pt_dig x 6 2 (F1 * 1 + F0 * 16 + 119966 * 128) F2 (F3 * 1 + 1 * 16) 64 4 (by decide) (by decide) (by omega) (by omega) (by omega)
  have p3 : pt x 8 4 = F1 := pt_dig x 8 4 (F0 * 1 + 119966 * 8) F1 (F3 * 1 + 1 * 16 + F2 * 64) 256 16 (by decide) (by decide) (by omega) (by omega) (by omega)
  have p4 : pt x 12 3 = F0 := pt_dig x 12 3 (119966 * 1) F0 (F3 * 1 + 1 * 16 + F2 * 64 + F1 * 256) 4096 8 (by decide) (by decide) (by omega) (by omega) (by omega)
  have p5 : pt x 15 17 = 119966 := pt_dig x 15 17 (0) 119966 (F3 * 1 + 1 * 16 + F2 * 64 + F1 * 256 + F0 * 4096) 32768 131072 (by decide) (by decide) (by omega) (by omega) (by omega)
  have a0 : x &&& 48 = 16 := and_join x 0 0 4 2 1 48 16 (Nat.and_zero x) (by decide) p1 (by decide) (by decide)
  have a1 : x &&& 4294934576 = 3931045904 := and_join x 48 16 15 17 119966 4294934576 3931045904 a0 (by decide) p5 (by decide) (by decide)
  have hh : hit x 4294934576 3931045904 = true := by unfold hit; rw [a1]; exact beq_self_eq_true _
  have hno : ∀ r ∈ rows.take 5, hit x r.2.1 r.2.2 = false := by
    have hd : ∀ r ∈ rows.take 5, ((3931045904 &&& r.2.1) == (r.2.2 &&& 4294934576)) = false := by decide +kernel
    intro r hr
    exact apart x _ _ _ _ hh (hd r hr)
  refine ⟨find_of x 5 4294934576 3931045904 6 rfl hh hno, ?_⟩
  have hr : read 6 x = ⟨6, ((pt x 8 4 : Nat) : Int), 0, ((pt x 0 4 : Nat) : Int), 0, ((shift x : Nat) : Int), 0, false⟩ := rfl
  rw [hr]
  unfold there
  unfold shift
  simp only [p0, p1, p2, p3, p4, p5]
  clear hno hh hr a0 a1
  simp
  omega
set_option maxRecDepth 100000 in
theorem rowB7 (rd rn rm ra imm cond : Int) (wide : Bool) (h : check ⟨7, rd, rn, rm, ra, imm, cond, wide⟩ = 0) : find (num ⟨7, rd, rn, rm, ra, imm, cond, wide⟩) = 7 ∧ there (read 7 (num ⟨7, rd, rn, rm, ra, imm, cond, wide⟩)) = true := by
  have hx : num ⟨7, rd, rn, rm, ra, imm, cond, wide⟩ < 4294967296 := by rcases Th.size_num _ h with h | h <;> omega
  rw [Th.num7] at hx ⊢
  rw [Th.ok7] at h
  have b0 := Th.fv_lt (imm) 4 8 (by decide)
  have b1 := Th.fv_lt (rd) 1 16 (by decide)
  have b2 := Th.fv_lt (imm) 1 4 (by decide)
  have b3 := Th.fv_lt (rm) 1 16 (by decide)
  have e1 : (Th.fv rd 1 16 : Int) = rd := by unfold Th.fv; omega
  have e3 : (Th.fv rm 1 16 : Int) = rm := by unfold Th.fv; omega
  have ei : (Th.fv imm 4 8 : Int) * 4 + (Th.fv imm 1 4 : Int) = imm := by unfold Th.fv; omega
  generalize Th.fv (imm) 4 8 = F0 at *
  generalize Th.fv (rd) 1 16 = F1 at *
  generalize Th.fv (imm) 1 4 = F2 at *
  generalize Th.fv (rm) 1 16 = F3 at *
  generalize hX : 3931045920 + F0 * 4096 + F1 * 256 + F2 * 64 + F3 * 1 = x at *
  have p0 : pt x 0 4 = F3 := pt_dig x 0 4 (2 * 1 + F2 * 4 + F1 * 16 + F0 * 256 + 119966 * 2048) F3 (0) 1 16 (by decide) (by decide) (by omega) (by omega) (by omega)
  have p1 : pt x 4 2 = 2 := pt_dig x 4 2 (F2 * 1 + F1 * 4 + F0 * 64 + 119966 * 512) 2 (F3 * 1) 16 4 (by decide) (by decide) (by omega) (by omega) (by omega)
  have p2 : pt x 6 2 = F2 := pt_dig x 6 2 (F1 * 1 + F0 * 16 + 119966 * 128) F2 (F3 * 1 + 2 * 16) 64 4 (by decide) (by decide) (by omega) (by omega) (by omega)
  have p3 : pt x 8 4 = F1 := pt_dig x 8 4 (F0 * 1 + 119966 * 8) F1 (F3 * 1 + 2 * 16 + F2 * 64) 256 16 (by decide) (by decide) (by omega) (by omega) (by omega)
  have p4 : pt x 12 3 = F0 := pt_dig x 12 3 (119966 * 1) F0 (F3 * 1 + 2 * 16 + F2 * 64 + F1 * 256) 4096 8 (by decide) (by decide) (by omega) (by omega) (by omega)
  have p5 : pt x 15 17 = 119966 := pt_dig x 15 17 (0) 119966 (F3 * 1 + 2 * 16 + F2 * 64 + F1 * 256 + F0 * 4096) 32768 131072 (by decide) (by decide) (by omega) (by omega) (by omega)
  have a0 : x &&& 48 = 32 := and_join x 0 0 4 2 2 48 32 (Nat.and_zero x) (by decide) p1 (by decide) (by decide)
  have a1 : x &&& 4294934576 = 3931045920 := and_join x 48 32 15 17 119966 4294934576 3931045920 a0 (by decide) p5 (by decide) (by decide)
  have hh : hit x 4294934576 3931045920 = true := by unfold hit; rw [a1]; exact beq_self_eq_true _
  have hno : ∀ r ∈ rows.take 6, hit x r.2.1 r.2.2 = false := by
    have hd : ∀ r ∈ rows.take 6, ((3931045920 &&& r.2.1) == (r.2.2 &&& 4294934576)) = false := by decide +kernel
    intro r hr
    exact apart x _ _ _ _ hh (hd r hr)
  refine ⟨find_of x 6 4294934576 3931045920 7 rfl hh hno, ?_⟩
  have hr : read 7 x = ⟨7, ((pt x 8 4 : Nat) : Int), 0, ((pt x 0 4 : Nat) : Int), 0, ((shift x : Nat) : Int), 0, false⟩ := rfl
  rw [hr]
  unfold there
  unfold shift
  simp only [p0, p1, p2, p3, p4, p5]
  clear hno hh hr a0 a1
  simp
  omega
set_option maxRecDepth 100000 in
theorem rowB8 (rd rn rm ra imm cond : Int) (wide : Bool) (h : check ⟨8, rd, rn, rm, ra, imm, cond, wide⟩ = 0) : find (num ⟨8, rd, rn, rm, ra, imm, cond, wide⟩) = 8 ∧ there (read 8 (num ⟨8, rd, rn, rm, ra, imm, cond, wide⟩)) = true := by
  have hx : num ⟨8, rd, rn, rm, ra, imm, cond, wide⟩ < 4294967296 := by rcases Th.size_num _ h with h | h <;> omega
  rw [Th.num8] at hx ⊢
  rw [Th.ok8] at h
  have b0 := Th.fv_lt (imm) 4 8 (by decide)
  have b1 := Th.fv_lt (rd) 1 16 (by decide)
  have b2 := Th.fv_lt (imm) 1 4 (by decide)
  have b3 := Th.fv_lt (rm) 1 16 (by decide)
  have e1 : (Th.fv rd 1 16 : Int) = rd := by unfold Th.fv; omega
  have e3 : (Th.fv rm 1 16 : Int) = rm := by unfold Th.fv; omega
  have ei : (Th.fv imm 4 8 : Int) * 4 + (Th.fv imm 1 4 : Int) = imm := by unfold Th.fv; omega
  generalize Th.fv (imm) 4 8 = F0 at *
  generalize Th.fv (rd) 1 16 = F1 at *
  generalize Th.fv (imm) 1 4 = F2 at *
  generalize Th.fv (rm) 1 16 = F3 at *
  generalize hX : 3931045936 + F0 * 4096 + F1 * 256 + F2 * 64 + F3 * 1 = x at *
  have p0 : pt x 0 4 = F3 := pt_dig x 0 4 (3 * 1 + F2 * 4 + F1 * 16 + F0 * 256 + 119966 * 2048) F3 (0) 1 16 (by decide) (by decide) (by omega) (by omega) (by omega)
  have p1 : pt x 4 2 = 3 := pt_dig x 4 2 (F2 * 1 + F1 * 4 + F0 * 64 + 119966 * 512) 3 (F3 * 1) 16 4 (by decide) (by decide) (by omega) (by omega) (by omega)
  have p2 : pt x 6 2 = F2 := pt_dig x 6 2 (F1 * 1 + F0 * 16 + 119966 * 128) F2 (F3 * 1 + 3 * 16) 64 4 (by decide) (by decide) (by omega) (by omega) (by omega)
  have p3 : pt x 8 4 = F1 := pt_dig x 8 4 (F0 * 1 + 119966 * 8) F1 (F3 * 1 + 3 * 16 + F2 * 64) 256 16 (by decide) (by decide) (by omega) (by omega) (by omega)
  have p4 : pt x 12 3 = F0 := pt_dig x 12 3 (119966 * 1) F0 (F3 * 1 + 3 * 16 + F2 * 64 + F1 * 256) 4096 8 (by decide) (by decide) (by omega) (by omega) (by omega)
  have p5 : pt x 15 17 = 119966 := pt_dig x 15 17 (0) 119966 (F3 * 1 + 3 * 16 + F2 * 64 + F1 * 256 + F0 * 4096) 32768 131072 (by decide) (by decide) (by omega) (by omega) (by omega)
  have a0 : x &&& 48 = 48 := and_join x 0 0 4 2 3 48 48 (Nat.and_zero x) (by decide) p1 (by decide) (by decide)
  have a1 : x &&& 4294934576 = 3931045936 := and_join x 48 48 15 17 119966 4294934576 3931045936 a0 (by decide) p5 (by decide) (by decide)
  have hh : hit x 4294934576 3931045936 = true := by unfold hit; rw [a1]; exact beq_self_eq_true _
  have hno : ∀ r ∈ rows.take 7, hit x r.2.1 r.2.2 = false := by
    have hd : ∀ r ∈ rows.take 7, ((3931045936 &&& r.2.1) == (r.2.2 &&& 4294934576)) = false := by decide +kernel
    intro r hr
    exact apart x _ _ _ _ hh (hd r hr)
  refine ⟨find_of x 7 4294934576 3931045936 8 rfl hh hno, ?_⟩
  have hr : read 8 x = ⟨8, ((pt x 8 4 : Nat) : Int), 0, ((pt x 0 4 : Nat) : Int), 0, ((shift x : Nat) : Int), 0, false⟩ := rfl
  rw [hr]
  unfold there
  unfold shift
  simp only [p0, p1, p2, p3, p4, p5]
  clear hno hh hr a0 a1
  simp
  omega
set_option maxRecDepth 100000 in
theorem rowB9 (rd rn rm ra imm cond : Int) (wide : Bool) (h : check ⟨9, rd, rn, rm, ra, imm, cond, wide⟩ = 0) : find (num ⟨9, rd, rn, rm, ra, imm, cond, wide⟩) = 9 ∧ there (read 9 (num ⟨9, rd, rn, rm, ra, imm, cond, wide⟩)) = true := by
  have hx : num ⟨9, rd, rn, rm, ra, imm, cond, wide⟩ < 4294967296 := by rcases Th.size_num _ h with h | h <;> omega
  rw [Th.num9] at hx ⊢
  rw [Th.ok9] at h
  have b0 := Th.fv_lt (rd) 1 16 (by decide)
  have b1 := Th.fv_lt (rm) 1 16 (by decide)
  have e0 : (Th.fv rd 1 16 : Int) = rd := by unfold Th.fv; omega
  have e1 : (Th.fv rm 1 16 : Int) = rm := by unfold Th.fv; omega
  generalize Th.fv (rd) 1 16 = F0 at *
  generalize Th.fv (rm) 1 16 = F1 at *
  generalize hX : 3933143040 + F0 * 256 + F1 * 1 = x at *
  have p0 : pt x 0 4 = F1 := pt_dig x 0 4 (0 * 1 + F0 * 16 + 960240 * 256) F1 (0) 1 16 (by decide) (by decide) (by omega) (by omega) (by omega)
  have p1 : pt x 4 4 = 0 := pt_dig x 4 4 (F0 * 1 + 960240 * 16) 0 (F1 * 1) 16 16 (by decide) (by decide) (by omega) (by omega) (by omega)
  have p2 : pt x 8 4 = F0 := pt_dig x 8 4 (960240 * 1) F0 (F1 * 1 + 0 * 16) 256 16 (by decide) (by decide) (by omega) (by omega) (by omega)
  have p3 : pt x 12 20 = 960240 := pt_dig x 12 20 (0) 960240 (F1 * 1 + 0 * 16 + F0 * 256) 4096 1048576 (by decide) (by decide) (by omega) (by omega) (by omega)
  have a0 : x &&& 240 = 0 := and_join x 0 0 4 4 0 240 0 (Nat.and_zero x) (by decide) p1 (by decide) (by decide)
  have a1 : x &&& 4294963440 = 3933143040 := and_join x 240 0 12 20 960240 4294963440 3933143040 a0 (by decide) p3 (by decide) (by decide)
  have hh : hit x 4294963440 3933143040 = true := by unfold hit; rw [a1]; exact beq_self_eq_true _
  have hno : ∀ r ∈ rows.take 8, hit x r.2.1 r.2.2 = false := by
    have hd : ∀ r ∈ rows.take 8, ((3933143040 &&& r.2.1) == (r.2.2 &&& 4294963440)) = false := by decide +kernel
    intro r hr
    exact apart x _ _ _ _ hh (hd r hr)
  refine ⟨find_of x 8 4294963440 3933143040 9 rfl hh hno, ?_⟩
  have hr : read 9 x = ⟨9, ((pt x 8 4 : Nat) : Int), 0, ((pt x 0 4 : Nat) : Int), 0, 0, 0, false⟩ := rfl
  rw [hr]
  unfold there
  simp only [p0, p1, p2, p3]
  clear hno hh hr a0 a1
  simp
  omega
set_option maxRecDepth 100000 in
theorem rowB10 (rd rn rm ra imm cond : Int) (wide : Bool) (h : check ⟨10, rd, rn, rm, ra, imm, cond, wide⟩ = 0) : find (num ⟨10, rd, rn, rm, ra, imm, cond, wide⟩) = 10 ∧ there (read 10 (num ⟨10, rd, rn, rm, ra, imm, cond, wide⟩)) = true := by
  have hx : num ⟨10, rd, rn, rm, ra, imm, cond, wide⟩ < 4294967296 := by rcases Th.size_num _ h with h | h <;> omega
  rw [Th.num10] at hx ⊢
  rw [Th.ok10] at h
  have b0 := Th.fv_lt (rn) 1 16 (by decide)
  have b1 := Th.fv_lt (rd) 1 16 (by decide)
  have b2 := Th.fv_lt (rm) 1 16 (by decide)
  have e0 : (Th.fv rn 1 16 : Int) = rn := by unfold Th.fv; omega
  have e1 : (Th.fv rd 1 16 : Int) = rd := by unfold Th.fv; omega
  have e2 : (Th.fv rm 1 16 : Int) = rm := by unfold Th.fv; omega
  generalize Th.fv (rn) 1 16 = F0 at *
  generalize Th.fv (rd) 1 16 = F1 at *
  generalize Th.fv (rm) 1 16 = F2 at *
  generalize hX : 3925868544 + F0 * 65536 + F1 * 256 + F2 * 1 = x at *
  have p0 : pt x 0 4 = F2 := pt_dig x 0 4 (0 * 1 + F1 * 16 + 0 * 256 + F0 * 4096 + 3744 * 65536) F2 (0) 1 16 (by decide) (by decide) (by omega) (by omega) (by omega)
  have p1 : pt x 4 4 = 0 := pt_dig x 4 4 (F1 * 1 + 0 * 16 + F0 * 256 + 3744 * 4096) 0 (F2 * 1) 16 16 (by decide) (by decide) (by omega) (by omega) (by omega)
  have p2 : pt x 8 4 = F1 := pt_dig x 8 4 (0 * 1 + F0 * 16 + 3744 * 256) F1 (F2 * 1 + 0 * 16) 256 16 (by decide) (by decide) (by omega) (by omega) (by omega)
  have p3 : pt x 12 4 = 0 := pt_dig x 12 4 (F0 * 1 + 3744 * 16) 0 (F2 * 1 + 0 * 16 + F1 * 256) 4096 16 (by decide) (by decide) (by omega) (by omega) (by omega)
  have p4 : pt x 16 4 = F0 := pt_dig x 16 4 (3744 * 1) F0 (F2 * 1 + 0 * 16 + F1 * 256 + 0 * 4096) 65536 16 (by decide) (by decide) (by omega) (by omega) (by omega)
  have p5 : pt x 20 12 = 3744 := pt_dig x 20 12 (0) 3744 (F2 * 1 + 0 * 16 + F1 * 256 + 0 * 4096 + F0 * 65536) 1048576 4096 (by decide) (by decide) (by omega) (by omega) (by omega)
  have a0 : x &&& 240 = 0 := and_join x 0 0 4 4 0 240 0 (Nat.and_zero x) (by decide) p1 (by decide) (by decide)
  have a1 : x &&& 61680 = 0 := and_join x 240 0 12 4 0 61680 0 a0 (by decide) p3 (by decide) (by decide)
  have a2 : x &&& 4293980400 = 3925868544 := and_join x 61680 0 20 12 3744 4293980400 3925868544 a1 (by decide) p5 (by decide) (by decide)
  have hh : hit x 4293980400 3925868544 = true := by unfold hit; rw [a2]; exact beq_self_eq_true _
  have hno : ∀ r ∈ rows.take 9, hit x r.2.1 r.2.2 = false := by
    have hd : ∀ r ∈ rows.take 9, ((3925868544 &&& r.2.1) == (r.2.2 &&& 4293980400)) = false := by decide +kernel
    intro r hr
    exact apart x _ _ _ _ hh (hd r hr)
  refine ⟨find_of x 9 4293980400 3925868544 10 rfl hh hno, ?_⟩
  have hr : read 10 x = ⟨10, ((pt x 8 4 : Nat) : Int), ((pt x 16 4 : Nat) : Int), ((pt x 0 4 : Nat) : Int), 0, 0, 0, false⟩ := rfl
  rw [hr]
  unfold there
  simp only [p0, p1, p2, p3, p4, p5]
  clear hno hh hr a0 a1 a2
  simp
  omega
set_option maxRecDepth 100000 in
theorem rowB11 (rd rn rm ra imm cond : Int) (wide : Bool) (h : check ⟨11, rd, rn, rm, ra, imm, cond, wide⟩ = 0) : find (num ⟨11, rd, rn, rm, ra, imm, cond, wide⟩) = 11 ∧ there (read 11 (num ⟨11, rd, rn, rm, ra, imm, cond, wide⟩)) = true := by
  have hx : num ⟨11, rd, rn, rm, ra, imm, cond, wide⟩ < 4294967296 := by rcases Th.size_num _ h with h | h <;> omega
  rw [Th.num11] at hx ⊢
  rw [Th.ok11] at h
  have b0 := Th.fv_lt (rn) 1 16 (by decide)
  have b1 := Th.fv_lt (rd) 1 16 (by decide)
  have b2 := Th.fv_lt (rm) 1 16 (by decide)
  have e0 : (Th.fv rn 1 16 : Int) = rn := by unfold Th.fv; omega
  have e1 : (Th.fv rd 1 16 : Int) = rd := by unfold Th.fv; omega
  have e2 : (Th.fv rm 1 16 : Int) = rm := by unfold Th.fv; omega
  generalize Th.fv (rn) 1 16 = F0 at *
  generalize Th.fv (rd) 1 16 = F1 at *
  generalize Th.fv (rm) 1 16 = F2 at *
  generalize hX : 3927965696 + F0 * 65536 + F1 * 256 + F2 * 1 = x at *
  have p0 : pt x 0 4 = F2 := pt_dig x 0 4 (0 * 1 + F1 * 16 + 0 * 256 + F0 * 4096 + 3746 * 65536) F2 (0) 1 16 (by decide) (by decide) (by omega) (by omega) (by omega)
  have p1 : pt x 4 4 = 0 := pt_dig x 4 4 (F1 * 1 + 0 * 16 + F0 * 256 + 3746 * 4096) 0 (F2 * 1) 16 16 (by decide) (by decide) (by omega) (by omega) (by omega)
  have p2 : pt x 8 4 = F1 := pt_dig x 8 4 (0 * 1 + F0 * 16 + 3746 * 256) F1 (F2 * 1 + 0 * 16) 256 16 (by decide) (by decide) (by omega) (by omega) (by omega)
  have p3 : pt x 12 4 = 0 := pt_dig x 12 4 (F0 * 1 + 3746 * 16) 0 (F2 * 1 + 0 * 16 + F1 * 256) 4096 16 (by decide) (by decide) (by omega) (by omega) (by omega)
  have p4 : pt x 16 4 = F0 := pt_dig x 16 4 (3746 * 1) F0 (F2 * 1 + 0 * 16 + F1 * 256 + 0 * 4096) 65536 16 (by decide) (by decide) (by omega) (by omega) (by omega)
  have p5 : pt x 20 12 = 3746 := pt_dig x 20 12 (0) 3746 (F2 * 1 + 0 * 16 + F1 * 256 + 0 * 4096 + F0 * 65536) 1048576 4096 (by decide) (by decide) (by omega) (by omega) (by omega)
  have a0 : x &&& 240 = 0 := and_join x 0 0 4 4 0 240 0 (Nat.and_zero x) (by decide) p1 (by decide) (by decide)
  have a1 : x &&& 61680 = 0 := and_join x 240 0 12 4 0 61680 0 a0 (by decide) p3 (by decide) (by decide)
  have a2 : x &&& 4293980400 = 3927965696 := and_join x 61680 0 20 12 3746 4293980400 3927965696 a1 (by decide) p5 (by decide) (by decide)
  have hh : hit x 4293980400 3927965696 = true := by unfold hit; rw [a2]; exact beq_self_eq_true _
  have hno : ∀ r ∈ rows.take 10, hit x r.2.1 r.2.2 = false := by
    have hd : ∀ r ∈ rows.take 10, ((3927965696 &&& r.2.1) == (r.2.2 &&& 4293980400)) = false := by decide +kernel
    intro r hr
    exact apart x _ _ _ _ hh (hd r hr)
  refine ⟨find_of x 10 4293980400 3927965696 11 rfl hh hno, ?_⟩
  have hr : read 11 x = ⟨11, ((pt x 8 4 : Nat) : Int), ((pt x 16 4 : Nat) : Int), ((pt x 0 4 : Nat) : Int), 0, 0, 0, false⟩ := rfl
  rw [hr]
  unfold there
  simp only [p0, p1, p2, p3, p4, p5]
  clear hno hh hr a0 a1 a2
  simp
  omega
set_option maxRecDepth 100000 in
theorem rowB12 (rd rn rm ra imm cond : Int) (wide : Bool) (h : check ⟨12, rd, rn, rm, ra, imm, cond, wide⟩ = 0) : find (num ⟨12, rd, rn, rm, ra, imm, cond, wide⟩) = 12 ∧ there (read 12 (num ⟨12, rd, rn, rm, ra, imm, cond, wide⟩)) = true := by
  have hx : num ⟨12, rd, rn, rm, ra, imm, cond, wide⟩ < 4294967296 := by rcases Th.size_num _ h with h | h <;> omega
  rw [Th.num12] at hx ⊢
  rw [Th.ok12] at h
  have b0 := Th.fv_lt (rn) 1 16 (by decide)
  have b1 := Th.fv_lt (rd) 1 16 (by decide)
  have b2 := Th.fv_lt (rm) 1 16 (by decide)
  have e0 : (Th.fv rn 1 16 : Int) = rn := by unfold Th.fv; omega
  have e1 : (Th.fv rd 1 16 : Int) = rd := by unfold Th.fv; omega
  have e2 : (Th.fv rm 1 16 : Int) = rm := by unfold Th.fv; omega
  generalize Th.fv (rn) 1 16 = F0 at *
  generalize Th.fv (rd) 1 16 = F1 at *
  generalize Th.fv (rm) 1 16 = F2 at *
  generalize hX : 3930062848 + F0 * 65536 + F1 * 256 + F2 * 1 = x at *
  have p0 : pt x 0 4 = F2 := pt_dig x 0 4 (0 * 1 + F1 * 16 + 0 * 256 + F0 * 4096 + 3748 * 65536) F2 (0) 1 16 (by decide) (by decide) (by omega) (by omega) (by omega)
  have p1 : pt x 4 4 = 0 := pt_dig x 4 4 (F1 * 1 + 0 * 16 + F0 * 256 + 3748 * 4096) 0 (F2 * 1) 16 16 (by decide) (by decide) (by omega) (by omega) (by omega)
  have p2 : pt x 8 4 = F1 := pt_dig x 8 4 (0 * 1 + F0 * 16 + 3748 * 256) F1 (F2 * 1 + 0 * 16) 256 16 (by decide) (by decide) (by omega) (by omega) (by omega)
  have p3 : pt x 12 4 = 0 := pt_dig x 12 4 (F0 * 1 + 3748 * 16) 0 (F2 * 1 + 0 * 16 + F1 * 256) 4096 16 (by decide) (by decide) (by omega) (by omega) (by omega)
  have p4 : pt x 16 4 = F0 := pt_dig x 16 4 (3748 * 1) F0 (F2 * 1 + 0 * 16 + F1 * 256 + 0 * 4096) 65536 16 (by decide) (by decide) (by omega) (by omega) (by omega)
  have p5 : pt x 20 12 = 3748 := pt_dig x 20 12 (0) 3748 (F2 * 1 + 0 * 16 + F1 * 256 + 0 * 4096 + F0 * 65536) 1048576 4096 (by decide) (by decide) (by omega) (by omega) (by omega)
  have a0 : x &&& 240 = 0 := and_join x 0 0 4 4 0 240 0 (Nat.and_zero x) (by decide) p1 (by decide) (by decide)
  have a1 : x &&& 61680 = 0 := and_join x 240 0 12 4 0 61680 0 a0 (by decide) p3 (by decide) (by decide)
  have a2 : x &&& 4293980400 = 3930062848 := and_join x 61680 0 20 12 3748 4293980400 3930062848 a1 (by decide) p5 (by decide) (by decide)
  have hh : hit x 4293980400 3930062848 = true := by unfold hit; rw [a2]; exact beq_self_eq_true _
  have hno : ∀ r ∈ rows.take 11, hit x r.2.1 r.2.2 = false := by
    have hd : ∀ r ∈ rows.take 11, r = (5, 4294934576, 3931045888) ∨ ((3930062848 &&& r.2.1) == (r.2.2 &&& 4293980400)) = false := by decide +kernel
    intro r hr
    rcases hd r hr with rfl | hd
    · cases c : hit x 4294934576 3931045888 with
      | false => rfl
      | true =>
        have := run_of x 4294934576 3931045888 16 4 15 15 (eq_of_beq c) (by decide) (by decide) (by decide)
        omega
    · exact apart x _ _ _ _ hh hd
  refine ⟨find_of x 11 4293980400 3930062848 12 rfl hh hno, ?_⟩
  have hr : read 12 x = ⟨12, ((pt x 8 4 : Nat) : Int), ((pt x 16 4 : Nat) : Int), ((pt x 0 4 : Nat) : Int), 0, 0, 0, false⟩ := rfl
  rw [hr]
  unfold there
  simp only [p0, p1, p2, p3, p4, p5]
  clear hno hh hr a0 a1 a2
  simp
  omega
set_option maxRecDepth 100000 in
theorem rowB13 (rd rn rm ra imm cond : Int) (wide : Bool) (h : check ⟨13, rd, rn, rm, ra, imm, cond, wide⟩ = 0) : find (num ⟨13, rd, rn, rm, ra, imm, cond, wide⟩) = 13 ∧ there (read 13 (num ⟨13, rd, rn, rm, ra, imm, cond, wide⟩)) = true := by
  have hx : num ⟨13, rd, rn, rm, ra, imm, cond, wide⟩ < 4294967296 := by rcases Th.size_num _ h with h | h <;> omega
  rw [Th.num13] at hx ⊢
  rw [Th.ok13] at h
  have b0 := Th.fv_lt (rn) 1 16 (by decide)
  have b1 := Th.fv_lt (rd) 1 16 (by decide)
  have b2 := Th.fv_lt (rm) 1 16 (by decide)
  have e0 : (Th.fv rn 1 16 : Int) = rn := by unfold Th.fv; omega
  have e1 : (Th.fv rd 1 16 : Int) = rd := by unfold Th.fv; omega
  have e2 : (Th.fv rm 1 16 : Int) = rm := by unfold Th.fv; omega
  generalize Th.fv (rn) 1 16 = F0 at *
  generalize Th.fv (rd) 1 16 = F1 at *
  generalize Th.fv (rm) 1 16 = F2 at *
  generalize hX : 3934257152 + F0 * 65536 + F1 * 256 + F2 * 1 = x at *
  have p0 : pt x 0 4 = F2 := pt_dig x 0 4 (0 * 1 + F1 * 16 + 0 * 256 + F0 * 4096 + 3752 * 65536) F2 (0) 1 16 (by decide) (by decide) (by omega) (by omega) (by omega)
  have p1 : pt x 4 4 = 0 := pt_dig x 4 4 (F1 * 1 + 0 * 16 + F0 * 256 + 3752 * 4096) 0 (F2 * 1) 16 16 (by decide) (by decide) (by omega) (by omega) (by omega)
  have p2 : pt x 8 4 = F1 := pt_dig x 8 4 (0 * 1 + F0 * 16 + 3752 * 256) F1 (F2 * 1 + 0 * 16) 256 16 (by decide) (by decide) (by omega) (by omega) (by omega)
  have p3 : pt x 12 4 = 0 := pt_dig x 12 4 (F0 * 1 + 3752 * 16) 0 (F2 * 1 + 0 * 16 + F1 * 256) 4096 16 (by decide) (by decide) (by omega) (by omega) (by omega)
  have p4 : pt x 16 4 = F0 := pt_dig x 16 4 (3752 * 1) F0 (F2 * 1 + 0 * 16 + F1 * 256 + 0 * 4096) 65536 16 (by decide) (by decide) (by omega) (by omega) (by omega)
  have p5 : pt x 20 12 = 3752 := pt_dig x 20 12 (0) 3752 (F2 * 1 + 0 * 16 + F1 * 256 + 0 * 4096 + F0 * 65536) 1048576 4096 (by decide) (by decide) (by omega) (by omega) (by omega)
  have a0 : x &&& 240 = 0 := and_join x 0 0 4 4 0 240 0 (Nat.and_zero x) (by decide) p1 (by decide) (by decide)
  have a1 : x &&& 61680 = 0 := and_join x 240 0 12 4 0 61680 0 a0 (by decide) p3 (by decide) (by decide)
  have a2 : x &&& 4293980400 = 3934257152 := and_join x 61680 0 20 12 3752 4293980400 3934257152 a1 (by decide) p5 (by decide) (by decide)
  have hh : hit x 4293980400 3934257152 = true := by unfold hit; rw [a2]; exact beq_self_eq_true _
  have hno : ∀ r ∈ rows.take 12, hit x r.2.1 r.2.2 = false := by
    have hd : ∀ r ∈ rows.take 12, ((3934257152 &&& r.2.1) == (r.2.2 &&& 4293980400)) = false := by decide +kernel
    intro r hr
    exact apart x _ _ _ _ hh (hd r hr)
  refine ⟨find_of x 12 4293980400 3934257152 13 rfl hh hno, ?_⟩
  have hr : read 13 x = ⟨13, ((pt x 8 4 : Nat) : Int), ((pt x 16 4 : Nat) : Int), ((pt x 0 4 : Nat) : Int), 0, 0, 0, false⟩ := rfl
  rw [hr]
  unfold there
  simp only [p0, p1, p2, p3, p4, p5]
  clear hno hh hr a0 a1 a2
  simp
  omega
set_option maxRecDepth 100000 in
theorem rowB14 (rd rn rm ra imm cond : Int) (wide : Bool) (h : check ⟨14, rd, rn, rm, ra, imm, cond, wide⟩ = 0) : find (num ⟨14, rd, rn, rm, ra, imm, cond, wide⟩) = 14 ∧ there (read 14 (num ⟨14, rd, rn, rm, ra, imm, cond, wide⟩)) = true := by
  have hx : num ⟨14, rd, rn, rm, ra, imm, cond, wide⟩ < 4294967296 := by rcases Th.size_num _ h with h | h <;> omega
  rw [Th.num14] at hx ⊢
  rw [Th.ok14] at h
  have b0 := Th.fv_lt (rn) 1 16 (by decide)
  have b1 := Th.fv_lt (rd) 1 16 (by decide)
  have b2 := Th.fv_lt (rm) 1 16 (by decide)
  have e0 : (Th.fv rn 1 16 : Int) = rn := by unfold Th.fv; omega
  have e1 : (Th.fv rd 1 16 : Int) = rd := by unfold Th.fv; omega
  have e2 : (Th.fv rm 1 16 : Int) = rm := by unfold Th.fv; omega
  generalize Th.fv (rn) 1 16 = F0 at *
  generalize Th.fv (rd) 1 16 = F1 at *
  generalize Th.fv (rm) 1 16 = F2 at *
  generalize hX : 3942645760 + F0 * 65536 + F1 * 256 + F2 * 1 = x at *
  have p0 : pt x 0 4 = F2 := pt_dig x 0 4 (0 * 1 + F1 * 16 + 0 * 256 + F0 * 4096 + 3760 * 65536) F2 (0) 1 16 (by decide) (by decide) (by omega) (by omega) (by omega)
  have p1 : pt x 4 4 = 0 := pt_dig x 4 4 (F1 * 1 + 0 * 16 + F0 * 256 + 3760 * 4096) 0 (F2 * 1) 16 16 (by decide) (by decide) (by omega) (by omega) (by omega)
  have p2 : pt x 8 4 = F1 := pt_dig x 8 4 (0 * 1 + F0 * 16 + 3760 * 256) F1 (F2 * 1 + 0 * 16) 256 16 (by decide) (by decide) (by omega) (by omega) (by omega)
  have p3 : pt x 12 4 = 0 := pt_dig x 12 4 (F0 * 1 + 3760 * 16) 0 (F2 * 1 + 0 * 16 + F1 * 256) 4096 16 (by decide) (by decide) (by omega) (by omega) (by omega)
  have p4 : pt x 16 4 = F0 := pt_dig x 16 4 (3760 * 1) F0 (F2 * 1 + 0 * 16 + F1 * 256 + 0 * 4096) 65536 16 (by decide) (by decide) (by omega) (by omega) (by omega)
  have p5 : pt x 20 12 = 3760 := pt_dig x 20 12 (0) 3760 (F2 * 1 + 0 * 16 + F1 * 256 + 0 * 4096 + F0 * 65536) 1048576 4096 (by decide) (by decide) (by omega) (by omega) (by omega)
  have a0 : x &&& 240 = 0 := and_join x 0 0 4 4 0 240 0 (Nat.and_zero x) (by decide) p1 (by decide) (by decide)
  have a1 : x &&& 61680 = 0 := and_join x 240 0 12 4 0 61680 0 a0 (by decide) p3 (by decide) (by decide)
  have a2 : x &&& 4293980400 = 3942645760 := and_join x 61680 0 20 12 3760 4293980400 3942645760 a1 (by decide) p5 (by decide) (by decide)
  have hh : hit x 4293980400 3942645760 = true := by unfold hit; rw [a2]; exact beq_self_eq_true _
  have hno : ∀ r ∈ rows.take 13, hit x r.2.1 r.2.2 = false := by
    have hd : ∀ r ∈ rows.take 13, ((3942645760 &&& r.2.1) == (r.2.2 &&& 4293980400)) = false := by decide +kernel
    intro r hr
    exact apart x _ _ _ _ hh (hd r hr)
  refine ⟨find_of x 13 4293980400 3942645760 14 rfl hh hno, ?_⟩
  have hr : read 14 x = ⟨14, ((pt x 8 4 : Nat) : Int), ((pt x 16 4 : Nat) : Int), ((pt x 0 4 : Nat) : Int), 0, 0, 0, false⟩ := rfl
  rw [hr]
  unfold there
  simp only [p0, p1, p2, p3, p4, p5]
  clear hno hh hr a0 a1 a2
  simp
  omega
set_option maxRecDepth 100000 in
theorem rowB15 (rd rn rm ra imm cond : Int) (wide : Bool) (h : check ⟨15, rd, rn, rm, ra, imm, cond, wide⟩ = 0) : find (num ⟨15, rd, rn, rm, ra, imm, cond, wide⟩) = 15 ∧ there (read 15 (num ⟨15, rd, rn, rm, ra, imm, cond, wide⟩)) = true := by
  have hx : num ⟨15, rd, rn, rm, ra, imm, cond, wide⟩ < 4294967296 := by rcases Th.size_num _ h with h | h <;> omega
  rw [Th.num15] at hx ⊢
  rw [Th.ok15] at h
  have b0 := Th.fv_lt (rn) 1 16 (by decide)
  have b1 := Th.fv_lt (rd) 1 16 (by decide)
  have b2 := Th.fv_lt (rm) 1 16 (by decide)
  have e0 : (Th.fv rn 1 16 : Int) = rn := by unfold Th.fv; omega
  have e1 : (Th.fv rd 1 16 : Int) = rd := by unfold Th.fv; omega
  have e2 : (Th.fv rm 1 16 : Int) = rm := by unfold Th.fv; omega
  generalize Th.fv (rn) 1 16 = F0 at *
  generalize Th.fv (rd) 1 16 = F1 at *
  generalize Th.fv (rm) 1 16 = F2 at *
  generalize hX : 3953131520 + F0 * 65536 + F1 * 256 + F2 * 1 = x at *
  have p0 : pt x 0 4 = F2 := pt_dig x 0 4 (0 * 1 + F1 * 16 + 0 * 256 + F0 * 4096 + 3770 * 65536) F2 (0) 1 16 (by decide) (by decide) (by omega) (by omega) (by omega)
  have p1 : pt x 4 4 = 0 := pt_dig x 4 4 (F1 * 1 + 0 * 16 + F0 * 256 + 3770 * 4096) 0 (F2 * 1) 16 16 (by decide) (by decide) (by omega) (by omega) (by omega)
  have p2 : pt x 8 4 = F1 := pt_dig x 8 4 (0 * 1 + F0 * 16 + 3770 * 256) F1 (F2 * 1 + 0 * 16) 256 16 (by decide) (by decide) (by omega) (by omega) (by omega)
  have p3 : pt x 12 4 = 0 := pt_dig x 12 4 (F0 * 1 + 3770 * 16) 0 (F2 * 1 + 0 * 16 + F1 * 256) 4096 16 (by decide) (by decide) (by omega) (by omega) (by omega)
  have p4 : pt x 16 4 = F0 := pt_dig x 16 4 (3770 * 1) F0 (F2 * 1 + 0 * 16 + F1 * 256 + 0 * 4096) 65536 16 (by decide) (by decide) (by omega) (by omega) (by omega)
  have p5 : pt x 20 12 = 3770 := pt_dig x 20 12 (0) 3770 (F2 * 1 + 0 * 16 + F1 * 256 + 0 * 4096 + F0 * 65536) 1048576 4096 (by decide) (by decide) (by omega) (by omega) (by omega)
  have a0 : x &&& 240 = 0 := and_join x 0 0 4 4 0 240 0 (Nat.and_zero x) (by decide) p1 (by decide) (by decide)
  have a1 : x &&& 61680 = 0 := and_join x 240 0 12 4 0 61680 0 a0 (by decide) p3 (by decide) (by decide)
  have a2 : x &&& 4293980400 = 3953131520 := and_join x 61680 0 20 12 3770 4293980400 3953131520 a1 (by decide) p5 (by decide) (by decide)
  have hh : hit x 4293980400 3953131520 = true := by unfold hit; rw [a2]; exact beq_self_eq_true _
  have hno : ∀ r ∈ rows.take 14, hit x r.2.1 r.2.2 = false := by
    have hd : ∀ r ∈ rows.take 14, ((3953131520 &&& r.2.1) == (r.2.2 &&& 4293980400)) = false := by decide +kernel
    intro r hr
    exact apart x _ _ _ _ hh (hd r hr)
  refine ⟨find_of x 14 4293980400 3953131520 15 rfl hh hno, ?_⟩
  have hr : read 15 x = ⟨15, ((pt x 8 4 : Nat) : Int), ((pt x 16 4 : Nat) : Int), ((pt x 0 4 : Nat) : Int), 0, 0, 0, false⟩ := rfl
  rw [hr]
  unfold there
  simp only [p0, p1, p2, p3, p4, p5]
  clear hno hh hr a0 a1 a2
  simp
  omega
set_option maxRecDepth 100000 in
theorem rowB16 (rd rn rm ra imm cond : Int) (wide : Bool) (h : check ⟨16, rd, rn, rm, ra, imm, cond, wide⟩ = 0) : find (num ⟨16, rd, rn, rm, ra, imm, cond, wide⟩) = 16 ∧ there (read 16 (num ⟨16, rd, rn, rm, ra, imm, cond, wide⟩)) = true := by
  have hx : num ⟨16, rd, rn, rm, ra, imm, cond, wide⟩ < 4294967296 := by rcases Th.size_num _ h with h | h <;> omega
  rw [Th.num16] at hx ⊢
  rw [Th.ok16] at h
  have b0 := Th.fv_lt (rn) 1 16 (by decide)
  have b1 := Th.fv_lt (rd) 1 16 (by decide)
  have b2 := Th.fv_lt (rm) 1 16 (by decide)
  have e0 : (Th.fv rn 1 16 : Int) = rn := by unfold Th.fv; omega
  have e1 : (Th.fv rd 1 16 : Int) = rd := by unfold Th.fv; omega
  have e2 : (Th.fv rm 1 16 : Int) = rm := by unfold Th.fv; omega
  generalize Th.fv (rn) 1 16 = F0 at *
  generalize Th.fv (rd) 1 16 = F1 at *
  generalize Th.fv (rm) 1 16 = F2 at *
  generalize hX : 4211142656 + F0 * 65536 + F1 * 256 + F2 * 1 = x at *
  have p0 : pt x 0 4 = F2 := pt_dig x 0 4 (0 * 1 + F1 * 16 + 15 * 256 + F0 * 4096 + 4016 * 65536) F2 (0) 1 16 (by decide) (by decide) (by omega) (by omega) (by omega)
  have p1 : pt x 4 4 = 0 := pt_dig x 4 4 (F1 * 1 + 15 * 16 + F0 * 256 + 4016 * 4096) 0 (F2 * 1) 16 16 (by decide) (by decide) (by omega) (by omega) (by omega)
  have p2 : pt x 8 4 = F1 := pt_dig x 8 4 (15 * 1 + F0 * 16 + 4016 * 256) F1 (F2 * 1 + 0 * 16) 256 16 (by decide) (by decide) (by omega) (by omega) (by omega)
  have p3 : pt x 12 4 = 15 := pt_dig x 12 4 (F0 * 1 + 4016 * 16) 15 (F2 * 1 + 0 * 16 + F1 * 256) 4096 16 (by decide) (by decide) (by omega) (by omega) (by omega)
  have p4 : pt x 16 4 = F0 := pt_dig x 16 4 (4016 * 1) F0 (F2 * 1 + 0 * 16 + F1 * 256 + 15 * 4096) 65536 16 (by decide) (by decide) (by omega) (by omega) (by omega)
  have p5 : pt x 20 12 = 4016 := pt_dig x 20 12 (0) 4016 (F2 * 1 + 0 * 16 + F1 * 256 + 15 * 4096 + F0 * 65536) 1048576 4096 (by decide) (by decide) (by omega) (by omega) (by omega)
  have a0 : x &&& 240 = 0 := and_join x 0 0 4 4 0 240 0 (Nat.and_zero x) (by decide) p1 (by decide) (by decide)
  have a1 : x &&& 61680 = 61440 := and_join x 240 0 12 4 15 61680 61440 a0 (by decide) p3 (by decide) (by decide)
  have a2 : x &&& 4293980400 = 4211142656 := and_join x 61680 61440 20 12 4016 4293980400 4211142656 a1 (by decide) p5 (by decide) (by decide)
  have hh : hit x 4293980400 4211142656 = true := by unfold hit; rw [a2]; exact beq_self_eq_true _
  have hno : ∀ r ∈ rows.take 15, hit x r.2.1 r.2.2 = false := by
    have hd : ∀ r ∈ rows.take 15, ((4211142656 &&& r.2.1) == (r.2.2 &&& 4293980400)) = false := by decide +kernel
    intro r hr
    exact apart x _ _ _ _ hh (hd r hr)
  refine ⟨find_of x 15 4293980400 4211142656 16 rfl hh hno, ?_⟩
  have hr : read 16 x = ⟨16, ((pt x 8 4 : Nat) : Int), ((pt x 16 4 : Nat) : Int), ((pt x 0 4 : Nat) : Int), 0, 0, 0, false⟩ := rfl
  rw [hr]
  unfold there
  simp only [p0, p1, p2, p3, p4, p5]
  clear hno hh hr a0 a1 a2
  simp
  omega
set_option maxRecDepth 100000 in
theorem rowB17 (rd rn rm ra imm cond : Int) (wide : Bool) (h : check ⟨17, rd, rn, rm, ra, imm, cond, wide⟩ = 0) : find (num ⟨17, rd, rn, rm, ra, imm, cond, wide⟩) = 17 ∧ there (read 17 (num ⟨17, rd, rn, rm, ra, imm, cond, wide⟩)) = true := by
  have hx : num ⟨17, rd, rn, rm, ra, imm, cond, wide⟩ < 4294967296 := by rcases Th.size_num _ h with h | h <;> omega
  rw [Th.num17] at hx ⊢
  rw [Th.ok17] at h
  have b0 := Th.fv_lt (rn) 1 16 (by decide)
  have b1 := Th.fv_lt (rd) 1 16 (by decide)
  have b2 := Th.fv_lt (ra) 1 16 (by decide)
  have b3 := Th.fv_lt (rm) 1 16 (by decide)
  have e0 : (Th.fv rn 1 16 : Int) = rn := by unfold Th.fv; omega
  have e1 : (Th.fv rd 1 16 : Int) = rd := by unfold Th.fv; omega
  have e2 : (Th.fv ra 1 16 : Int) = ra := by unfold Th.fv; omega
  have e3 : (Th.fv rm 1 16 : Int) = rm := by unfold Th.fv; omega
  generalize Th.fv (rn) 1 16 = F0 at *
  generalize Th.fv (rd) 1 16 = F1 at *
  generalize Th.fv (ra) 1 16 = F2 at *
  generalize Th.fv (rm) 1 16 = F3 at *
  generalize hX : 4221566976 + F0 * 65536 + F1 * 4096 + F2 * 256 + F3 * 1 = x at *
  have p0 : pt x 0 4 = F3 := pt_dig x 0 4 (0 * 1 + F2 * 16 + F1 * 256 + F0 * 4096 + 4026 * 65536) F3 (0) 1 16 (by decide) (by decide) (by omega) (by omega) (by omega)
  have p1 : pt x 4 4 = 0 := pt_dig x 4 4 (F2 * 1 + F1 * 16 + F0 * 256 + 4026 * 4096) 0 (F3 * 1) 16 16 (by decide) (by decide) (by omega) (by omega) (by omega)
  have p2 : pt x 8 4 = F2 := pt_dig x 8 4 (F1 * 1 + F0 * 16 + 4026 * 256) F2 (F3 * 1 + 0 * 16) 256 16 (by decide) (by decide) (by omega) (by omega) (by omega)
  have p3 : pt x 12 4 = F1 := pt_dig x 12 4 (F0 * 1 + 4026 * 16) F1 (F3 * 1 + 0 * 16 + F2 * 256) 4096 16 (by decide) (by decide) (by omega) (by omega) (by omega)
  have p4 : pt x 16 4 = F0 := pt_dig x 16 4 (4026 * 1) F0 (F3 * 1 + 0 * 16 + F2 * 256 + F1 * 4096) 65536 16 (by decide) (by decide) (by omega) (by omega) (by omega)
  have p5 : pt x 20 12 = 4026 := pt_dig x 20 12 (0) 4026 (F3 * 1 + 0 * 16 + F2 * 256 + F1 * 4096 + F0 * 65536) 1048576 4096 (by decide) (by decide) (by omega) (by omega) (by omega)
  have a0 : x &&& 240 = 0 := and_join x 0 0 4 4 0 240 0 (Nat.and_zero x) (by decide) p1 (by decide) (by decide)
  have a1 : x &&& 4293918960 = 4221566976 := and_join x 240 0 20 12 4026 4293918960 4221566976 a0 (by decide) p5 (by decide) (by decide)
  have hh : hit x 4293918960 4221566976 = true := by unfold hit; rw [a1]; exact beq_self_eq_true _
  have hno : ∀ r ∈ rows.take 16, hit x r.2.1 r.2.2 = false := by
    have hd : ∀ r ∈ rows.take 16, ((4221566976 &&& r.2.1) == (r.2.2 &&& 4293918960)) = false := by decide +kernel
    intro r hr
    exact apart x _ _ _ _ hh (hd r hr)
  refine ⟨find_of x 16 4293918960 4221566976 17 rfl hh hno, ?_⟩
  have hr : read 17 x = ⟨17, ((pt x 12 4 : Nat) : Int), ((pt x 16 4 : Nat) : Int), ((pt x 0 4 : Nat) : Int), ((pt x 8 4 : Nat) : Int), 0, 0, false⟩ := rfl
  rw [hr]
  unfold there
  simp only [p0, p1, p2, p3, p4, p5]
  clear hno hh hr a0 a1
  simp
  omega
set_option maxRecDepth 100000 in
theorem rowB18 (rd rn rm ra imm cond : Int) (wide : Bool) (h : check ⟨18, rd, rn, rm, ra, imm, cond, wide⟩ = 0) : find (num ⟨18, rd, rn, rm, ra, imm, cond, wide⟩) = 18 ∧ there (read 18 (num ⟨18, rd, rn, rm, ra, imm, cond, wide⟩)) = true := by
  have hx : num ⟨18, rd, rn, rm, ra, imm, cond, wide⟩ < 4294967296 := by rcases Th.size_num _ h with h | h <;> omega
  rw [Th.num18] at hx ⊢
  rw [Th.ok18] at h
  have b0 := Th.fv_lt (rn) 1 16 (by decide)
  have b1 := Th.fv_lt (imm) 4 8 (by decide)
  have b2 := Th.fv_lt (rd) 1 16 (by decide)
  have b3 := Th.fv_lt (imm) 1 4 (by decide)
  have b4 := Th.fv_lt ((imm + ra - 1)) 1 32 (by decide)
  have e0 : (Th.fv rn 1 16 : Int) = rn := by unfold Th.fv; omega
  have e2 : (Th.fv rd 1 16 : Int) = rd := by unfold Th.fv; omega
  have ei : (Th.fv imm 4 8 : Int) * 4 + (Th.fv imm 1 4 : Int) = imm := by unfold Th.fv; omega
  have ew : (Th.fv (imm + ra - 1) 1 32 : Int) = imm + ra - 1 := by unfold Th.fv; omega
  generalize Th.fv (rn) 1 16 = F0 at *
  generalize Th.fv (imm) 4 8 = F1 at *
  generalize Th.fv (rd) 1 16 = F2 at *
  generalize Th.fv (imm) 1 4 = F3 at *
  generalize Th.fv ((imm + ra - 1)) 1 32 = F4 at *
  generalize hX : 4083154944 + F0 * 65536 + F1 * 4096 + F2 * 256 + F3 * 64 + F4 * 1 = x at *
  have p0 : pt x 0 5 = F4 := pt_dig x 0 5 (0 * 1 + F3 * 2 + F2 * 8 + F1 * 128 + 0 * 1024 + F0 * 2048 + 3894 * 32768) F4 (0) 1 32 (by decide) (by decide) (by omega) (by omega) (by omega)
  have p1 : pt x 5 1 = 0 := pt_dig x 5 1 (F3 * 1 + F2 * 4 + F1 * 64 + 0 * 512 + F0 * 1024 + 3894 * 16384) 0 (F4 * 1) 32 2 (by decide) (by decide) (by omega) (by omega) (by omega)
  have p2 : pt x 6 2 = F3 := pt_dig x 6 2 (F2 * 1 + F1 * 16 + 0 * 128 + F0 * 256 + 3894 * 4096) F3 (F4 * 1 + 0 * 32) 64 4 (by decide) (by decide) (by omega) (by omega) (by omega)
  have p3 : pt x 8 4 = F2 := pt_dig x 8 4 (F1 * 1 + 0 * 8 + F0 * 16 + 3894 * 256) F2 (F4 * 1 + 0 * 32 + F3 * 64) 256 16 (by decide) (by decide) (by omega) (by omega) (by omega)
  have p4 : pt x 12 3 = F1 := pt_dig x 12 3 (0 * 1 + F0 * 2 + 3894 * 32) F1 (F4 * 1 + 0 * 32 + F3 * 64 + F2 * 256) 4096 8 (by decide) (by decide) (by omega) (by omega) (by omega)
  have p5 : pt x 15 1 = 0 := pt_dig x 15 1 (F0 * 1 + 3894 * 16) 0 (F4 * 1 + 0 * 32 + F3 * 64 + F2 * 256 + F1 * 4096) 32768 2 (by decide) (by decide) (by omega) (by omega) (by omega)
  have p6 : pt x 16 4 = F0 := pt_dig x 16 4 (3894 * 1) F0 (F4 * 1 + 0 * 32 + F3 * 64 + F2 * 256 + F1 * 4096 + 0 * 32768) 65536 16 (by decide) (by decide) (by omega) (by omega) (by omega)
  have p7 : pt x 20 12 = 3894 := pt_dig x 20 12 (0) 3894 (F4 * 1 + 0 * 32 + F3 * 64 + F2 * 256 + F1 * 4096 + 0 * 32768 + F0 * 65536) 1048576 4096 (by decide) (by decide) (by omega) (by omega) (by omega)
  have a0 : x &&& 32 = 0 := and_join x 0 0 5 1 0 32 0 (Nat.and_zero x) (by decide) p1 (by decide) (by decide)
  have a1 : x &&& 32800 = 0 := and_join x 32 0 15 1 0 32800 0 a0 (by decide) p5 (by decide) (by decide)
  have a2 : x &&& 4293951520 = 4083154944 := and_join x 32800 0 20 12 3894 4293951520 4083154944 a1 (by decide) p7 (by decide) (by decide)
  have hh : hit x 4293951520 4083154944 = true := by unfold hit; rw [a2]; exact beq_self_eq_true _
  have hno : ∀ r ∈ rows.take 17, hit x r.2.1 r.2.2 = false := by
    have hd : ∀ r ∈ rows.take 17, ((4083154944 &&& r.2.1) == (r.2.2 &&& 4293951520)) = false := by decide +kernel
    intro r hr
    exact apart x _ _ _ _ hh (hd r hr)
  refine ⟨find_of x 17 4293951520 4083154944 18 rfl hh hno, ?_⟩
  have hr : read 18 x = ⟨18, ((pt x 8 4 : Nat) : Int), ((pt x 16 4 : Nat) : Int), 0, ((pt x 0 5 : Nat) : Int) + 1 - ((shift x : Nat) : Int), ((shift x : Nat) : Int), 0, false⟩ := rfl
  rw [hr]
  unfold there
  unfold shift
  simp only [p0, p1, p2, p3, p4, p5, p6, p7]
  clear hno hh hr a0 a1 a2
  simp
  omega
set_option maxRecDepth 100000 in
theorem rowB19 (rd rn rm ra imm cond : Int) (wide : Bool) (h : check ⟨19, rd, rn, rm, ra, imm, cond, wide⟩ = 0) : find (num ⟨19, rd, rn, rm, ra, imm, cond, wide⟩) = 19 ∧ there (read 19 (num ⟨19, rd, rn, rm, ra, imm, cond, wide⟩)) = true := by
  have hx : num ⟨19, rd, rn, rm, ra, imm, cond, wide⟩ < 4294967296 := by rcases Th.size_num _ h with h | h <;> omega
  rw [Th.num19] at hx ⊢
  rw [Th.ok19] at h
  have b0 := Th.fv_lt (rn) 1 8 (by decide)
  have b1 := Th.fv_lt (rd) 1 8 (by decide)
  have e0 : (Th.fv rn 1 8 : Int) = rn := by unfold Th.fv; omega
  have e1 : (Th.fv rd 1 8 : Int) = rd := by unfold Th.fv; omega
  generalize Th.fv (rn) 1 8 = F0 at *
  generalize Th.fv (rd) 1 8 = F1 at *
  generalize hX : 26624 + F0 * 8 + F1 * 1 = x at *
  have p0 : pt x 0 3 = F1 := pt_dig x 0 3 (F0 * 1 + 416 * 8) F1 (0) 1 8 (by decide) (by decide) (by omega) (by omega) (by omega)
  have p1 : pt x 3 3 = F0 := pt_dig x 3 3 (416 * 1) F0 (F1 * 1) 8 8 (by decide) (by decide) (by omega) (by omega) (by omega)
  have p2 : pt x 6 26 = 416 := pt_dig x 6 26 (0) 416 (F1 * 1 + F0 * 8) 64 67108864 (by decide) (by decide) (by omega) (by omega) (by omega)
  have a0 : x &&& 4294967232 = 26624 := and_join x 0 0 6 26 416 4294967232 26624 (Nat.and_zero x) (by decide) p2 (by decide) (by decide)
  have hh : hit x 4294967232 26624 = true := by unfold hit; rw [a0]; exact beq_self_eq_true _
  have hno : ∀ r ∈ rows.take 18, hit x r.2.1 r.2.2 = false := by
    have hd : ∀ r ∈ rows.take 18, ((26624 &&& r.2.1) == (r.2.2 &&& 4294967232)) = false := by decide +kernel
    intro r hr
    exact apart x _ _ _ _ hh (hd r hr)
  refine ⟨find_of x 18 4294967232 26624 19 rfl hh hno, ?_⟩
  have hr : read 19 x = ⟨19, ((pt x 0 3 : Nat) : Int), ((pt x 3 3 : Nat) : Int), 0, 0, 0, 0, false⟩ := rfl
  rw [hr]
  unfold there
  simp only [p0, p1, p2]
  clear hno hh hr a0
  simp
  omega
set_option maxRecDepth 100000 in
theorem rowB20 (rd rn rm ra imm cond : Int) (wide : Bool) (h : check ⟨20, rd, rn, rm, ra, imm, cond, wide⟩ = 0) : find (num ⟨20, rd, rn, rm, ra, imm, cond, wide⟩) = 20 ∧ there (read 20 (num ⟨20, rd, rn, rm, ra, imm, cond, wide⟩)) = true := by
  have hx : num ⟨20, rd, rn, rm, ra, imm, cond, wide⟩ < 4294967296 := by rcases Th.size_num _ h with h | h <;> omega
  rw [Th.num20] at hx ⊢
  rw [Th.ok20] at h
  have b0 := Th.fv_lt (rn) 1 8 (by decide)
  have b1 := Th.fv_lt (rd) 1 8 (by decide)
  have e0 : (Th.fv rn 1 8 : Int) = rn := by unfold Th.fv; omega
  have e1 : (Th.fv rd 1 8 : Int) = rd := by unfold Th.fv; omega
  generalize Th.fv (rn) 1 8 = F0 at *
  generalize Th.fv (rd) 1 8 = F1 at *
  generalize hX : 24576 + F0 * 8 + F1 * 1 = x at *
  have p0 : pt x 0 3 = F1 := pt_dig x 0 3 (F0 * 1 + 384 * 8) F1 (0) 1 8 (by decide) (by decide) (by omega) (by omega) (by omega)
  have p1 : pt x 3 3 = F0 := pt_dig x 3 3 (384 * 1) F0 (F1 * 1) 8 8 (by decide) (by decide) (by omega) (by omega) (by omega)
  have p2 : pt x 6 26 = 384 := pt_dig x 6 26 (0) 384 (F1 * 1 + F0 * 8) 64 67108864 (by decide) (by decide) (by omega) (by omega) (by omega)
  have a0 : x &&& 4294967232 = 24576 := and_join x 0 0 6 26 384 4294967232 24576 (Nat.and_zero x) (by decide) p2 (by decide) (by decide)
  have hh : hit x 4294967232 24576 = true := by unfold hit; rw [a0]; exact beq_self_eq_true _
  have hno : ∀ r ∈ rows.take 19, hit x r.2.1 r.2.2 = false := by
    have hd : ∀ r ∈ rows.take 19, ((24576 &&& r.2.1) == (r.2.2 &&& 4294967232)) = false := by decide +kernel
    intro r hr
    exact apart x _ _ _ _ hh (hd r hr)
  refine ⟨find_of x 19 4294967232 24576 20 rfl hh hno, ?_⟩
  have hr : read 20 x = ⟨20, ((pt x 0 3 : Nat) : Int), ((pt x 3 3 : Nat) : Int), 0, 0, 0, 0, false⟩ := rfl
  rw [hr]
  unfold there
  simp only [p0, p1, p2]
  clear hno hh hr a0
  simp
  omega
set_option maxRecDepth 100000 in
theorem rowB21 (rd rn rm ra imm cond : Int) (wide : Bool) (h : check ⟨21, rd, rn, rm, ra, imm, cond, wide⟩ = 0) : find (num ⟨21, rd, rn, rm, ra, imm, cond, wide⟩) = 21 ∧ there (read 21 (num ⟨21, rd, rn, rm, ra, imm, cond, wide⟩)) = true := by
  have hx : num ⟨21, rd, rn, rm, ra, imm, cond, wide⟩ < 4294967296 := by rcases Th.size_num _ h with h | h <;> omega
  rw [Th.num21] at hx ⊢
  rw [Th.ok21] at h
  have b0 := Th.fv_lt (rn) 1 8 (by decide)
  have b1 := Th.fv_lt (rd) 1 8 (by decide)
  have e0 : (Th.fv rn 1 8 : Int) = rn := by unfold Th.fv; omega
  have e1 : (Th.fv rd 1 8 : Int) = rd := by unfold Th.fv; omega
  generalize Th.fv (rn) 1 8 = F0 at *
  generalize Th.fv (rd) 1 8 = F1 at *
  generalize hX : 30720 + F0 * 8 + F1 * 1 = x at *
  have p0 : pt x 0 3 = F1 := pt_dig x 0 3 (F0 * 1 + 480 * 8) F1 (0) 1 8 (by decide) (by decide) (by omega) (by omega) (by omega)
  have p1 : pt x 3 3 = F0 := pt_dig x 3 3 (480 * 1) F0 (F1 * 1) 8 8 (by decide) (by decide) (by omega) (by omega) (by omega)
  have p2 : pt x 6 26 = 480 := pt_dig x 6 26 (0) 480 (F1 * 1 + F0 * 8) 64 67108864 (by decide) (by decide) (by omega) (by omega) (by omega)
  have a0 : x &&& 4294967232 = 30720 := and_join x 0 0 6 26 480 4294967232 30720 (Nat.and_zero x) (by decide) p2 (by decide) (by decide)
  have hh : hit x 4294967232 30720 = true := by unfold hit; rw [a0]; exact beq_self_eq_true _
  have hno : ∀ r ∈ rows.take 20, hit x r.2.1 r.2.2 = false := by
    have hd : ∀ r ∈ rows.take 20, ((30720 &&& r.2.1) == (r.2.2 &&& 4294967232)) = false := by decide +kernel
    intro r hr
    exact apart x _ _ _ _ hh (hd r hr)
  refine ⟨find_of x 20 4294967232 30720 21 rfl hh hno, ?_⟩
  have hr : read 21 x = ⟨21, ((pt x 0 3 : Nat) : Int), ((pt x 3 3 : Nat) : Int), 0, 0, 0, 0, false⟩ := rfl
  rw [hr]
  unfold there
  simp only [p0, p1, p2]
  clear hno hh hr a0
  simp
  omega
set_option maxRecDepth 100000 in
theorem rowB22 (rd rn rm ra imm cond : Int) (wide : Bool) (h : check ⟨22, rd, rn, rm, ra, imm, cond, wide⟩ = 0) : find (num ⟨22, rd, rn, rm, ra, imm, cond, wide⟩) = 22 ∧ there (read 22 (num ⟨22, rd, rn, rm, ra, imm, cond, wide⟩)) = true := by
  have hx : num ⟨22, rd, rn, rm, ra, imm, cond, wide⟩ < 4294967296 := by rcases Th.size_num _ h with h | h <;> omega
  rw [Th.num22] at hx ⊢
  rw [Th.ok22] at h
  have b0 := Th.fv_lt (rn) 1 8 (by decide)
  have b1 := Th.fv_lt (rd) 1 8 (by decide)
  have e0 : (Th.fv rn 1 8 : Int) = rn := by unfold Th.fv; omega
  have e1 : (Th.fv rd 1 8 : Int) = rd := by unfold Th.fv; omega
  generalize Th.fv (rn) 1 8 = F0 at *
  generalize Th.fv (rd) 1 8 = F1 at *
  generalize hX : 28672 + F0 * 8 + F1 * 1 = x at *
  have p0 : pt x 0 3 = F1 := pt_dig x 0 3 (F0 * 1 + 448 * 8) F1 (0) 1 8 (by decide) (by decide) (by omega) (by omega) (by omega)
  have p1 : pt x 3 3 = F0 := pt_dig x 3 3 (448 * 1) F0 (F1 * 1) 8 8 (by decide) (by decide) (by omega) (by omega) (by omega)
  have p2 : pt x 6 26 = 448 := pt_dig x 6 26 (0) 448 (F1 * 1 + F0 * 8) 64 67108864 (by decide) (by decide) (by omega) (by omega) (by omega)
  have a0 : x &&& 4294967232 = 28672 := and_join x 0 0 6 26 448 4294967232 28672 (Nat.and_zero x) (by decide) p2 (by decide) (by decide)
  have hh : hit x 4294967232 28672 = true := by unfold hit; rw [a0]; exact beq_self_eq_true _
  have hno : ∀ r ∈ rows.take 21, hit x r.2.1 r.2.2 = false := by
    have hd : ∀ r ∈ rows.take 21, ((28672 &&& r.2.1) == (r.2.2 &&& 4294967232)) = false := by decide +kernel
    intro r hr
    exact apart x _ _ _ _ hh (hd r hr)
  refine ⟨find_of x 21 4294967232 28672 22 rfl hh hno, ?_⟩
  have hr : read 22 x = ⟨22, ((pt x 0 3 : Nat) : Int), ((pt x 3 3 : Nat) : Int), 0, 0, 0, 0, false⟩ := rfl
  rw [hr]
  unfold there
  simp only [p0, p1, p2]
  clear hno hh hr a0
  simp
  omega
set_option maxRecDepth 100000 in
theorem rowB23 (rd rn rm ra imm cond : Int) (wide : Bool) (h : check ⟨23, rd, rn, rm, ra, imm, cond, wide⟩ = 0) : find (num ⟨23, rd, rn, rm, ra, imm, cond, wide⟩) = 23 ∧ there (read 23 (num ⟨23, rd, rn, rm, ra, imm, cond, wide⟩)) = true := by
  have hx : num ⟨23, rd, rn, rm, ra, imm, cond, wide⟩ < 4294967296 := by rcases Th.size_num _ h with h | h <;> omega
  rw [Th.num23] at hx ⊢
  rw [Th.ok23] at h
  have b0 := Th.fv_lt (rm) 1 8 (by decide)
  have b1 := Th.fv_lt (rn) 1 8 (by decide)
  have e0 : (Th.fv rm 1 8 : Int) = rm := by unfold Th.fv; omega
  have e1 : (Th.fv rn 1 8 : Int) = rn := by unfold Th.fv; omega
  generalize Th.fv (rm) 1 8 = F0 at *
  generalize Th.fv (rn) 1 8 = F1 at *
  generalize hX : 17024 + F0 * 8 + F1 * 1 = x at *
  have p0 : pt x 0 3 = F1 := pt_dig x 0 3 (F0 * 1 + 266 * 8) F1 (0) 1 8 (by decide) (by decide) (by omega) (by omega) (by omega)
  have p1 : pt x 3 3 = F0 := pt_dig x 3 3 (266 * 1) F0 (F1 * 1) 8 8 (by decide) (by decide) (by omega) (by omega) (by omega)
  have p2 : pt x 6 26 = 266 := pt_dig x 6 26 (0) 266 (F1 * 1 + F0 * 8) 64 67108864 (by decide) (by decide) (by omega) (by omega) (by omega)
  have a0 : x &&& 4294967232 = 17024 := and_join x 0 0 6 26 266 4294967232 17024 (Nat.and_zero x) (by decide) p2 (by decide) (by decide)
  have hh : hit x 4294967232 17024 = true := by unfold hit; rw [a0]; exact beq_self_eq_true _
  have hno : ∀ r ∈ rows.take 22, hit x r.2.1 r.2.2 = false := by
    have hd : ∀ r ∈ rows.take 22, ((17024 &&& r.2.1) == (r.2.2 &&& 4294967232)) = false := by decide +kernel
    intro r hr
    exact apart x _ _ _ _ hh (hd r hr)
  refine ⟨find_of x 22 4294967232 17024 23 rfl hh hno, ?_⟩
  have hr : read 23 x = ⟨23, 0, ((pt x 0 3 : Nat) : Int), ((pt x 3 3 : Nat) : Int), 0, 0, 0, false⟩ := rfl
  rw [hr]
  unfold there
  simp only [p0, p1, p2]
  clear hno hh hr a0
  simp
  omega
set_option maxRecDepth 100000 in
theorem rowB24n (rd rn rm ra imm cond : Int) (h : check ⟨24, rd, rn, rm, ra, imm, cond, false⟩ = 0) : find (num ⟨24, rd, rn, rm, ra, imm, cond, false⟩) = 24 ∧ there (read 24 (num ⟨24, rd, rn, rm, ra, imm, cond, false⟩)) = true := by
  have hx : num ⟨24, rd, rn, rm, ra, imm, cond, false⟩ < 4294967296 := by rcases Th.size_num _ h with h | h <;> omega
  rw [Th.num24n] at hx ⊢
  rw [Th.ok24] at h
  have b0 := Th.fv_lt ((off imm)) 2 2048 (by decide)
  generalize Th.fv ((off imm)) 2 2048 = F0 at *
  generalize hX : 57344 + F0 * 1 = x at *
  have p0 : pt x 0 11 = F0 := pt_dig x 0 11 (28 * 1) F0 (0) 1 2048 (by decide) (by decide) (by omega) (by omega) (by omega)
  have p1 : pt x 11 21 = 28 := pt_dig x 11 21 (0) 28 (F0 * 1) 2048 2097152 (by decide) (by decide) (by omega) (by omega) (by omega)
  have a0 : x &&& 4294965248 = 57344 := and_join x 0 0 11 21 28 4294965248 57344 (Nat.and_zero x) (by decide) p1 (by decide) (by decide)
  have hh : hit x 4294965248 57344 = true := by unfold hit; rw [a0]; exact beq_self_eq_true _
  have hno : ∀ r ∈ rows.take 23, hit x r.2.1 r.2.2 = false := by
    have hd : ∀ r ∈ rows.take 23, ((57344 &&& r.2.1) == (r.2.2 &&& 4294965248)) = false := by decide +kernel
    intro r hr
    exact apart x _ _ _ _ hh (hd r hr)
  refine ⟨find_of x 23 4294965248 57344 24 rfl hh hno, ?_⟩
  have hw : ¬ 65536 ≤ x := by clear hno hh; omega
  clear hno hh
  rw [rd24n x hw]
  exact there24 _ _
set_option maxRecDepth 100000 in
theorem rowB24w (rd rn rm ra imm cond : Int) (h : check ⟨24, rd, rn, rm, ra, imm, cond, true⟩ = 0) : find (num ⟨24, rd, rn, rm, ra, imm, cond, true⟩) = 24 ∧ there (read 24 (num ⟨24, rd, rn, rm, ra, imm, cond, true⟩)) = true := by
  have hx : num ⟨24, rd, rn, rm, ra, imm, cond, true⟩ < 4294967296 := by rcases Th.size_num _ h with h | h <;> omega
  rw [Th.num24w] at hx ⊢
  rw [Th.ok24] at h
  have b0 := Th.fv_lt ((off imm)) 16777216 2 (by decide)
  have b1 := Th.fv_lt ((off imm)) 4096 1024 (by decide)
  have b2 := Th.fv_lt ((Th.alike (off imm) 23 24)) 1 2 (by decide)
  have b3 := Th.fv_lt ((Th.alike (off imm) 22 24)) 1 2 (by decide)
  have b4 := Th.fv_lt ((off imm)) 2 2048 (by decide)
  generalize Th.fv ((off imm)) 16777216 2 = F0 at *
  generalize Th.fv ((off imm)) 4096 1024 = F1 at *
  generalize Th.fv ((Th.alike (off imm) 23 24)) 1 2 = F2 at *
  generalize Th.fv ((Th.alike (off imm) 22 24)) 1 2 = F3 at *
  generalize Th.fv ((off imm)) 2 2048 = F4 at *
  generalize hX : 4026568704 + F0 * 67108864 + F1 * 65536 + F2 * 8192 + F3 * 2048 + F4 * 1 = x at *
  have p0 : pt x 0 11 = F4 := pt_dig x 0 11 (F3 * 1 + 1 * 2 + F2 * 4 + 2 * 8 + F1 * 32 + F0 * 32768 + 30 * 65536) F4 (0) 1 2048 (by decide) (by decide) (by omega) (by omega) (by omega)
  have p1 : pt x 11 1 = F3 := pt_dig x 11 1 (1 * 1 + F2 * 2 + 2 * 4 + F1 * 16 + F0 * 16384 + 30 * 32768) F3 (F4 * 1) 2048 2 (by decide) (by decide) (by omega) (by omega) (by omega)
  have p2 : pt x 12 1 = 1 := pt_dig x 12 1 (F2 * 1 + 2 * 2 + F1 * 8 + F0 * 8192 + 30 * 16384) 1 (F4 * 1 + F3 * 2048) 4096 2 (by decide) (by decide) (by omega) (by omega) (by omega)
  have p3 : pt x 13 1 = F2 := pt_dig x 13 1 (2 * 1 + F1 * 4 + F0 * 4096 + 30 * 8192) F2 (F4 * 1 + F3 * 2048 + 1 * 4096) 8192 2 (by decide) (by decide) (by omega) (by omega) (by omega)
  have p4 : pt x 14 2 = 2 := pt_dig x 14 2 (F1 * 1 + F0 * 1024 + 30 * 2048) 2 (F4 * 1 + F3 * 2048 + 1 * 4096 + F2 * 8192) 16384 4 (by decide) (by decide) (by omega) (by omega) (by omega)
  have p5 : pt x 16 10 = F1 := pt_dig x 16 10 (F0 * 1 + 30 * 2) F1 (F4 * 1 + F3 * 2048 + 1 * 4096 + F2 * 8192 + 2 * 16384) 65536 1024 (by decide) (by decide) (by omega) (by omega) (by omega)
  have p6 : pt x 26 1 = F0 := pt_dig x 26 1 (30 * 1) F0 (F4 * 1 + F3 * 2048 + 1 * 4096 + F2 * 8192 + 2 * 16384 + F1 * 65536) 67108864 2 (by decide) (by decide) (by omega) (by omega) (by omega)
  have p7 : pt x 27 5 = 30 := pt_dig x 27 5 (0) 30 (F4 * 1 + F3 * 2048 + 1 * 4096 + F2 * 8192 + 2 * 16384 + F1 * 65536 + F0 * 67108864) 134217728 32 (by decide) (by decide) (by omega) (by omega) (by omega)
  have a0 : x &&& 4096 = 4096 := and_join x 0 0 12 1 1 4096 4096 (Nat.and_zero x) (by decide) p2 (by decide) (by decide)
  have a1 : x &&& 53248 = 36864 := and_join x 4096 4096 14 2 2 53248 36864 a0 (by decide) p4 (by decide) (by decide)
  have a2 : x &&& 4160802816 = 4026568704 := and_join x 53248 36864 27 5 30 4160802816 4026568704 a1 (by decide) p7 (by decide) (by decide)
  have hh : hit x 4160802816 4026568704 = true := by unfold hit; rw [a2]; exact beq_self_eq_true _
  have hno : ∀ r ∈ rows.take 24, hit x r.2.1 r.2.2 = false := by
    have hd : ∀ r ∈ rows.take 24, ((4026568704 &&& r.2.1) == (r.2.2 &&& 4160802816)) = false := by decide +kernel
    intro r hr
    exact apart x _ _ _ _ hh (hd r hr)
  refine ⟨find_of x 24 4160802816 4026568704 24 rfl hh hno, ?_⟩
  have hw : 65536 ≤ x := by clear hno hh; omega
  clear hno hh
  rw [rd24w x hw]
  exact there24 _ _
set_option maxRecDepth 100000 in
theorem rowB25n (rd rn rm ra imm cond : Int) (h : check ⟨25, rd, rn, rm, ra, imm, cond, false⟩ = 0) : find (num ⟨25, rd, rn, rm, ra, imm, cond, false⟩) = 25 ∧ there (read 25 (num ⟨25, rd, rn, rm, ra, imm, cond, false⟩)) = true := by
  have hx : num ⟨25, rd, rn, rm, ra, imm, cond, false⟩ < 4294967296 := by rcases Th.size_num _ h with h | h <;> omega
  rw [Th.num25n] at hx ⊢
  rw [Th.ok25] at h
  have b0 := Th.fv_lt (cond) 1 16 (by decide)
  have b1 := Th.fv_lt ((off imm)) 2 256 (by decide)
  have e0 : (Th.fv cond 1 16 : Int) = cond := by unfold Th.fv; omega
  generalize Th.fv (cond) 1 16 = F0 at *
  generalize Th.fv ((off imm)) 2 256 = F1 at *
  generalize hX : 53248 + F0 * 256 + F1 * 1 = x at *
  have p0 : pt x 0 8 = F1 := pt_dig x 0 8 (F0 * 1 + 13 * 16) F1 (0) 1 256 (by decide) (by decide) (by omega) (by omega) (by omega)
  have p1 : pt x 8 4 = F0 := pt_dig x 8 4 (13 * 1) F0 (F1 * 1) 256 16 (by decide) (by decide) (by omega) (by omega) (by omega)
  have p2 : pt x 12 20 = 13 := pt_dig x 12 20 (0) 13 (F1 * 1 + F0 * 256) 4096 1048576 (by decide) (by decide) (by omega) (by omega) (by omega)
  have a0 : x &&& 4294963200 = 53248 := and_join x 0 0 12 20 13 4294963200 53248 (Nat.and_zero x) (by decide) p2 (by decide) (by decide)
  have hh : hit x 4294963200 53248 = true := by unfold hit; rw [a0]; exact beq_self_eq_true _
  have hno : ∀ r ∈ rows.take 25, hit x r.2.1 r.2.2 = false := by
    have hd : ∀ r ∈ rows.take 25, ((53248 &&& r.2.1) == (r.2.2 &&& 4294963200)) = false := by decide +kernel
    intro r hr
    exact apart x _ _ _ _ hh (hd r hr)
  refine ⟨find_of x 25 4294963200 53248 25 rfl hh hno, ?_⟩
  have hw : ¬ 65536 ≤ x := by clear hno hh; omega
  clear hno hh
  rw [rd25n x hw]
  exact there25 _ _ _ (by rw [p1]; omega)
set_option maxRecDepth 100000 in
theorem rowB25w (rd rn rm ra imm cond : Int) (h : check ⟨25, rd, rn, rm, ra, imm, cond, true⟩ = 0) : find (num ⟨25, rd, rn, rm, ra, imm, cond, true⟩) = 25 ∧ there (read 25 (num ⟨25, rd, rn, rm, ra, imm, cond, true⟩)) = true := by
  have hx : num ⟨25, rd, rn, rm, ra, imm, cond, true⟩ < 4294967296 := by rcases Th.size_num _ h with h | h <;> omega
  rw [Th.num25w] at hx ⊢
  rw [Th.ok25] at h
  have b0 := Th.fv_lt ((off imm)) 1048576 2 (by decide)
  have b1 := Th.fv_lt (cond) 1 16 (by decide)
  have b2 := Th.fv_lt ((off imm)) 4096 64 (by decide)
  have b3 := Th.fv_lt ((off imm)) 262144 2 (by decide)
  have b4 := Th.fv_lt ((off imm)) 524288 2 (by decide)
  have b5 := Th.fv_lt ((off imm)) 2 2048 (by decide)
  have e1 : (Th.fv cond 1 16 : Int) = cond := by unfold Th.fv; omega
  generalize Th.fv ((off imm)) 1048576 2 = F0 at *
  generalize Th.fv (cond) 1 16 = F1 at *
  generalize Th.fv ((off imm)) 4096 64 = F2 at *
  generalize Th.fv ((off imm)) 262144 2 = F3 at *
  generalize Th.fv ((off imm)) 524288 2 = F4 at *
  generalize Th.fv ((off imm)) 2 2048 = F5 at *
  generalize hX : 4026564608 + F0 * 67108864 + F1 * 4194304 + F2 * 65536 + F3 * 8192 + F4 * 2048 + F5 * 1 = x at *
  have p0 : pt x 0 11 = F5 := pt_dig x 0 11 (F4 * 1 + 0 * 2 + F3 * 4 + 2 * 8 + F2 * 32 + F1 * 2048 + F0 * 32768 + 30 * 65536) F5 (0) 1 2048 (by decide) (by decide) (by omega) (by omega) (by omega)
  have p1 : pt x 11 1 = F4 := pt_dig x 11 1 (0 * 1 + F3 * 2 + 2 * 4 + F2 * 16 + F1 * 1024 + F0 * 16384 + 30 * 32768) F4 (F5 * 1) 2048 2 (by decide) (by decide) (by omega) (by omega) (by omega)
  have p2 : pt x 12 1 = 0 := pt_dig x 12 1 (F3 * 1 + 2 * 2 + F2 * 8 + F1 * 512 + F0 * 8192 + 30 * 16384) 0 (F5 * 1 + F4 * 2048) 4096 2 (by decide) (by decide) (by omega) (by omega) (by omega)
  have p3 : pt x 13 1 = F3 := pt_dig x 13 1 (2 * 1 + F2 * 4 + F1 * 256 + F0 * 4096 + 30 * 8192) F3 (F5 * 1 + F4 * 2048 + 0 * 4096) 8192 2 (by decide) (by decide) (by omega) (by omega) (by omega)
  have p4 : pt x 14 2 = 2 := pt_dig x 14 2 (F2 * 1 + F1 * 64 + F0 * 1024 + 30 * 2048) 2 (F5 * 1 + F4 * 2048 + 0 * 4096 + F3 * 8192) 16384 4 (by decide) (by decide) (by omega) (by omega) (by omega)
  have p5 : pt x 16 6 = F2 := pt_dig x 16 6 (F1 * 1 + F0 * 16 + 30 * 32) F2 (F5 * 1 + F4 * 2048 + 0 * 4096 + F3 * 8192 + 2 * 16384) 65536 64 (by decide) (by decide) (by omega) (by omega) (by omega)
  have p6 : pt x 22 4 = F1 := pt_dig x 22 4 (F0 * 1 + 30 * 2) F1 (F5 * 1 + F4 * 2048 + 0 * 4096 + F3 * 8192 + 2 * 16384 + F2 * 65536) 4194304 16 (by decide) (by decide) (by omega) (by omega) (by omega)
  have p7 : pt x 26 1 = F0 := pt_dig x 26 1 (30 * 1) F0 (F5 * 1 + F4 * 2048 + 0 * 4096 + F3 * 8192 + 2 * 16384 + F2 * 65536 + F1 * 4194304) 67108864 2 (by decide) (by decide) (by omega) (by omega) (by omega)
  have p8 : pt x 27 5 = 30 := pt_dig x 27 5 (0) 30 (F5 * 1 + F4 * 2048 + 0 * 4096 + F3 * 8192 + 2 * 16384 + F2 * 65536 + F1 * 4194304 + F0 * 67108864) 134217728 32 (by decide) (by decide) (by omega) (by omega) (by omega)
  have a0 : x &&& 4096 = 0 := and_join x 0 0 12 1 0 4096 0 (Nat.and_zero x) (by decide) p2 (by decide) (by decide)
  have a1 : x &&& 53248 = 32768 := and_join x 4096 0 14 2 2 53248 32768 a0 (by decide) p4 (by decide) (by decide)
  have a2 : x &&& 4160802816 = 4026564608 := and_join x 53248 32768 27 5 30 4160802816 4026564608 a1 (by decide) p8 (by decide) (by decide)
  have hh : hit x 4160802816 4026564608 = true := by unfold hit; rw [a2]; exact beq_self_eq_true _
  have hno : ∀ r ∈ rows.take 26, hit x r.2.1 r.2.2 = false := by
    have hd : ∀ r ∈ rows.take 26, ((4026564608 &&& r.2.1) == (r.2.2 &&& 4160802816)) = false := by decide +kernel
    intro r hr
    exact apart x _ _ _ _ hh (hd r hr)
  refine ⟨find_of x 26 4160802816 4026564608 25 rfl hh hno, ?_⟩
  have hw : 65536 ≤ x := by clear hno hh; omega
  clear hno hh
  rw [rd25w x hw]
  exact there25 _ _ _ (by rw [p6]; omega)
end Go.Proofs.Ytcajllbhgfaofaa.De
