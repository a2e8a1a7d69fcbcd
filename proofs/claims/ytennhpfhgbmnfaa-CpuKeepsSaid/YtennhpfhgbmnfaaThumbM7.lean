/-
  Plain mathematics of instructions: unlike instructions have unlike bytes, none the beginning of the other ones'. It names nothing of the translated program.
-/
import Derived.Test.YtennhpfhgbmnfaaThumbM6
namespace Go.Proofs.Ytennhpfhgbmnfaa.Th
open Go.RowKit

theorem size2_lt (i : Ins) (h : check i = 0) (hz : size i = 2) : num i < 59392 := by
  obtain ⟨op, rd, rn, rm, ra, imm, cond, wide⟩ := i
  rcases op_cases (op_range h) with rfl | rfl | rfl | rfl | rfl | rfl | rfl | rfl | rfl | rfl | rfl | rfl | rfl | rfl | rfl | rfl | rfl | rfl | rfl | rfl | rfl | rfl | rfl | rfl | rfl
  ·
    rw [num1]; omega
  ·
    have b0 := fv_lt imm 1 256 (by decide)
    rw [num2]; omega
  · rw [size3 _ _ _ _ _ _ _ h] at hz; exact absurd hz (by decide)
  · rw [size4 _ _ _ _ _ _ _ h] at hz; exact absurd hz (by decide)
  · rw [size5 _ _ _ _ _ _ _ h] at hz; exact absurd hz (by decide)
  · rw [size6 _ _ _ _ _ _ _ h] at hz; exact absurd hz (by decide)
  · rw [size7 _ _ _ _ _ _ _ h] at hz; exact absurd hz (by decide)
  · rw [size8 _ _ _ _ _ _ _ h] at hz; exact absurd hz (by decide)
  · rw [size9 _ _ _ _ _ _ _ h] at hz; exact absurd hz (by decide)
  · rw [size10 _ _ _ _ _ _ _ h] at hz; exact absurd hz (by decide)
  · rw [size11 _ _ _ _ _ _ _ h] at hz; exact absurd hz (by decide)
  · rw [size12 _ _ _ _ _ _ _ h] at hz; exact absurd hz (by decide)
  · rw [size13 _ _ _ _ _ _ _ h] at hz; exact absurd hz (by decide)
  · rw [size14 _ _ _ _ _ _ _ h] at hz; exact absurd hz (by decide)
  · rw [size15 _ _ _ _ _ _ _ h] at hz; exact absurd hz (by decide)
  · rw [size16 _ _ _ _ _ _ _ h] at hz; exact absurd hz (by decide)
  · rw [size17 _ _ _ _ _ _ _ h] at hz; exact absurd hz (by decide)
  · rw [size18 _ _ _ _ _ _ _ h] at hz; exact absurd hz (by decide)
  ·
    have b0 := fv_lt rn 1 8 (by decide)
    have b1 := fv_lt rd 1 8 (by decide)
    rw [num19]; omega
  ·
    have b0 := fv_lt rn 1 8 (by decide)
    have b1 := fv_lt rd 1 8 (by decide)
    rw [num20]; omega
  ·
    have b0 := fv_lt rn 1 8 (by decide)
    have b1 := fv_lt rd 1 8 (by decide)
    rw [num21]; omega
  ·
    have b0 := fv_lt rn 1 8 (by decide)
    have b1 := fv_lt rd 1 8 (by decide)
    rw [num22]; omega
  ·
    have b0 := fv_lt rm 1 8 (by decide)
    have b1 := fv_lt rn 1 8 (by decide)
    rw [num23]; omega
  · cases wide
    ·
      have b0 := fv_lt (off imm) 2 2048 (by decide)
      rw [num24n]; omega
    · rw [size24w _ _ _ _ _ _ h] at hz; exact absurd hz (by decide)
  · cases wide
    ·
      have b0 := fv_lt cond 1 16 (by decide)
      have b1 := fv_lt (off imm) 2 256 (by decide)
      rw [num25n]; omega
    · rw [size25w _ _ _ _ _ _ h] at hz; exact absurd hz (by decide)
theorem opOf_inj (i k : Ins) (hi : check i = 0) (hk : check k = 0) (h : opOf i = opOf k) : i.op = k.op ∧ i.wide = k.wide := by
  have h1 := op_range hi
  have h2 := op_range hk
  unfold opOf at h
  cases hw : i.wide <;> cases hv : k.wide <;> simp [hw, hv] at h ⊢ <;> omega
theorem like22 (i k : Ins) (hi : check i = 0) (hk : check k = 0) (si : size i = 2) (sk : size k = 2) (h : num i = num k) : i = k := by
  have e1 := (op_told i hi).1 si
  have e2 := (op_told k hk).1 sk
  rw [h, e2] at e1
  obtain ⟨ho, hw⟩ := opOf_inj k i hk hi e1
  exact inj i k hi hk ho.symm hw.symm h
theorem like44 (i k : Ins) (hi : check i = 0) (hk : check k = 0) (si : size i = 4) (sk : size k = 4) (h : num i = num k) : i = k := by
  have e1 := (op_told i hi).2 si
  have e2 := (op_told k hk).2 sk
  rw [h, e2] at e1
  obtain ⟨ho, hw⟩ := opOf_inj k i hk hi e1
  exact inj i k hi hk ho.symm hw.symm h
def by0 (n : Nat) : UInt8 := UInt8.ofNat ((n : Int) % 256).toNat
def by1 (n : Nat) : UInt8 := UInt8.ofNat ((n : Int) / 256).toNat
def b40 (n : Nat) : UInt8 := UInt8.ofNat ((n : Int) / 65536 % 256).toNat
def b41 (n : Nat) : UInt8 := UInt8.ofNat ((n : Int) / 16777216).toNat
def b42 (n : Nat) : UInt8 := UInt8.ofNat ((n : Int) % 256).toNat
def b43 (n : Nat) : UInt8 := UInt8.ofNat ((n : Int) / 256 % 256).toNat
theorem str2_is (n : Nat) : str2 n = ⟨#[by0 n, by1 n]⟩ := rfl
theorem str4_is (n : Nat) : str4 n = ⟨#[b40 n, b41 n, b42 n, b43 n]⟩ := rfl
theorem u8_inj {a b : Nat} (ha : a < 256) (hb : b < 256) (h : UInt8.ofNat a = UInt8.ofNat b) : a = b := by
  have := congrArg UInt8.toNat h
  rw [UInt8.toNat_ofNat', UInt8.toNat_ofNat', Nat.mod_eq_of_lt ha, Nat.mod_eq_of_lt hb] at this
  exact this
theorem ne22 (i k : Ins) (hi : check i = 0) (hk : check k = 0) (si : size i = 2) (sk : size k = 2) (h : i ≠ k) : (by0 (num i) == by0 (num k) && by1 (num i) == by1 (num k)) = false := by
  rw [Bool.eq_false_iff]
  intro e
  rw [Bool.and_eq_true, beq_iff_eq, beq_iff_eq] at e
  have l1 := size2_lt i hi si
  have l2 := size2_lt k hk sk
  have e1 := u8_inj (by omega) (by omega) e.1
  have e2 := u8_inj (by omega) (by omega) e.2
  exact h (like22 i k hi hk si sk (by omega))
theorem num4_bd (i : Ins) (hi : check i = 0) (si : size i = 4) : 3892314112 ≤ num i ∧ num i < 4294967296 := by
  rcases size_num i hi with ⟨h, _⟩ | ⟨_, h⟩
  · rw [si] at h; exact absurd h (by decide)
  · exact h
theorem ne44 (i k : Ins) (hi : check i = 0) (hk : check k = 0) (si : size i = 4) (sk : size k = 4) (h : i ≠ k) :
    (b40 (num i) == b40 (num k) && (b41 (num i) == b41 (num k) && (b42 (num i) == b42 (num k) && b43 (num i) == b43 (num k)))) = false := by
  rw [Bool.eq_false_iff]
  intro e
  simp only [Bool.and_eq_true, beq_iff_eq] at e
  have l1 := num4_bd i hi si
  have l2 := num4_bd k hk sk
  obtain ⟨e1, e2, e3, e4⟩ := e
  have e1 := u8_inj (by omega) (by omega) e1
  have e2 := u8_inj (by omega) (by omega) e2
  have e3 := u8_inj (by omega) (by omega) e3
  have e4 := u8_inj (by omega) (by omega) e4
  exact h (like44 i k hi hk si sk (by omega))
theorem ne24 (i k : Ins) (hi : check i = 0) (hk : check k = 0) (si : size i = 2) (sk : size k = 4) : (by0 (num i) == b40 (num k) && by1 (num i) == b41 (num k)) = false := by
  rw [Bool.eq_false_iff]
  intro e
  rw [Bool.and_eq_true, beq_iff_eq, beq_iff_eq] at e
  have l1 := size2_lt i hi si
  have l2 := num4_bd k hk sk
  have e1 := u8_inj (by omega) (by omega) e.1
  have e2 := u8_inj (by omega) (by omega) e.2
  omega
theorem ne42 (i k : Ins) (hi : check i = 0) (hk : check k = 0) (si : size i = 4) (sk : size k = 2) : (b40 (num i) == by0 (num k) && b41 (num i) == by1 (num k)) = false := by
  rw [Bool.eq_false_iff]
  intro e
  rw [Bool.and_eq_true, beq_iff_eq, beq_iff_eq] at e
  have l1 := num4_bd i hi si
  have l2 := size2_lt k hk sk
  have e1 := u8_inj (by omega) (by omega) e.1
  have e2 := u8_inj (by omega) (by omega) e.2
  omega
theorem encS2 (i : Ins) (hi : check i = 0) (si : size i = 2) : encS i = ⟨#[by0 (num i), by1 (num i)]⟩ := by
  unfold encS; rw [if_pos hi, if_pos si]; rfl
theorem encS4 (i : Ins) (hi : check i = 0) (si : size i = 4) : encS i = ⟨#[b40 (num i), b41 (num i), b42 (num i), b43 (num i)]⟩ := by
  unfold encS; rw [if_pos hi, if_neg (by rw [si]; decide)]; rfl
end Go.Proofs.Ytennhpfhgbmnfaa.Th
