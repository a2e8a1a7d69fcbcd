/-
  Plain mathematics of OMovt, OBfi and OLdrb: what the program and the document make of bits is the same.
-/
import Derived.Test.YtennhpfhgbmnfaaCpuM
namespace Go.Proofs.Ytennhpfhgbmnfaa.Cs
open Go.RowKit

theorem and_mask (a : Int) (k : Nat) (p : Int) (hk : k ≤ 32) (hp : p = 2 ^ k - 1) : Wd.and a p = Wd.wrap a % 2 ^ k := by
  have hb := Wd.wrap_bd a
  unfold Wd.and
  have h2 : (2 : Nat) ^ k ≤ 2 ^ 32 := Nat.pow_le_pow_right (by decide) hk
  have h3 : 1 ≤ (2 : Nat) ^ k := Nat.two_pow_pos k
  have e : (Wd.wrap p).toNat = 2 ^ k - 1 := by
    subst hp
    rw [Wd.pow_cast]
    generalize (2 : Nat) ^ k = q at *
    unfold Wd.wrap; omega
  rw [e, Nat.and_two_pow_sub_one_eq_mod, Wd.pow_cast]
  obtain ⟨A, hA⟩ := Int.eq_ofNat_of_zero_le hb.1
  rw [hA]
  push_cast
  rfl
theorem ldrb (l : Int) : Wd.wrap (Wd.and l 255) = Wd.wrap l % 256 := by
  rw [and_mask l 8 255 (by decide) (by decide)]
  have hb := Wd.wrap_bd l
  have e : (2 : Int) ^ 8 = 256 := by decide
  rw [e]
  generalize Wd.wrap l = x at *
  unfold Wd.wrap; omega
theorem strb (v : Int) : Wd.and v 255 = Wd.wrap v % 256 := by
  rw [and_mask v 8 255 (by decide) (by decide)]
  have e : (2 : Int) ^ 8 = 256 := by decide
  rw [e]
theorem movt (d imm : Int) (d0 : 0 ≤ d) (d1 : d < 4294967296) (i0 : 0 ≤ imm) (i1 : imm ≤ 65535) : Wd.or (Wd.shl imm 16) (Wd.and d 65535) = d % 65536 + 65536 * imm := by
  rw [and_mask d 16 65535 (by decide) (by decide)]
  have e16 : (2 : Int) ^ 16 = 65536 := by decide
  have es : Wd.shl imm 16 = 65536 * imm := by
    unfold Wd.shl
    have : Wd.cnt 16 = 16 := by decide
    rw [this, e16]
    unfold Wd.wrap; omega
  have ew : Wd.wrap d = d := by unfold Wd.wrap; omega
  rw [es, ew, e16]
  unfold Wd.or
  obtain ⟨D, rfl⟩ := Int.eq_ofNat_of_zero_le d0
  obtain ⟨I, rfl⟩ := Int.eq_ofNat_of_zero_le i0
  have h1 : (Wd.wrap (65536 * (I : Int))).toNat = 2 ^ 16 * I := by unfold Wd.wrap; omega
  have h2 : (Wd.wrap ((D : Int) % 65536)).toNat = D % 65536 := by unfold Wd.wrap; omega
  rw [h1, h2, ← Nat.two_pow_add_eq_or_of_lt (show D % 65536 < 2 ^ 16 by omega)]
  omega
/-- some bits of n from a place on: the document's way -/
def bf (d n at_ : Int) : Nat → Int
  | 0 => d
  | k + 1 => if Wd.bit (bf d n at_ k) (at_ + k) != Wd.bit n k then Wd.flip (bf d n at_ k) (at_ + k) else bf d n at_ k
theorem isWord_flip (x i : Int) : Wd.IsWord (Wd.flip x i) (fun k => (Wd.wrap x).toNat.testBit k ^^ decide (Wd.cnt i = k)) := by
  have h := Wd.isWord_xor x (2 ^ Wd.cnt i)
  obtain ⟨N, h1, h2, h3⟩ := h
  refine ⟨N, h1, h2, fun k hk => ?_⟩
  show _ = ((Wd.wrap x).toNat.testBit k ^^ decide (Wd.cnt i = k))
  rw [← Wd.flip_tb x i k]
  have : Wd.flip x i = (N : Int) := h1
  rw [this, Wd.wrap_nat N h2]
theorem IsWord_congr {V : Int} {f g : Nat → Bool} (h : Wd.IsWord V f) (e : ∀ k, k < 32 → f k = g k) : Wd.IsWord V g := by
  obtain ⟨N, h1, h2, h3⟩ := h
  exact ⟨N, h1, h2, fun k hk => (h3 k hk).trans (e k hk)⟩
theorem bf_is (d n : Int) (a : Nat) (d0 : 0 ≤ d) (d1 : d < 4294967296) : ∀ k, a + k ≤ 32 →
    Wd.IsWord (bf d n (a : Int) k) (fun j => if a ≤ j ∧ j < a + k then (Wd.wrap n).toNat.testBit (j - a) else (Wd.wrap d).toNat.testBit j)
  | 0, _ => by
    have ew : Wd.wrap d = d := by unfold Wd.wrap; omega
    have h := Wd.isWord_wrap d
    rw [ew] at h
    refine IsWord_congr h fun j _ => ?_
    have : ¬ (a ≤ j ∧ j < a + 0) := by omega
    rw [if_neg this, ew]
  | k + 1, hk => by
    have ih := bf_is d n a d0 d1 k (by omega)
    have hc : Wd.cnt ((a : Int) + (k : Int)) = a + k := by unfold Wd.cnt; omega
    have hc2 : Wd.cnt (k : Int) = k := by unfold Wd.cnt; omega
    show Wd.IsWord (if Wd.bit (bf d n a k) (a + k) != Wd.bit n k then Wd.flip (bf d n a k) (a + k) else bf d n a k) _
    have b1 := Wd.bit_is (bf d n a k) ((a : Int) + (k : Int))
    have b2 := Wd.bit_is n (k : Int)
    rw [hc, ih.tb (a + k) (by omega)] at b1
    rw [hc2] at b2
    have hn : ¬ (a ≤ a + k ∧ a + k < a + k) := by omega
    rw [if_neg hn] at b1
    rw [b1, b2]
    by_cases hx : (Wd.wrap d).toNat.testBit (a + k) = (Wd.wrap n).toNat.testBit k
    · rw [hx, bne_self_eq_false, if_neg (by decide)]
      refine IsWord_congr ih fun j hj => ?_
      by_cases hj1 : a ≤ j ∧ j < a + k
      · rw [if_pos hj1, if_pos (by omega)]
      · rw [if_neg hj1]
        by_cases hj2 : j = a + k
        · subst hj2; rw [if_pos (by omega), hx]; congr 1; omega
        · rw [if_neg (by omega)]
    · have hb : ((((Wd.wrap d).toNat.testBit (a + k)).toNat : Int) != (((Wd.wrap n).toNat.testBit k).toNat : Int)) = true := by
        revert hx; cases (Wd.wrap d).toNat.testBit (a + k) <;> cases (Wd.wrap n).toNat.testBit k <;> simp
      rw [if_pos hb]
      refine IsWord_congr (isWord_flip _ _) fun j hj => ?_
      rw [hc, ih.tb j hj]
      by_cases hj1 : a ≤ j ∧ j < a + k
      · rw [if_pos hj1, if_pos (by omega), decide_eq_false (by omega), Bool.xor_false]
      · rw [if_neg hj1]
        by_cases hj2 : j = a + k
        · subst hj2
          rw [if_pos (by omega), decide_eq_true rfl, show a + k - a = k by omega]
          revert hx; cases (Wd.wrap d).toNat.testBit (a + k) <;> cases (Wd.wrap n).toNat.testBit k <;> simp
        · rw [if_neg (by omega), decide_eq_false (by omega), Bool.xor_false]
theorem shl_tb (x : Int) (a j : Nat) (ha : a < 32) (hj : j < 32) : (Wd.wrap (Wd.shl x (a : Int))).toNat.testBit j = (decide (a ≤ j) && (Wd.wrap x).toNat.testBit (j - a)) := by
  have hb := Wd.wrap_bd x
  have hc : Wd.cnt (a : Int) = a := by unfold Wd.cnt; omega
  unfold Wd.shl
  rw [hc]
  obtain ⟨A, hA⟩ := Int.eq_ofNat_of_zero_le hb.1
  rw [hA, Wd.pow_cast]
  have e : (Wd.wrap (((A : Int) * ((2 ^ a : Nat) : Int)) % 4294967296)).toNat = A * 2 ^ a % 2 ^ 32 := by
    rw [← Int.natCast_mul]; generalize A * 2 ^ a = q; unfold Wd.wrap; omega
  rw [e, Nat.testBit_mod_two_pow, Nat.testBit_mul_two_pow]
  simp [hj]
theorem bfi (d n : Int) (a k : Nat) (d0 : 0 ≤ d) (d1 : d < 4294967296) (h : a + k ≤ 32) (hk : 1 ≤ k) : Wd.select (Wd.shl (2 ^ k - 1) (a : Int)) (Wd.shl n (a : Int)) d = bf d n (a : Int) k := by
  refine (Wd.isWord_select _ _ _).ext (bf_is d n a d0 d1 k h) fun j hj => ?_
  rw [shl_tb _ a j (by omega) hj, shl_tb n a j (by omega) hj]
  have hm : (Wd.wrap (2 ^ k - 1 : Int)).toNat = 2 ^ k - 1 := by
    have h2 : (2 : Nat) ^ k ≤ 2 ^ 32 := Nat.pow_le_pow_right (by decide) (by omega)
    have h3 : 1 ≤ (2 : Nat) ^ k := Nat.two_pow_pos k
    rw [Wd.pow_cast]
    generalize (2 : Nat) ^ k = q at *
    unfold Wd.wrap; omega
  rw [hm, Nat.testBit_two_pow_sub_one]
  by_cases h1 : a ≤ j
  · by_cases h2 : j < a + k
    · simp [h1, h2, show j - a < k by omega]
    · simp [h1, h2, show ¬ j - a < k by omega]
  · simp [h1]
end Go.Proofs.Ytennhpfhgbmnfaa.Cs
