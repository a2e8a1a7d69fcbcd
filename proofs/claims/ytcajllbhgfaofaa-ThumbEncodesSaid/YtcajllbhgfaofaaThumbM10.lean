/-
  The document's own way of making an instruction's bits, letter by letter, makes the same number. It names nothing of the translated program.
-/
import Derived.Test.YtcajllbhgfaofaaThumbM9
namespace Go.Proofs.Ytcajllbhgfaofaa.Th
open Go.RowKit
set_option linter.unusedVariables false

def rbit (x : Int) (n : Nat) : Nat := x.toNat / 2 ^ n % 2
def rfield (i : Ins) (c : UInt8) (f : Nat) : Nat :=
  if c == 48 then 0 else if c == 49 then 1 else if c == 100 then rbit i.rd f else if c == 110 then rbit i.rn f else if c == 109 then rbit i.rm f
  else if c == 97 then rbit i.ra f else if c == 99 then rbit i.cond f else if c == 119 then rbit (i.imm + i.ra - 1) f
  else if c == 120 then 1 - (rbit (off i.imm) 23 + rbit (off i.imm) 24) % 2 else if c == 121 then 1 - (rbit (off i.imm) 22 + rbit (off i.imm) 24) % 2
  else rbit (off i.imm) (c.toNat - 65)
def rrun (c : UInt8) : List UInt8 → Nat
  | [] => 0
  | x :: t => if x == c then rrun c t + 1 else 0
def rhalf (i : Ins) : Nat → List UInt8 → Nat
  | n, [] => n
  | n, c :: t => rhalf i (2 * n + rfield i c (rrun c t)) t
/-- k bits of x, from bit lo + k - 1 down to bit lo, behind A -/
def bd (x : Int) : Nat → Nat → Nat → Nat
  | _, 0, A => A
  | lo, k + 1, A => 2 * bd x (lo + 1) k A + x.toNat / 2 ^ lo % 2
theorem bd_eq (x : Int) : ∀ k lo A, bd x lo k A = A * 2 ^ k + x.toNat / 2 ^ lo % 2 ^ k := by
  intro k
  induction k with
  | zero => intro lo A; simp [bd, Nat.mod_one]
  | succ k ih =>
    intro lo A
    have e : x.toNat / 2 ^ (lo + 1) = x.toNat / 2 ^ lo / 2 := by rw [Nat.pow_succ, Nat.div_div_eq_div_mul]
    have e2 := Nat.mod_mul (x := x.toNat / 2 ^ lo) (a := 2) (b := 2 ^ k)
    rw [bd, ih, e, Nat.pow_succ, Nat.mul_comm (2 ^ k) 2, e2, Nat.mul_add, ← Nat.mul_assoc, ← Nat.mul_assoc, Nat.mul_comm 2 A]
    omega
theorem bdl (x : Int) (lo k A r q : Nat) (hr : 2 ^ lo = r) (hq : 2 ^ k = q) : bd x lo k A = A * q + fv x r q := by
  subst hr; subst hq; exact bd_eq x k lo A
theorem off_pos (imm : Int) (h : 0 ≤ imm) : off imm = imm := by unfold off; rw [if_neg (by omega)]
theorem half1 (rd rn rm ra imm cond : Int) (hi : 0 ≤ imm) : rhalf ⟨1, rd, rn, rm, ra, imm, cond, false⟩ 0 [49, 48, 49, 49, 49, 49, 49, 49, 48, 48, 48, 48, 48, 48, 48, 48] = num ⟨1, rd, rn, rm, ra, imm, cond, false⟩ := by
  have g0 : rhalf ⟨1, rd, rn, rm, ra, imm, cond, false⟩ 0 [49, 48, 49, 49, 49, 49, 49, 49, 48, 48, 48, 48, 48, 48, 48, 48] = num ⟨1, rd, rn, rm, ra, imm, cond, false⟩ := by
    show (2 * (2 * (2 * (2 * (2 * (2 * (2 * (2 * (2 * (2 * (2 * (2 * (2 * (2 * (2 * (2 * 0 + 1) + 0) + 1) + 1) + 1) + 1) + 1) + 1) + 0) + 0) + 0) + 0) + 0) + 0) + 0) + 0) = _
    rw [num1]
  exact g0
theorem half2 (rd rn rm ra imm cond : Int) (hi : 0 ≤ imm) : rhalf ⟨2, rd, rn, rm, ra, imm, cond, false⟩ 0 [49, 48, 49, 49, 49, 49, 49, 48, 72, 71, 70, 69, 68, 67, 66, 65] = num ⟨2, rd, rn, rm, ra, imm, cond, false⟩ := by
  have b0 := fv_lt imm 1 256 (by decide)
  have g0 : rhalf ⟨2, rd, rn, rm, ra, imm, cond, false⟩ 0 [49, 48, 49, 49, 49, 49, 49, 48, 72, 71, 70, 69, 68, 67, 66, 65] = num ⟨2, rd, rn, rm, ra, imm, cond, false⟩ := by
    show (bd (off imm) 0 8 (2 * (2 * (2 * (2 * (2 * (2 * (2 * (2 * 0 + 1) + 0) + 1) + 1) + 1) + 1) + 1) + 0)) = _
    rw [bdl (off imm) 0 8 _ 1 256 (by decide) (by decide)]
    rw [off_pos imm (by omega)]
    rw [num2]
    omega
  exact g0
theorem half3 (rd rn rm ra imm cond : Int) (hi : 0 ≤ imm) : rhalf ⟨3, rd, rn, rm, ra, imm, cond, false⟩ 0 [49, 49, 49, 49, 48, 76, 49, 48, 48, 49, 48, 48, 80, 79, 78, 77] = num ⟨3, rd, rn, rm, ra, imm, cond, false⟩ / 65536 ∧ rhalf ⟨3, rd, rn, rm, ra, imm, cond, false⟩ 0 [48, 75, 74, 73, 100, 100, 100, 100, 72, 71, 70, 69, 68, 67, 66, 65] = num ⟨3, rd, rn, rm, ra, imm, cond, false⟩ % 65536 := by
  have b0 := fv_lt imm 2048 2 (by decide)
  have b1 := fv_lt imm 4096 16 (by decide)
  have b2 := fv_lt imm 256 8 (by decide)
  have b3 := fv_lt rd 1 16 (by decide)
  have b4 := fv_lt imm 1 256 (by decide)
  have g0 : rhalf ⟨3, rd, rn, rm, ra, imm, cond, false⟩ 0 [49, 49, 49, 49, 48, 76, 49, 48, 48, 49, 48, 48, 80, 79, 78, 77] = num ⟨3, rd, rn, rm, ra, imm, cond, false⟩ / 65536 := by
    show (bd (off imm) 12 4 (2 * (2 * (2 * (2 * (2 * (2 * (bd (off imm) 11 1 (2 * (2 * (2 * (2 * (2 * 0 + 1) + 1) + 1) + 1) + 0)) + 1) + 0) + 0) + 1) + 0) + 0)) = _
    rw [bdl (off imm) 12 4 _ 4096 16 (by decide) (by decide)]
    rw [bdl (off imm) 11 1 _ 2048 2 (by decide) (by decide)]
    rw [off_pos imm (by omega)]
    rw [num3]
    omega
  have g1 : rhalf ⟨3, rd, rn, rm, ra, imm, cond, false⟩ 0 [48, 75, 74, 73, 100, 100, 100, 100, 72, 71, 70, 69, 68, 67, 66, 65] = num ⟨3, rd, rn, rm, ra, imm, cond, false⟩ % 65536 := by
    show (bd (off imm) 0 8 (bd rd 0 4 (bd (off imm) 8 3 (2 * 0 + 0)))) = _
    rw [bdl (off imm) 0 8 _ 1 256 (by decide) (by decide)]
    rw [bdl rd 0 4 _ 1 16 (by decide) (by decide)]
    rw [bdl (off imm) 8 3 _ 256 8 (by decide) (by decide)]
    rw [off_pos imm (by omega)]
    rw [num3]
    omega
  exact ⟨g0, g1⟩
theorem half4 (rd rn rm ra imm cond : Int) (hi : 0 ≤ imm) : rhalf ⟨4, rd, rn, rm, ra, imm, cond, false⟩ 0 [49, 49, 49, 49, 48, 76, 49, 48, 49, 49, 48, 48, 80, 79, 78, 77] = num ⟨4, rd, rn, rm, ra, imm, cond, false⟩ / 65536 ∧ rhalf ⟨4, rd, rn, rm, ra, imm, cond, false⟩ 0 [48, 75, 74, 73, 100, 100, 100, 100, 72, 71, 70, 69, 68, 67, 66, 65] = num ⟨4, rd, rn, rm, ra, imm, cond, false⟩ % 65536 := by
  have b0 := fv_lt imm 2048 2 (by decide)
  have b1 := fv_lt imm 4096 16 (by decide)
  have b2 := fv_lt imm 256 8 (by decide)
  have b3 := fv_lt rd 1 16 (by decide)
  have b4 := fv_lt imm 1 256 (by decide)
  have g0 : rhalf ⟨4, rd, rn, rm, ra, imm, cond, false⟩ 0 [49, 49, 49, 49, 48, 76, 49, 48, 49, 49, 48, 48, 80, 79, 78, 77] = num ⟨4, rd, rn, rm, ra, imm, cond, false⟩ / 65536 := by
    show (bd (off imm) 12 4 (2 * (2 * (2 * (2 * (2 * (2 * (bd (off imm) 11 1 (2 * (2 * (2 * (2 * (2 * 0 + 1) + 1) + 1) + 1) + 0)) + 1) + 0) + 1) + 1) + 0) + 0)) = _
    rw [bdl (off imm) 12 4 _ 4096 16 (by decide) (by decide)]
    rw [bdl (off imm) 11 1 _ 2048 2 (by decide) (by decide)]
    rw [off_pos imm (by omega)]
    rw [num4]
    omega
  have g1 : rhalf ⟨4, rd, rn, rm, ra, imm, cond, false⟩ 0 [48, 75, 74, 73, 100, 100, 100, 100, 72, 71, 70, 69, 68, 67, 66, 65] = num ⟨4, rd, rn, rm, ra, imm, cond, false⟩ % 65536 := by
    show (bd (off imm) 0 8 (bd rd 0 4 (bd (off imm) 8 3 (2 * 0 + 0)))) = _
    rw [bdl (off imm) 0 8 _ 1 256 (by decide) (by decide)]
    rw [bdl rd 0 4 _ 1 16 (by decide) (by decide)]
    rw [bdl (off imm) 8 3 _ 256 8 (by decide) (by decide)]
    rw [off_pos imm (by omega)]
    rw [num4]
    omega
  exact ⟨g0, g1⟩
theorem half5 (rd rn rm ra imm cond : Int) (hi : 0 ≤ imm) : rhalf ⟨5, rd, rn, rm, ra, imm, cond, false⟩ 0 [49, 49, 49, 48, 49, 48, 49, 48, 48, 49, 48, 48, 49, 49, 49, 49] = num ⟨5, rd, rn, rm, ra, imm, cond, false⟩ / 65536 ∧ rhalf ⟨5, rd, rn, rm, ra, imm, cond, false⟩ 0 [48, 69, 68, 67, 100, 100, 100, 100, 66, 65, 48, 48, 109, 109, 109, 109] = num ⟨5, rd, rn, rm, ra, imm, cond, false⟩ % 65536 := by
  have b0 := fv_lt imm 4 8 (by decide)
  have b1 := fv_lt rd 1 16 (by decide)
  have b2 := fv_lt imm 1 4 (by decide)
  have b3 := fv_lt rm 1 16 (by decide)
  have g0 : rhalf ⟨5, rd, rn, rm, ra, imm, cond, false⟩ 0 [49, 49, 49, 48, 49, 48, 49, 48, 48, 49, 48, 48, 49, 49, 49, 49] = num ⟨5, rd, rn, rm, ra, imm, cond, false⟩ / 65536 := by
    show (2 * (2 * (2 * (2 * (2 * (2 * (2 * (2 * (2 * (2 * (2 * (2 * (2 * (2 * (2 * (2 * 0 + 1) + 1) + 1) + 0) + 1) + 0) + 1) + 0) + 0) + 1) + 0) + 0) + 1) + 1) + 1) + 1) = _
    rw [num5]
    omega
  have g1 : rhalf ⟨5, rd, rn, rm, ra, imm, cond, false⟩ 0 [48, 69, 68, 67, 100, 100, 100, 100, 66, 65, 48, 48, 109, 109, 109, 109] = num ⟨5, rd, rn, rm, ra, imm, cond, false⟩ % 65536 := by
    show (bd rm 0 4 (2 * (2 * (bd (off imm) 0 2 (bd rd 0 4 (bd (off imm) 2 3 (2 * 0 + 0)))) + 0) + 0)) = _
    rw [bdl rm 0 4 _ 1 16 (by decide) (by decide)]
    rw [bdl (off imm) 0 2 _ 1 4 (by decide) (by decide)]
    rw [bdl rd 0 4 _ 1 16 (by decide) (by decide)]
    rw [bdl (off imm) 2 3 _ 4 8 (by decide) (by decide)]
    rw [off_pos imm (by omega)]
    rw [num5]
    omega
  exact ⟨g0, g1⟩
theorem half6 (rd rn rm ra imm cond : Int) (hi : 0 ≤ imm) : rhalf ⟨6, rd, rn, rm, ra, imm, cond, false⟩ 0 [49, 49, 49, 48, 49, 48, 49, 48, 48, 49, 48, 48, 49, 49, 49, 49] = num ⟨6, rd, rn, rm, ra, imm, cond, false⟩ / 65536 ∧ rhalf ⟨6, rd, rn, rm, ra, imm, cond, false⟩ 0 [48, 69, 68, 67, 100, 100, 100, 100, 66, 65, 48, 49, 109, 109, 109, 109] = num ⟨6, rd, rn, rm, ra, imm, cond, false⟩ % 65536 := by
  have b0 := fv_lt imm 4 8 (by decide)
  have b1 := fv_lt rd 1 16 (by decide)
  have b2 := fv_lt imm 1 4 (by decide)
  have b3 := fv_lt rm 1 16 (by decide)
  have g0 : rhalf ⟨6, rd, rn, rm, ra, imm, cond, false⟩ 0 [49, 49, 49, 48, 49, 48, 49, 48, 48, 49, 48, 48, 49, 49, 49, 49] = num ⟨6, rd, rn, rm, ra, imm, cond, false⟩ / 65536 := by
    show (2 * (2 * (2 * (2 * (2 * (2 * (2 * (2 * (2 * (2 * (2 * (2 * (2 * (2 * (2 * (2 * 0 + 1) + 1) + 1) + 0) + 1) + 0) + 1) + 0) + 0) + 1) + 0) + 0) + 1) + 1) + 1) + 1) = _
    rw [num6]
    omega
  have g1 : rhalf ⟨6, rd, rn, rm, ra, imm, cond, false⟩ 0 [48, 69, 68, 67, 100, 100, 100, 100, 66, 65, 48, 49, 109, 109, 109, 109] = num ⟨6, rd, rn, rm, ra, imm, cond, false⟩ % 65536 := by
    show (bd rm 0 4 (2 * (2 * (bd (off imm) 0 2 (bd rd 0 4 (bd (off imm) 2 3 (2 * 0 + 0)))) + 0) + 1)) = _
    rw [bdl rm 0 4 _ 1 16 (by decide) (by decide)]
    rw [bdl (off imm) 0 2 _ 1 4 (by decide) (by decide)]
    rw [bdl rd 0 4 _ 1 16 (by decide) (by decide)]
    rw [bdl (off imm) 2 3 _ 4 8 (by decide) (by decide)]
    rw [off_pos imm (by omega)]
    rw [num6]
    omega
  exact ⟨g0, g1⟩
theorem half7 (rd rn rm ra imm cond : Int) (hi : 0 ≤ imm) : rhalf ⟨7, rd, rn, rm, ra, imm, cond, false⟩ 0 [49, 49, 49, 48, 49, 48, 49, 48, 48, 49, 48, 48, 49, 49, 49, 49] = num ⟨7, rd, rn, rm, ra, imm, cond, false⟩ / 65536 ∧ rhalf ⟨7, rd, rn, rm, ra, imm, cond, false⟩ 0 [48, 69, 68, 67, 100, 100, 100, 100, 66, 65, 49, 48, 109, 109, 109, 109] = num ⟨7, rd, rn, rm, ra, imm, cond, false⟩ % 65536 := by
  have b0 := fv_lt imm 4 8 (by decide)
  have b1 := fv_lt rd 1 16 (by decide)
  have b2 := fv_lt imm 1 4 (by decide)
  have b3 := fv_lt rm 1 16 (by decide)
  have g0 : rhalf ⟨7, rd, rn, rm, ra, imm, cond, false⟩ 0 [49, 49, 49, 48, 49, 48, 49, 48, 48, 49, 48, 48, 49, 49, 49, 49] = num ⟨7, rd, rn, rm, ra, imm, cond, false⟩ / 65536 := by
    show (2 * (2 * (2 * (2 * (2 * (2 * (2 * (2 * (2 * (2 * (2 * (2 * (2 * (2 * (2 * (2 * 0 + 1) + 1) + 1) + 0) + 1) + 0) + 1) + 0) + 0) + 1) + 0) + 0) + 1) + 1) + 1) + 1) = _
    rw [num7]
    omega
  have g1 : rhalf ⟨7, rd, rn, rm, ra, imm, cond, false⟩ 0 [48, 69, 68, 67, 100, 100, 100, 100, 66, 65, 49, 48, 109, 109, 109, 109] = num ⟨7, rd, rn, rm, ra, imm, cond, false⟩ % 65536 := by
    show (bd rm 0 4 (2 * (2 * (bd (off imm) 0 2 (bd rd 0 4 (bd (off imm) 2 3 (2 * 0 + 0)))) + 1) + 0)) = _
    rw [bdl rm 0 4 _ 1 16 (by decide) (by decide)]
    rw [bdl (off imm) 0 2 _ 1 4 (by decide) (by decide)]
    rw [bdl rd 0 4 _ 1 16 (by decide) (by decide)]
    rw [bdl (off imm) 2 3 _ 4 8 (by decide) (by decide)]
    rw [off_pos imm (by omega)]
    rw [num7]
    omega
  exact ⟨g0, g1⟩
theorem half8 (rd rn rm ra imm cond : Int) (hi : 0 ≤ imm) : rhalf ⟨8, rd, rn, rm, ra, imm, cond, false⟩ 0 [49, 49, 49, 48, 49, 48, 49, 48, 48, 49, 48, 48, 49, 49, 49, 49] = num ⟨8, rd, rn, rm, ra, imm, cond, false⟩ / 65536 ∧ rhalf ⟨8, rd, rn, rm, ra, imm, cond, false⟩ 0 [48, 69, 68, 67, 100, 100, 100, 100, 66, 65, 49, 49, 109, 109, 109, 109] = num ⟨8, rd, rn, rm, ra, imm, cond, false⟩ % 65536 := by
  have b0 := fv_lt imm 4 8 (by decide)
  have b1 := fv_lt rd 1 16 (by decide)
  have b2 := fv_lt imm 1 4 (by decide)
  have b3 := fv_lt rm 1 16 (by decide)
  have g0 : rhalf ⟨8, rd, rn, rm, ra, imm, cond, false⟩ 0 [49, 49, 49, 48, 49, 48, 49, 48, 48, 49, 48, 48, 49, 49, 49, 49] = num ⟨8, rd, rn, rm, ra, imm, cond, false⟩ / 65536 := by
    show (2 * (2 * (2 * (2 * (2 * (2 * (2 * (2 * (2 * (2 * (2 * (2 * (2 * (2 * (2 * (2 * 0 + 1) + 1) + 1) + 0) + 1) + 0) + 1) + 0) + 0) + 1) + 0) + 0) + 1) + 1) + 1) + 1) = _
    rw [num8]
    omega
  have g1 : rhalf ⟨8, rd, rn, rm, ra, imm, cond, false⟩ 0 [48, 69, 68, 67, 100, 100, 100, 100, 66, 65, 49, 49, 109, 109, 109, 109] = num ⟨8, rd, rn, rm, ra, imm, cond, false⟩ % 65536 := by
    show (bd rm 0 4 (2 * (2 * (bd (off imm) 0 2 (bd rd 0 4 (bd (off imm) 2 3 (2 * 0 + 0)))) + 1) + 1)) = _
    rw [bdl rm 0 4 _ 1 16 (by decide) (by decide)]
    rw [bdl (off imm) 0 2 _ 1 4 (by decide) (by decide)]
    rw [bdl rd 0 4 _ 1 16 (by decide) (by decide)]
    rw [bdl (off imm) 2 3 _ 4 8 (by decide) (by decide)]
    rw [off_pos imm (by omega)]
    rw [num8]
    omega
  exact ⟨g0, g1⟩
theorem half9 (rd rn rm ra imm cond : Int) (hi : 0 ≤ imm) : rhalf ⟨9, rd, rn, rm, ra, imm, cond, false⟩ 0 [49, 49, 49, 48, 49, 48, 49, 48, 48, 49, 49, 48, 49, 49, 49, 49] = num ⟨9, rd, rn, rm, ra, imm, cond, false⟩ / 65536 ∧ rhalf ⟨9, rd, rn, rm, ra, imm, cond, false⟩ 0 [48, 48, 48, 48, 100, 100, 100, 100, 48, 48, 48, 48, 109, 109, 109, 109] = num ⟨9, rd, rn, rm, ra, imm, cond, false⟩ % 65536 := by
  have b0 := fv_lt rd 1 16 (by decide)
  have b1 := fv_lt rm 1 16 (by decide)
  have g0 : rhalf ⟨9, rd, rn, rm, ra, imm, cond, false⟩ 0 [49, 49, 49, 48, 49, 48, 49, 48, 48, 49, 49, 48, 49, 49, 49, 49] = num ⟨9, rd, rn, rm, ra, imm, cond, false⟩ / 65536 := by
    show (2 * (2 * (2 * (2 * (2 * (2 * (2 * (2 * (2 * (2 * (2 * (2 * (2 * (2 * (2 * (2 * 0 + 1) + 1) + 1) + 0) + 1) + 0) + 1) + 0) + 0) + 1) + 1) + 0) + 1) + 1) + 1) + 1) = _
    rw [num9]
    omega
  have g1 : rhalf ⟨9, rd, rn, rm, ra, imm, cond, false⟩ 0 [48, 48, 48, 48, 100, 100, 100, 100, 48, 48, 48, 48, 109, 109, 109, 109] = num ⟨9, rd, rn, rm, ra, imm, cond, false⟩ % 65536 := by
    show (bd rm 0 4 (2 * (2 * (2 * (2 * (bd rd 0 4 (2 * (2 * (2 * (2 * 0 + 0) + 0) + 0) + 0)) + 0) + 0) + 0) + 0)) = _
    rw [bdl rm 0 4 _ 1 16 (by decide) (by decide)]
    rw [bdl rd 0 4 _ 1 16 (by decide) (by decide)]
    rw [num9]
    omega
  exact ⟨g0, g1⟩
theorem half10 (rd rn rm ra imm cond : Int) (hi : 0 ≤ imm) : rhalf ⟨10, rd, rn, rm, ra, imm, cond, false⟩ 0 [49, 49, 49, 48, 49, 48, 49, 48, 48, 48, 48, 48, 110, 110, 110, 110] = num ⟨10, rd, rn, rm, ra, imm, cond, false⟩ / 65536 ∧ rhalf ⟨10, rd, rn, rm, ra, imm, cond, false⟩ 0 [48, 48, 48, 48, 100, 100, 100, 100, 48, 48, 48, 48, 109, 109, 109, 109] = num ⟨10, rd, rn, rm, ra, imm, cond, false⟩ % 65536 := by
  have b0 := fv_lt rn 1 16 (by decide)
  have b1 := fv_lt rd 1 16 (by decide)
  have b2 := fv_lt rm 1 16 (by decide)
  have g0 : rhalf ⟨10, rd, rn, rm, ra, imm, cond, false⟩ 0 [49, 49, 49, 48, 49, 48, 49, 48, 48, 48, 48, 48, 110, 110, 110, 110] = num ⟨10, rd, rn, rm, ra, imm, cond, false⟩ / 65536 := by
    show (bd rn 0 4 (2 * (2 * (2 * (2 * (2 * (2 * (2 * (2 * (2 * (2 * (2 * (2 * 0 + 1) + 1) + 1) + 0) + 1) + 0) + 1) + 0) + 0) + 0) + 0) + 0)) = _
    rw [bdl rn 0 4 _ 1 16 (by decide) (by decide)]
    rw [num10]
    omega
  have g1 : rhalf ⟨10, rd, rn, rm, ra, imm, cond, false⟩ 0 [48, 48, 48, 48, 100, 100, 100, 100, 48, 48, 48, 48, 109, 109, 109, 109] = num ⟨10, rd, rn, rm, ra, imm, cond, false⟩ % 65536 := by
    show (bd rm 0 4 (2 * (2 * (2 * (2 * (bd rd 0 4 (2 * (2 * (2 * (2 * 0 + 0) + 0) + 0) + 0)) + 0) + 0) + 0) + 0)) = _
    rw [bdl rm 0 4 _ 1 16 (by decide) (by decide)]
    rw [bdl rd 0 4 _ 1 16 (by decide) (by decide)]
    rw [num10]
    omega
  exact ⟨g0, g1⟩
theorem half11 (rd rn rm ra imm cond : Int) (hi : 0 ≤ imm) : rhalf ⟨11, rd, rn, rm, ra, imm, cond, false⟩ 0 [49, 49, 49, 48, 49, 48, 49, 48, 48, 48, 49, 48, 110, 110, 110, 110] = num ⟨11, rd, rn, rm, ra, imm, cond, false⟩ / 65536 ∧ rhalf ⟨11, rd, rn, rm, ra, imm, cond, false⟩ 0 [48, 48, 48, 48, 100, 100, 100, 100, 48, 48, 48, 48, 109, 109, 109, 109] = num ⟨11, rd, rn, rm, ra, imm, cond, false⟩ % 65536 := by
  have b0 := fv_lt rn 1 16 (by decide)
  have b1 := fv_lt rd 1 16 (by decide)
  have b2 := fv_lt rm 1 16 (by decide)
  have g0 : rhalf ⟨11, rd, rn, rm, ra, imm, cond, false⟩ 0 [49, 49, 49, 48, 49, 48, 49, 48, 48, 48, 49, 48, 110, 110, 110, 110] = num ⟨11, rd, rn, rm, ra, imm, cond, false⟩ / 65536 := by
    show (bd rn 0 4 (2 * (2 * (2 * (2 * (2 * (2 * (2 * (2 * (2 * (2 * (2 * (2 * 0 + 1) + 1) + 1) + 0) + 1) + 0) + 1) + 0) + 0) + 0) + 1) + 0)) = _
    rw [bdl rn 0 4 _ 1 16 (by decide) (by decide)]
    rw [num11]
    omega
  have g1 : rhalf ⟨11, rd, rn, rm, ra, imm, cond, false⟩ 0 [48, 48, 48, 48, 100, 100, 100, 100, 48, 48, 48, 48, 109, 109, 109, 109] = num ⟨11, rd, rn, rm, ra, imm, cond, false⟩ % 65536 := by
    show (bd rm 0 4 (2 * (2 * (2 * (2 * (bd rd 0 4 (2 * (2 * (2 * (2 * 0 + 0) + 0) + 0) + 0)) + 0) + 0) + 0) + 0)) = _
    rw [bdl rm 0 4 _ 1 16 (by decide) (by decide)]
    rw [bdl rd 0 4 _ 1 16 (by decide) (by decide)]
    rw [num11]
    omega
  exact ⟨g0, g1⟩
theorem half12 (rd rn rm ra imm cond : Int) (hi : 0 ≤ imm) : rhalf ⟨12, rd, rn, rm, ra, imm, cond, false⟩ 0 [49, 49, 49, 48, 49, 48, 49, 48, 48, 49, 48, 48, 110, 110, 110, 110] = num ⟨12, rd, rn, rm, ra, imm, cond, false⟩ / 65536 ∧ rhalf ⟨12, rd, rn, rm, ra, imm, cond, false⟩ 0 [48, 48, 48, 48, 100, 100, 100, 100, 48, 48, 48, 48, 109, 109, 109, 109] = num ⟨12, rd, rn, rm, ra, imm, cond, false⟩ % 65536 := by
  have b0 := fv_lt rn 1 16 (by decide)
  have b1 := fv_lt rd 1 16 (by decide)
  have b2 := fv_lt rm 1 16 (by decide)
  have g0 : rhalf ⟨12, rd, rn, rm, ra, imm, cond, false⟩ 0 [49, 49, 49, 48, 49, 48, 49, 48, 48, 49, 48, 48, 110, 110, 110, 110] = num ⟨12, rd, rn, rm, ra, imm, cond, false⟩ / 65536 := by
    show (bd rn 0 4 (2 * (2 * (2 * (2 * (2 * (2 * (2 * (2 * (2 * (2 * (2 * (2 * 0 + 1) + 1) + 1) + 0) + 1) + 0) + 1) + 0) + 0) + 1) + 0) + 0)) = _
    rw [bdl rn 0 4 _ 1 16 (by decide) (by decide)]
    rw [num12]
    omega
  have g1 : rhalf ⟨12, rd, rn, rm, ra, imm, cond, false⟩ 0 [48, 48, 48, 48, 100, 100, 100, 100, 48, 48, 48, 48, 109, 109, 109, 109] = num ⟨12, rd, rn, rm, ra, imm, cond, false⟩ % 65536 := by
    show (bd rm 0 4 (2 * (2 * (2 * (2 * (bd rd 0 4 (2 * (2 * (2 * (2 * 0 + 0) + 0) + 0) + 0)) + 0) + 0) + 0) + 0)) = _
    rw [bdl rm 0 4 _ 1 16 (by decide) (by decide)]
    rw [bdl rd 0 4 _ 1 16 (by decide) (by decide)]
    rw [num12]
    omega
  exact ⟨g0, g1⟩
theorem half13 (rd rn rm ra imm cond : Int) (hi : 0 ≤ imm) : rhalf ⟨13, rd, rn, rm, ra, imm, cond, false⟩ 0 [49, 49, 49, 48, 49, 48, 49, 48, 49, 48, 48, 48, 110, 110, 110, 110] = num ⟨13, rd, rn, rm, ra, imm, cond, false⟩ / 65536 ∧ rhalf ⟨13, rd, rn, rm, ra, imm, cond, false⟩ 0 [48, 48, 48, 48, 100, 100, 100, 100, 48, 48, 48, 48, 109, 109, 109, 109] = num ⟨13, rd, rn, rm, ra, imm, cond, false⟩ % 65536 := by
  have b0 := fv_lt rn 1 16 (by decide)
  have b1 := fv_lt rd 1 16 (by decide)
  have b2 := fv_lt rm 1 16 (by decide)
  have g0 : rhalf ⟨13, rd, rn, rm, ra, imm, cond, false⟩ 0 [49, 49, 49, 48, 49, 48, 49, 48, 49, 48, 48, 48, 110, 110, 110, 110] = num ⟨13, rd, rn, rm, ra, imm, cond, false⟩ / 65536 := by
    show (bd rn 0 4 (2 * (2 * (2 * (2 * (2 * (2 * (2 * (2 * (2 * (2 * (2 * (2 * 0 + 1) + 1) + 1) + 0) + 1) + 0) + 1) + 0) + 1) + 0) + 0) + 0)) = _
    rw [bdl rn 0 4 _ 1 16 (by decide) (by decide)]
    rw [num13]
    omega
  have g1 : rhalf ⟨13, rd, rn, rm, ra, imm, cond, false⟩ 0 [48, 48, 48, 48, 100, 100, 100, 100, 48, 48, 48, 48, 109, 109, 109, 109] = num ⟨13, rd, rn, rm, ra, imm, cond, false⟩ % 65536 := by
    show (bd rm 0 4 (2 * (2 * (2 * (2 * (bd rd 0 4 (2 * (2 * (2 * (2 * 0 + 0) + 0) + 0) + 0)) + 0) + 0) + 0) + 0)) = _
    rw [bdl rm 0 4 _ 1 16 (by decide) (by decide)]
    rw [bdl rd 0 4 _ 1 16 (by decide) (by decide)]
    rw [num13]
    omega
  exact ⟨g0, g1⟩
theorem half14 (rd rn rm ra imm cond : Int) (hi : 0 ≤ imm) : rhalf ⟨14, rd, rn, rm, ra, imm, cond, false⟩ 0 [49, 49, 49, 48, 49, 48, 49, 49, 48, 48, 48, 48, 110, 110, 110, 110] = num ⟨14, rd, rn, rm, ra, imm, cond, false⟩ / 65536 ∧ rhalf ⟨14, rd, rn, rm, ra, imm, cond, false⟩ 0 [48, 48, 48, 48, 100, 100, 100, 100, 48, 48, 48, 48, 109, 109, 109, 109] = num ⟨14, rd, rn, rm, ra, imm, cond, false⟩ % 65536 := by
  have b0 := fv_lt rn 1 16 (by decide)
  have b1 := fv_lt rd 1 16 (by decide)
  have b2 := fv_lt rm 1 16 (by decide)
  have g0 : rhalf ⟨14, rd, rn, rm, ra, imm, cond, false⟩ 0 [49, 49, 49, 48, 49, 48, 49, 49, 48, 48, 48, 48, 110, 110, 110, 110] = num ⟨14, rd, rn, rm, ra, imm, cond, false⟩ / 65536 := by
    show (bd rn 0 4 (2 * (2 * (2 * (2 * (2 * (2 * (2 * (2 * (2 * (2 * (2 * (2 * 0 + 1) + 1) + 1) + 0) + 1) + 0) + 1) + 1) + 0) + 0) + 0) + 0)) = _
    rw [bdl rn 0 4 _ 1 16 (by decide) (by decide)]
    rw [num14]
    omega
  have g1 : rhalf ⟨14, rd, rn, rm, ra, imm, cond, false⟩ 0 [48, 48, 48, 48, 100, 100, 100, 100, 48, 48, 48, 48, 109, 109, 109, 109] = num ⟨14, rd, rn, rm, ra, imm, cond, false⟩ % 65536 := by
    show (bd rm 0 4 (2 * (2 * (2 * (2 * (bd rd 0 4 (2 * (2 * (2 * (2 * 0 + 0) + 0) + 0) + 0)) + 0) + 0) + 0) + 0)) = _
    rw [bdl rm 0 4 _ 1 16 (by decide) (by decide)]
    rw [bdl rd 0 4 _ 1 16 (by decide) (by decide)]
    rw [num14]
    omega
  exact ⟨g0, g1⟩
theorem half15 (rd rn rm ra imm cond : Int) (hi : 0 ≤ imm) : rhalf ⟨15, rd, rn, rm, ra, imm, cond, false⟩ 0 [49, 49, 49, 48, 49, 48, 49, 49, 49, 48, 49, 48, 110, 110, 110, 110] = num ⟨15, rd, rn, rm, ra, imm, cond, false⟩ / 65536 ∧ rhalf ⟨15, rd, rn, rm, ra, imm, cond, false⟩ 0 [48, 48, 48, 48, 100, 100, 100, 100, 48, 48, 48, 48, 109, 109, 109, 109] = num ⟨15, rd, rn, rm, ra, imm, cond, false⟩ % 65536 := by
  have b0 := fv_lt rn 1 16 (by decide)
  have b1 := fv_lt rd 1 16 (by decide)
  have b2 := fv_lt rm 1 16 (by decide)
  have g0 : rhalf ⟨15, rd, rn, rm, ra, imm, cond, false⟩ 0 [49, 49, 49, 48, 49, 48, 49, 49, 49, 48, 49, 48, 110, 110, 110, 110] = num ⟨15, rd, rn, rm, ra, imm, cond, false⟩ / 65536 := by
    show (bd rn 0 4 (2 * (2 * (2 * (2 * (2 * (2 * (2 * (2 * (2 * (2 * (2 * (2 * 0 + 1) + 1) + 1) + 0) + 1) + 0) + 1) + 1) + 1) + 0) + 1) + 0)) = _
    rw [bdl rn 0 4 _ 1 16 (by decide) (by decide)]
    rw [num15]
    omega
  have g1 : rhalf ⟨15, rd, rn, rm, ra, imm, cond, false⟩ 0 [48, 48, 48, 48, 100, 100, 100, 100, 48, 48, 48, 48, 109, 109, 109, 109] = num ⟨15, rd, rn, rm, ra, imm, cond, false⟩ % 65536 := by
    show (bd rm 0 4 (2 * (2 * (2 * (2 * (bd rd 0 4 (2 * (2 * (2 * (2 * 0 + 0) + 0) + 0) + 0)) + 0) + 0) + 0) + 0)) = _
    rw [bdl rm 0 4 _ 1 16 (by decide) (by decide)]
    rw [bdl rd 0 4 _ 1 16 (by decide) (by decide)]
    rw [num15]
    omega
  exact ⟨g0, g1⟩
theorem half16 (rd rn rm ra imm cond : Int) (hi : 0 ≤ imm) : rhalf ⟨16, rd, rn, rm, ra, imm, cond, false⟩ 0 [49, 49, 49, 49, 49, 48, 49, 49, 48, 48, 48, 48, 110, 110, 110, 110] = num ⟨16, rd, rn, rm, ra, imm, cond, false⟩ / 65536 ∧ rhalf ⟨16, rd, rn, rm, ra, imm, cond, false⟩ 0 [49, 49, 49, 49, 100, 100, 100, 100, 48, 48, 48, 48, 109, 109, 109, 109] = num ⟨16, rd, rn, rm, ra, imm, cond, false⟩ % 65536 := by
  have b0 := fv_lt rn 1 16 (by decide)
  have b1 := fv_lt rd 1 16 (by decide)
  have b2 := fv_lt rm 1 16 (by decide)
  have g0 : rhalf ⟨16, rd, rn, rm, ra, imm, cond, false⟩ 0 [49, 49, 49, 49, 49, 48, 49, 49, 48, 48, 48, 48, 110, 110, 110, 110] = num ⟨16, rd, rn, rm, ra, imm, cond, false⟩ / 65536 := by
    show (bd rn 0 4 (2 * (2 * (2 * (2 * (2 * (2 * (2 * (2 * (2 * (2 * (2 * (2 * 0 + 1) + 1) + 1) + 1) + 1) + 0) + 1) + 1) + 0) + 0) + 0) + 0)) = _
    rw [bdl rn 0 4 _ 1 16 (by decide) (by decide)]
    rw [num16]
    omega
  have g1 : rhalf ⟨16, rd, rn, rm, ra, imm, cond, false⟩ 0 [49, 49, 49, 49, 100, 100, 100, 100, 48, 48, 48, 48, 109, 109, 109, 109] = num ⟨16, rd, rn, rm, ra, imm, cond, false⟩ % 65536 := by
    show (bd rm 0 4 (2 * (2 * (2 * (2 * (bd rd 0 4 (2 * (2 * (2 * (2 * 0 + 1) + 1) + 1) + 1)) + 0) + 0) + 0) + 0)) = _
    rw [bdl rm 0 4 _ 1 16 (by decide) (by decide)]
    rw [bdl rd 0 4 _ 1 16 (by decide) (by decide)]
    rw [num16]
    omega
  exact ⟨g0, g1⟩
theorem half17 (rd rn rm ra imm cond : Int) (hi : 0 ≤ imm) : rhalf ⟨17, rd, rn, rm, ra, imm, cond, false⟩ 0 [49, 49, 49, 49, 49, 48, 49, 49, 49, 48, 49, 48, 110, 110, 110, 110] = num ⟨17, rd, rn, rm, ra, imm, cond, false⟩ / 65536 ∧ rhalf ⟨17, rd, rn, rm, ra, imm, cond, false⟩ 0 [100, 100, 100, 100, 97, 97, 97, 97, 48, 48, 48, 48, 109, 109, 109, 109] = num ⟨17, rd, rn, rm, ra, imm, cond, false⟩ % 65536 := by
  have b0 := fv_lt rn 1 16 (by decide)
  have b1 := fv_lt rd 1 16 (by decide)
  have b2 := fv_lt ra 1 16 (by decide)
  have b3 := fv_lt rm 1 16 (by decide)
  have g0 : rhalf ⟨17, rd, rn, rm, ra, imm, cond, false⟩ 0 [49, 49, 49, 49, 49, 48, 49, 49, 49, 48, 49, 48, 110, 110, 110, 110] = num ⟨17, rd, rn, rm, ra, imm, cond, false⟩ / 65536 := by
    show (bd rn 0 4 (2 * (2 * (2 * (2 * (2 * (2 * (2 * (2 * (2 * (2 * (2 * (2 * 0 + 1) + 1) + 1) + 1) + 1) + 0) + 1) + 1) + 1) + 0) + 1) + 0)) = _
    rw [bdl rn 0 4 _ 1 16 (by decide) (by decide)]
    rw [num17]
    omega
  have g1 : rhalf ⟨17, rd, rn, rm, ra, imm, cond, false⟩ 0 [100, 100, 100, 100, 97, 97, 97, 97, 48, 48, 48, 48, 109, 109, 109, 109] = num ⟨17, rd, rn, rm, ra, imm, cond, false⟩ % 65536 := by
    show (bd rm 0 4 (2 * (2 * (2 * (2 * (bd ra 0 4 (bd rd 0 4 0)) + 0) + 0) + 0) + 0)) = _
    rw [bdl rm 0 4 _ 1 16 (by decide) (by decide)]
    rw [bdl ra 0 4 _ 1 16 (by decide) (by decide)]
    rw [bdl rd 0 4 _ 1 16 (by decide) (by decide)]
    rw [num17]
    omega
  exact ⟨g0, g1⟩
theorem half18 (rd rn rm ra imm cond : Int) (hi : 0 ≤ imm) : rhalf ⟨18, rd, rn, rm, ra, imm, cond, false⟩ 0 [49, 49, 49, 49, 48, 48, 49, 49, 48, 49, 49, 48, 110, 110, 110, 110] = num ⟨18, rd, rn, rm, ra, imm, cond, false⟩ / 65536 ∧ rhalf ⟨18, rd, rn, rm, ra, imm, cond, false⟩ 0 [48, 69, 68, 67, 100, 100, 100, 100, 66, 65, 48, 119, 119, 119, 119, 119] = num ⟨18, rd, rn, rm, ra, imm, cond, false⟩ % 65536 := by
  have b0 := fv_lt rn 1 16 (by decide)
  have b1 := fv_lt imm 4 8 (by decide)
  have b2 := fv_lt rd 1 16 (by decide)
  have b3 := fv_lt imm 1 4 (by decide)
  have b4 := fv_lt (imm + ra - 1) 1 32 (by decide)
  have g0 : rhalf ⟨18, rd, rn, rm, ra, imm, cond, false⟩ 0 [49, 49, 49, 49, 48, 48, 49, 49, 48, 49, 49, 48, 110, 110, 110, 110] = num ⟨18, rd, rn, rm, ra, imm, cond, false⟩ / 65536 := by
    show (bd rn 0 4 (2 * (2 * (2 * (2 * (2 * (2 * (2 * (2 * (2 * (2 * (2 * (2 * 0 + 1) + 1) + 1) + 1) + 0) + 0) + 1) + 1) + 0) + 1) + 1) + 0)) = _
    rw [bdl rn 0 4 _ 1 16 (by decide) (by decide)]
    rw [num18]
    omega
  have g1 : rhalf ⟨18, rd, rn, rm, ra, imm, cond, false⟩ 0 [48, 69, 68, 67, 100, 100, 100, 100, 66, 65, 48, 119, 119, 119, 119, 119] = num ⟨18, rd, rn, rm, ra, imm, cond, false⟩ % 65536 := by
    show (bd (imm + ra - 1) 0 5 (2 * (bd (off imm) 0 2 (bd rd 0 4 (bd (off imm) 2 3 (2 * 0 + 0)))) + 0)) = _
    rw [bdl (imm + ra - 1) 0 5 _ 1 32 (by decide) (by decide)]
    rw [bdl (off imm) 0 2 _ 1 4 (by decide) (by decide)]
    rw [bdl rd 0 4 _ 1 16 (by decide) (by decide)]
    rw [bdl (off imm) 2 3 _ 4 8 (by decide) (by decide)]
    rw [off_pos imm (by omega)]
    rw [num18]
    omega
  exact ⟨g0, g1⟩
theorem half19 (rd rn rm ra imm cond : Int) (hi : 0 ≤ imm) : rhalf ⟨19, rd, rn, rm, ra, imm, cond, false⟩ 0 [48, 49, 49, 48, 49, 48, 48, 48, 48, 48, 110, 110, 110, 100, 100, 100] = num ⟨19, rd, rn, rm, ra, imm, cond, false⟩ := by
  have b0 := fv_lt rn 1 8 (by decide)
  have b1 := fv_lt rd 1 8 (by decide)
  have g0 : rhalf ⟨19, rd, rn, rm, ra, imm, cond, false⟩ 0 [48, 49, 49, 48, 49, 48, 48, 48, 48, 48, 110, 110, 110, 100, 100, 100] = num ⟨19, rd, rn, rm, ra, imm, cond, false⟩ := by
    show (bd rd 0 3 (bd rn 0 3 (2 * (2 * (2 * (2 * (2 * (2 * (2 * (2 * (2 * (2 * 0 + 0) + 1) + 1) + 0) + 1) + 0) + 0) + 0) + 0) + 0))) = _
    rw [bdl rd 0 3 _ 1 8 (by decide) (by decide)]
    rw [bdl rn 0 3 _ 1 8 (by decide) (by decide)]
    rw [num19]
    omega
  exact g0
theorem half20 (rd rn rm ra imm cond : Int) (hi : 0 ≤ imm) : rhalf ⟨20, rd, rn, rm, ra, imm, cond, false⟩ 0 [48, 49, 49, 48, 48, 48, 48, 48, 48, 48, 110, 110, 110, 100, 100, 100] = num ⟨20, rd, rn, rm, ra, imm, cond, false⟩ := by
  have b0 := fv_lt rn 1 8 (by decide)
  have b1 := fv_lt rd 1 8 (by decide)
  have g0 : rhalf ⟨20, rd, rn, rm, ra, imm, cond, false⟩ 0 [48, 49, 49, 48, 48, 48, 48, 48, 48, 48, 110, 110, 110, 100, 100, 100] = num ⟨20, rd, rn, rm, ra, imm, cond, false⟩ := by
    show (bd rd 0 3 (bd rn 0 3 (2 * (2 * (2 * (2 * (2 * (2 * (2 * (2 * (2 * (2 * 0 + 0) + 1) + 1) + 0) + 0) + 0) + 0) + 0) + 0) + 0))) = _
    rw [bdl rd 0 3 _ 1 8 (by decide) (by decide)]
    rw [bdl rn 0 3 _ 1 8 (by decide) (by decide)]
    rw [num20]
    omega
  exact g0
theorem half21 (rd rn rm ra imm cond : Int) (hi : 0 ≤ imm) : rhalf ⟨21, rd, rn, rm, ra, imm, cond, false⟩ 0 [48, 49, 49, 49, 49, 48, 48, 48, 48, 48, 110, 110, 110, 100, 100, 100] = num ⟨21, rd, rn, rm, ra, imm, cond, false⟩ := by
  have b0 := fv_lt rn 1 8 (by decide)
  have b1 := fv_lt rd 1 8 (by decide)
  have g0 : rhalf ⟨21, rd, rn, rm, ra, imm, cond, false⟩ 0 [48, 49, 49, 49, 49, 48, 48, 48, 48, 48, 110, 110, 110, 100, 100, 100] = num ⟨21, rd, rn, rm, ra, imm, cond, false⟩ := by
    show (bd rd 0 3 (bd rn 0 3 (2 * (2 * (2 * (2 * (2 * (2 * (2 * (2 * (2 * (2 * 0 + 0) + 1) + 1) + 1) + 1) + 0) + 0) + 0) + 0) + 0))) = _
    rw [bdl rd 0 3 _ 1 8 (by decide) (by decide)]
    rw [bdl rn 0 3 _ 1 8 (by decide) (by decide)]
    rw [num21]
    omega
  exact g0
theorem half22 (rd rn rm ra imm cond : Int) (hi : 0 ≤ imm) : rhalf ⟨22, rd, rn, rm, ra, imm, cond, false⟩ 0 [48, 49, 49, 49, 48, 48, 48, 48, 48, 48, 110, 110, 110, 100, 100, 100] = num ⟨22, rd, rn, rm, ra, imm, cond, false⟩ := by
  have b0 := fv_lt rn 1 8 (by decide)
  have b1 := fv_lt rd 1 8 (by decide)
  have g0 : rhalf ⟨22, rd, rn, rm, ra, imm, cond, false⟩ 0 [48, 49, 49, 49, 48, 48, 48, 48, 48, 48, 110, 110, 110, 100, 100, 100] = num ⟨22, rd, rn, rm, ra, imm, cond, false⟩ := by
    show (bd rd 0 3 (bd rn 0 3 (2 * (2 * (2 * (2 * (2 * (2 * (2 * (2 * (2 * (2 * 0 + 0) + 1) + 1) + 1) + 0) + 0) + 0) + 0) + 0) + 0))) = _
    rw [bdl rd 0 3 _ 1 8 (by decide) (by decide)]
    rw [bdl rn 0 3 _ 1 8 (by decide) (by decide)]
    rw [num22]
    omega
  exact g0
theorem half23 (rd rn rm ra imm cond : Int) (hi : 0 ≤ imm) : rhalf ⟨23, rd, rn, rm, ra, imm, cond, false⟩ 0 [48, 49, 48, 48, 48, 48, 49, 48, 49, 48, 109, 109, 109, 110, 110, 110] = num ⟨23, rd, rn, rm, ra, imm, cond, false⟩ := by
  have b0 := fv_lt rm 1 8 (by decide)
  have b1 := fv_lt rn 1 8 (by decide)
  have g0 : rhalf ⟨23, rd, rn, rm, ra, imm, cond, false⟩ 0 [48, 49, 48, 48, 48, 48, 49, 48, 49, 48, 109, 109, 109, 110, 110, 110] = num ⟨23, rd, rn, rm, ra, imm, cond, false⟩ := by
    show (bd rn 0 3 (bd rm 0 3 (2 * (2 * (2 * (2 * (2 * (2 * (2 * (2 * (2 * (2 * 0 + 0) + 1) + 0) + 0) + 0) + 0) + 1) + 0) + 1) + 0))) = _
    rw [bdl rn 0 3 _ 1 8 (by decide) (by decide)]
    rw [bdl rm 0 3 _ 1 8 (by decide) (by decide)]
    rw [num23]
    omega
  exact g0
theorem half24n (rd rn rm ra imm cond : Int) : rhalf ⟨24, rd, rn, rm, ra, imm, cond, false⟩ 0 [49, 49, 49, 48, 48, 76, 75, 74, 73, 72, 71, 70, 69, 68, 67, 66] = num ⟨24, rd, rn, rm, ra, imm, cond, false⟩ := by
  have b0 := fv_lt (off imm) 2 2048 (by decide)
  have g0 : rhalf ⟨24, rd, rn, rm, ra, imm, cond, false⟩ 0 [49, 49, 49, 48, 48, 76, 75, 74, 73, 72, 71, 70, 69, 68, 67, 66] = num ⟨24, rd, rn, rm, ra, imm, cond, false⟩ := by
    show (bd (off imm) 1 11 (2 * (2 * (2 * (2 * (2 * 0 + 1) + 1) + 1) + 0) + 0)) = _
    rw [bdl (off imm) 1 11 _ 2 2048 (by decide) (by decide)]
    rw [num24n]
    omega
  exact g0
theorem half24w (rd rn rm ra imm cond : Int) (hi : 0 ≤ off imm) : rhalf ⟨24, rd, rn, rm, ra, imm, cond, true⟩ 0 [49, 49, 49, 49, 48, 89, 86, 85, 84, 83, 82, 81, 80, 79, 78, 77] = num ⟨24, rd, rn, rm, ra, imm, cond, true⟩ / 65536 ∧ rhalf ⟨24, rd, rn, rm, ra, imm, cond, true⟩ 0 [49, 48, 120, 49, 121, 76, 75, 74, 73, 72, 71, 70, 69, 68, 67, 66] = num ⟨24, rd, rn, rm, ra, imm, cond, true⟩ % 65536 := by
  have x23 : 1 - (rbit (off imm) 23 + rbit (off imm) 24) % 2 = fv (alike (off imm) 23 24) 1 2 := by
    rw [alike_fv (off imm) 23 24 8388608 16777216 (by decide) (by decide) hi]
    have e1 : rbit (off imm) 23 = fv (off imm) 8388608 2 := by unfold rbit fv; rw [show (2 : Nat) ^ 23 = 8388608 by decide]
    have e2 : rbit (off imm) 24 = fv (off imm) 16777216 2 := by unfold rbit fv; rw [show (2 : Nat) ^ 24 = 16777216 by decide]
    have c1 := fv_lt (off imm) 8388608 2 (by decide)
    have c2 := fv_lt (off imm) 16777216 2 (by decide)
    rw [e1, e2]; split <;> omega
  have x22 : 1 - (rbit (off imm) 22 + rbit (off imm) 24) % 2 = fv (alike (off imm) 22 24) 1 2 := by
    rw [alike_fv (off imm) 22 24 4194304 16777216 (by decide) (by decide) hi]
    have e1 : rbit (off imm) 22 = fv (off imm) 4194304 2 := by unfold rbit fv; rw [show (2 : Nat) ^ 22 = 4194304 by decide]
    have e2 : rbit (off imm) 24 = fv (off imm) 16777216 2 := by unfold rbit fv; rw [show (2 : Nat) ^ 24 = 16777216 by decide]
    have c1 := fv_lt (off imm) 4194304 2 (by decide)
    have c2 := fv_lt (off imm) 16777216 2 (by decide)
    rw [e1, e2]; split <;> omega
  have b0 := fv_lt (off imm) 16777216 2 (by decide)
  have b1 := fv_lt (off imm) 4096 1024 (by decide)
  have b2 := fv_lt (alike (off imm) 23 24) 1 2 (by decide)
  have b3 := fv_lt (alike (off imm) 22 24) 1 2 (by decide)
  have b4 := fv_lt (off imm) 2 2048 (by decide)
  have g0 : rhalf ⟨24, rd, rn, rm, ra, imm, cond, true⟩ 0 [49, 49, 49, 49, 48, 89, 86, 85, 84, 83, 82, 81, 80, 79, 78, 77] = num ⟨24, rd, rn, rm, ra, imm, cond, true⟩ / 65536 := by
    show (bd (off imm) 12 10 (bd (off imm) 24 1 (2 * (2 * (2 * (2 * (2 * 0 + 1) + 1) + 1) + 1) + 0))) = _
    rw [bdl (off imm) 12 10 _ 4096 1024 (by decide) (by decide)]
    rw [bdl (off imm) 24 1 _ 16777216 2 (by decide) (by decide)]
    rw [num24w]
    omega
  have g1 : rhalf ⟨24, rd, rn, rm, ra, imm, cond, true⟩ 0 [49, 48, 120, 49, 121, 76, 75, 74, 73, 72, 71, 70, 69, 68, 67, 66] = num ⟨24, rd, rn, rm, ra, imm, cond, true⟩ % 65536 := by
    show (bd (off imm) 1 11 (2 * (2 * (2 * (2 * (2 * 0 + 1) + 0) + (1 - (rbit (off imm) 23 + rbit (off imm) 24) % 2)) + 1) + (1 - (rbit (off imm) 22 + rbit (off imm) 24) % 2))) = _
    rw [bdl (off imm) 1 11 _ 2 2048 (by decide) (by decide)]
    rw [num24w]
    rw [x23, x22]
    omega
  exact ⟨g0, g1⟩
theorem half25n (rd rn rm ra imm cond : Int) : rhalf ⟨25, rd, rn, rm, ra, imm, cond, false⟩ 0 [49, 49, 48, 49, 99, 99, 99, 99, 73, 72, 71, 70, 69, 68, 67, 66] = num ⟨25, rd, rn, rm, ra, imm, cond, false⟩ := by
  have b0 := fv_lt cond 1 16 (by decide)
  have b1 := fv_lt (off imm) 2 256 (by decide)
  have g0 : rhalf ⟨25, rd, rn, rm, ra, imm, cond, false⟩ 0 [49, 49, 48, 49, 99, 99, 99, 99, 73, 72, 71, 70, 69, 68, 67, 66] = num ⟨25, rd, rn, rm, ra, imm, cond, false⟩ := by
    show (bd (off imm) 1 8 (bd cond 0 4 (2 * (2 * (2 * (2 * 0 + 1) + 1) + 0) + 1))) = _
    rw [bdl (off imm) 1 8 _ 2 256 (by decide) (by decide)]
    rw [bdl cond 0 4 _ 1 16 (by decide) (by decide)]
    rw [num25n]
    omega
  exact g0
theorem half25w (rd rn rm ra imm cond : Int) : rhalf ⟨25, rd, rn, rm, ra, imm, cond, true⟩ 0 [49, 49, 49, 49, 48, 85, 99, 99, 99, 99, 82, 81, 80, 79, 78, 77] = num ⟨25, rd, rn, rm, ra, imm, cond, true⟩ / 65536 ∧ rhalf ⟨25, rd, rn, rm, ra, imm, cond, true⟩ 0 [49, 48, 83, 48, 84, 76, 75, 74, 73, 72, 71, 70, 69, 68, 67, 66] = num ⟨25, rd, rn, rm, ra, imm, cond, true⟩ % 65536 := by
  have b0 := fv_lt (off imm) 1048576 2 (by decide)
  have b1 := fv_lt cond 1 16 (by decide)
  have b2 := fv_lt (off imm) 4096 64 (by decide)
  have b3 := fv_lt (off imm) 262144 2 (by decide)
  have b4 := fv_lt (off imm) 524288 2 (by decide)
  have b5 := fv_lt (off imm) 2 2048 (by decide)
  have g0 : rhalf ⟨25, rd, rn, rm, ra, imm, cond, true⟩ 0 [49, 49, 49, 49, 48, 85, 99, 99, 99, 99, 82, 81, 80, 79, 78, 77] = num ⟨25, rd, rn, rm, ra, imm, cond, true⟩ / 65536 := by
    show (bd (off imm) 12 6 (bd cond 0 4 (bd (off imm) 20 1 (2 * (2 * (2 * (2 * (2 * 0 + 1) + 1) + 1) + 1) + 0)))) = _
    rw [bdl (off imm) 12 6 _ 4096 64 (by decide) (by decide)]
    rw [bdl cond 0 4 _ 1 16 (by decide) (by decide)]
    rw [bdl (off imm) 20 1 _ 1048576 2 (by decide) (by decide)]
    rw [num25w]
    omega
  have g1 : rhalf ⟨25, rd, rn, rm, ra, imm, cond, true⟩ 0 [49, 48, 83, 48, 84, 76, 75, 74, 73, 72, 71, 70, 69, 68, 67, 66] = num ⟨25, rd, rn, rm, ra, imm, cond, true⟩ % 65536 := by
    show (bd (off imm) 1 11 (bd (off imm) 19 1 (2 * (bd (off imm) 18 1 (2 * (2 * 0 + 1) + 0)) + 0))) = _
    rw [bdl (off imm) 1 11 _ 2 2048 (by decide) (by decide)]
    rw [bdl (off imm) 19 1 _ 524288 2 (by decide) (by decide)]
    rw [bdl (off imm) 18 1 _ 262144 2 (by decide) (by decide)]
    rw [num25w]
    omega
  exact ⟨g0, g1⟩
end Go.Proofs.Ytcajllbhgfaofaa.Th
