/-
  Plain mathematics of instructions: each one's bits as a sum, how many bytes it has. It names nothing of the translated program.
-/
import Derived.Test.YtennhpfhgbmnfaaThumbM4
namespace Go.Proofs.Ytennhpfhgbmnfaa.Th
open Go.RowKit

theorem or_add (n v t c : Nat) (hv : v < 2 ^ c) (h : n / 2 ^ t % 2 ^ c = 0) : n ||| v * 2 ^ t = n + v * 2 ^ t := by
  have h1 := Nat.div_add_mod n (2 ^ t)
  have h2 := Nat.div_add_mod (n / 2 ^ t) (2 ^ c)
  rw [h, Nat.add_zero] at h2
  have hl : n % 2 ^ t < 2 ^ t := Nat.mod_lt _ (Nat.two_pow_pos t)
  generalize n / 2 ^ t / 2 ^ c = a at *
  generalize n % 2 ^ t = l at *
  rw [← h2, ← Nat.mul_assoc, ← Nat.pow_add] at h1
  rw [← h1]
  have hvl : 2 ^ t * v + l < 2 ^ (t + c) := by
    rw [Nat.pow_add]
    have : 2 ^ t * (v + 1) ≤ 2 ^ t * 2 ^ c := Nat.mul_le_mul_left _ hv
    rw [Nat.mul_add, Nat.mul_one] at this
    omega
  have hl2 : l < 2 ^ (t + c) := by have : 0 ≤ 2 ^ t * v := Nat.zero_le _; omega
  rw [Nat.two_pow_add_eq_or_of_lt hl2, Nat.or_assoc, Nat.mul_comm v, Nat.or_comm l, ← Nat.two_pow_add_eq_or_of_lt hl, ← Nat.two_pow_add_eq_or_of_lt hvl]
  rw [← Nat.two_pow_add_eq_or_of_lt hl2]
  omega
/-- a field's value: the bits of x from those of weight r on, below q -/
def fv (x : Int) (r q : Nat) : Nat := x.toNat / r % q
theorem fv_lt (x : Int) (r q : Nat) (h : 0 < q) : fv x r q < q := Nat.mod_lt _ h
theorem put_nil' (n : Nat) : put n [] = n := rfl
theorem st (n : Nat) (x : Int) (c f t p q r : Nat) (hp : 2 ^ t = p) (hq : 2 ^ c = q) (hr : 2 ^ f = r) (h : n / p % q = 0) : orStep n ⟨x, c, f, t⟩ = n + fv x r q * p := by
  subst hp; subst hq; subst hr
  exact or_add n _ t c (Nat.mod_lt _ (Nat.two_pow_pos c)) h
theorem num1 (rd rn rm ra imm cond : Int) (wide : Bool) : num ⟨1, rd, rn, rm, ra, imm, cond, wide⟩ = 48896 := by
  rfl
theorem size1 (rd rn rm ra imm cond : Int) (wide : Bool) (h : check ⟨1, rd, rn, rm, ra, imm, cond, wide⟩ = 0) : size ⟨1, rd, rn, rm, ra, imm, cond, wide⟩ = 2 := by
  unfold size; rw [h]; rfl
theorem num2 (rd rn rm ra imm cond : Int) (wide : Bool) : num ⟨2, rd, rn, rm, ra, imm, cond, wide⟩ = 48640 + fv imm 1 256 * 1 := by
  show put 48640 [⟨imm, 8, 0, 0⟩] = _
  have b0 := fv_lt imm 1 256 (by decide)
  rw [put_cons, st _ imm 8 0 0 1 256 1 (by decide) (by decide) (by decide) (by omega)]
  exact put_nil' _
theorem size2 (rd rn rm ra imm cond : Int) (wide : Bool) (h : check ⟨2, rd, rn, rm, ra, imm, cond, wide⟩ = 0) : size ⟨2, rd, rn, rm, ra, imm, cond, wide⟩ = 2 := by
  unfold size; rw [h]; rfl
theorem num3 (rd rn rm ra imm cond : Int) (wide : Bool) : num ⟨3, rd, rn, rm, ra, imm, cond, wide⟩ = 4064280576 + fv imm 2048 2 * 67108864 + fv imm 4096 16 * 65536 + fv imm 256 8 * 4096 + fv rd 1 16 * 256 + fv imm 1 256 * 1 := by
  show put 4064280576 [⟨imm, 1, 11, 26⟩, ⟨imm, 4, 12, 16⟩, ⟨imm, 3, 8, 12⟩, ⟨rd, 4, 0, 8⟩, ⟨imm, 8, 0, 0⟩] = _
  have b0 := fv_lt imm 2048 2 (by decide)
  have b1 := fv_lt imm 4096 16 (by decide)
  have b2 := fv_lt imm 256 8 (by decide)
  have b3 := fv_lt rd 1 16 (by decide)
  have b4 := fv_lt imm 1 256 (by decide)
  rw [put_cons, st _ imm 1 11 26 67108864 2 2048 (by decide) (by decide) (by decide) (by omega), put_cons, st _ imm 4 12 16 65536 16 4096 (by decide) (by decide) (by decide) (by omega), put_cons, st _ imm 3 8 12 4096 8 256 (by decide) (by decide) (by decide) (by omega), put_cons, st _ rd 4 0 8 256 16 1 (by decide) (by decide) (by decide) (by omega), put_cons, st _ imm 8 0 0 1 256 1 (by decide) (by decide) (by decide) (by omega)]
  exact put_nil' _
theorem size3 (rd rn rm ra imm cond : Int) (wide : Bool) (h : check ⟨3, rd, rn, rm, ra, imm, cond, wide⟩ = 0) : size ⟨3, rd, rn, rm, ra, imm, cond, wide⟩ = 4 := by
  unfold size; rw [h]; rfl
theorem num4 (rd rn rm ra imm cond : Int) (wide : Bool) : num ⟨4, rd, rn, rm, ra, imm, cond, wide⟩ = 4072669184 + fv imm 2048 2 * 67108864 + fv imm 4096 16 * 65536 + fv imm 256 8 * 4096 + fv rd 1 16 * 256 + fv imm 1 256 * 1 := by
  show put 4072669184 [⟨imm, 1, 11, 26⟩, ⟨imm, 4, 12, 16⟩, ⟨imm, 3, 8, 12⟩, ⟨rd, 4, 0, 8⟩, ⟨imm, 8, 0, 0⟩] = _
  have b0 := fv_lt imm 2048 2 (by decide)
  have b1 := fv_lt imm 4096 16 (by decide)
  have b2 := fv_lt imm 256 8 (by decide)
  have b3 := fv_lt rd 1 16 (by decide)
  have b4 := fv_lt imm 1 256 (by decide)
  rw [put_cons, st _ imm 1 11 26 67108864 2 2048 (by decide) (by decide) (by decide) (by omega), put_cons, st _ imm 4 12 16 65536 16 4096 (by decide) (by decide) (by decide) (by omega), put_cons, st _ imm 3 8 12 4096 8 256 (by decide) (by decide) (by decide) (by omega), put_cons, st _ rd 4 0 8 256 16 1 (by decide) (by decide) (by decide) (by omega), put_cons, st _ imm 8 0 0 1 256 1 (by decide) (by decide) (by decide) (by omega)]
  exact put_nil' _
theorem size4 (rd rn rm ra imm cond : Int) (wide : Bool) (h : check ⟨4, rd, rn, rm, ra, imm, cond, wide⟩ = 0) : size ⟨4, rd, rn, rm, ra, imm, cond, wide⟩ = 4 := by
  unfold size; rw [h]; rfl
theorem num5 (rd rn rm ra imm cond : Int) (wide : Bool) : num ⟨5, rd, rn, rm, ra, imm, cond, wide⟩ = 3931045888 + fv imm 4 8 * 4096 + fv rd 1 16 * 256 + fv imm 1 4 * 64 + fv rm 1 16 * 1 := by
  show put 3931045888 [⟨imm, 3, 2, 12⟩, ⟨rd, 4, 0, 8⟩, ⟨imm, 2, 0, 6⟩, ⟨rm, 4, 0, 0⟩] = _
  have b0 := fv_lt imm 4 8 (by decide)
  have b1 := fv_lt rd 1 16 (by decide)
  have b2 := fv_lt imm 1 4 (by decide)
  have b3 := fv_lt rm 1 16 (by decide)
  rw [put_cons, st _ imm 3 2 12 4096 8 4 (by decide) (by decide) (by decide) (by omega), put_cons, st _ rd 4 0 8 256 16 1 (by decide) (by decide) (by decide) (by omega), put_cons, st _ imm 2 0 6 64 4 1 (by decide) (by decide) (by decide) (by omega), put_cons, st _ rm 4 0 0 1 16 1 (by decide) (by decide) (by decide) (by omega)]
  exact put_nil' _
theorem size5 (rd rn rm ra imm cond : Int) (wide : Bool) (h : check ⟨5, rd, rn, rm, ra, imm, cond, wide⟩ = 0) : size ⟨5, rd, rn, rm, ra, imm, cond, wide⟩ = 4 := by
  unfold size; rw [h]; rfl
theorem num6 (rd rn rm ra imm cond : Int) (wide : Bool) : num ⟨6, rd, rn, rm, ra, imm, cond, wide⟩ = 3931045904 + fv imm 4 8 * 4096 + fv rd 1 16 * 256 + fv imm 1 4 * 64 + fv rm 1 16 * 1 := by
  show put 3931045904 [⟨imm, 3, 2, 12⟩, ⟨rd, 4, 0, 8⟩, ⟨imm, 2, 0, 6⟩, ⟨rm, 4, 0, 0⟩] = _
  have b0 := fv_lt imm 4 8 (by decide)
  have b1 := fv_lt rd 1 16 (by decide)
  have b2 := fv_lt imm 1 4 (by decide)
  have b3 := fv_lt rm 1 16 (by decide)
  rw [put_cons, st _ imm 3 2 12 4096 8 4 (by decide) (by decide) (by decide) (by omega), put_cons, st _ rd 4 0 8 256 16 1 (by decide) (by decide) (by decide) (by omega), put_cons, st _ imm 2 0 6 64 4 1 (by decide) (by decide) (by decide) (by omega), put_cons, st _ rm 4 0 0 1 16 1 (by decide) (by decide) (by decide) (by omega)]
  exact put_nil' _
theorem size6 (rd rn rm ra imm cond : Int) (wide : Bool) (h : check ⟨6, rd, rn, rm, ra, imm, cond, wide⟩ = 0) : size ⟨6, rd, rn, rm, ra, imm, cond, wide⟩ = 4 := by
  unfold size; rw [h]; rfl
theorem num7 (rd rn rm ra imm cond : Int) (wide : Bool) : num ⟨7, rd, rn, rm, ra, imm, cond, wide⟩ = 3931045920 + fv imm 4 8 * 4096 + fv rd 1 16 * 256 + fv imm 1 4 * 64 + fv rm 1 16 * 1 := by
  show put 3931045920 [⟨imm, 3, 2, 12⟩, ⟨rd, 4, 0, 8⟩, ⟨imm, 2, 0, 6⟩, ⟨rm, 4, 0, 0⟩] = _
  have b0 := fv_lt imm 4 8 (by decide)
  have b1 := fv_lt rd 1 16 (by decide)
  have b2 := fv_lt imm 1 4 (by decide)
  have b3 := fv_lt rm 1 16 (by decide)
  rw [put_cons, st _ imm 3 2 12 4096 8 4 (by decide) (by decide) (by decide) (by omega), put_cons, st _ rd 4 0 8 256 16 1 (by decide) (by decide) (by decide) (by omega), put_cons, st _ imm 2 0 6 64 4 1 (by decide) (by decide) (by decide) (by omega), put_cons, st _ rm 4 0 0 1 16 1 (by decide) (by decide) (by decide) (by omega)]
  exact put_nil' _
theorem size7 (rd rn rm ra imm cond : Int) (wide : Bool) (h : check ⟨7, rd, rn, rm, ra, imm, cond, wide⟩ = 0) : size ⟨7, rd, rn, rm, ra, imm, cond, wide⟩ = 4 := by
  unfold size; rw [h]; rfl
theorem num8 (rd rn rm ra imm cond : Int) (wide : Bool) : num ⟨8, rd, rn, rm, ra, imm, cond, wide⟩ = 3931045936 + fv imm 4 8 * 4096 + fv rd 1 16 * 256 + fv imm 1 4 * 64 + fv rm 1 16 * 1 := by
  show put 3931045936 [⟨imm, 3, 2, 12⟩, ⟨rd, 4, 0, 8⟩, ⟨imm, 2, 0, 6⟩, ⟨rm, 4, 0, 0⟩] = _
  have b0 := fv_lt imm 4 8 (by decide)
  have b1 := fv_lt rd 1 16 (by decide)
  have b2 := fv_lt imm 1 4 (by decide)
  have b3 := fv_lt rm 1 16 (by decide)
  rw [put_cons, st _ imm 3 2 12 4096 8 4 (by decide) (by decide) (by decide) (by omega), put_cons, st _ rd 4 0 8 256 16 1 (by decide) (by decide) (by decide) (by omega), put_cons, st _ imm 2 0 6 64 4 1 (by decide) (by decide) (by decide) (by omega), put_cons, st _ rm 4 0 0 1 16 1 (by decide) (by decide) (by decide) (by omega)]
  exact put_nil' _
theorem size8 (rd rn rm ra imm cond : Int) (wide : Bool) (h : check ⟨8, rd, rn, rm, ra, imm, cond, wide⟩ = 0) : size ⟨8, rd, rn, rm, ra, imm, cond, wide⟩ = 4 := by
  unfold size; rw [h]; rfl
theorem num9 (rd rn rm ra imm cond : Int) (wide : Bool) : num ⟨9, rd, rn, rm, ra, imm, cond, wide⟩ = 3933143040 + fv rd 1 16 * 256 + fv rm 1 16 * 1 := by
  show put 3933143040 [⟨rd, 4, 0, 8⟩, ⟨rm, 4, 0, 0⟩] = _
  have b0 := fv_lt rd 1 16 (by decide)
  have b1 := fv_lt rm 1 16 (by decide)
  rw [put_cons, st _ rd 4 0 8 256 16 1 (by decide) (by decide) (by decide) (by omega), put_cons, st _ rm 4 0 0 1 16 1 (by decide) (by decide) (by decide) (by omega)]
  exact put_nil' _
theorem size9 (rd rn rm ra imm cond : Int) (wide : Bool) (h : check ⟨9, rd, rn, rm, ra, imm, cond, wide⟩ = 0) : size ⟨9, rd, rn, rm, ra, imm, cond, wide⟩ = 4 := by
  unfold size; rw [h]; rfl
theorem num10 (rd rn rm ra imm cond : Int) (wide : Bool) : num ⟨10, rd, rn, rm, ra, imm, cond, wide⟩ = 3925868544 + fv rn 1 16 * 65536 + fv rd 1 16 * 256 + fv rm 1 16 * 1 := by
  show put 3925868544 [⟨rn, 4, 0, 16⟩, ⟨rd, 4, 0, 8⟩, ⟨rm, 4, 0, 0⟩] = _
  have b0 := fv_lt rn 1 16 (by decide)
  have b1 := fv_lt rd 1 16 (by decide)
  have b2 := fv_lt rm 1 16 (by decide)
  rw [put_cons, st _ rn 4 0 16 65536 16 1 (by decide) (by decide) (by decide) (by omega), put_cons, st _ rd 4 0 8 256 16 1 (by decide) (by decide) (by decide) (by omega), put_cons, st _ rm 4 0 0 1 16 1 (by decide) (by decide) (by decide) (by omega)]
  exact put_nil' _
theorem size10 (rd rn rm ra imm cond : Int) (wide : Bool) (h : check ⟨10, rd, rn, rm, ra, imm, cond, wide⟩ = 0) : size ⟨10, rd, rn, rm, ra, imm, cond, wide⟩ = 4 := by
  unfold size; rw [h]; rfl
theorem num11 (rd rn rm ra imm cond : Int) (wide : Bool) : num ⟨11, rd, rn, rm, ra, imm, cond, wide⟩ = 3927965696 + fv rn 1 16 * 65536 + fv rd 1 16 * 256 + fv rm 1 16 * 1 := by
  show put 3927965696 [⟨rn, 4, 0, 16⟩, ⟨rd, 4, 0, 8⟩, ⟨rm, 4, 0, 0⟩] = _
  have b0 := fv_lt rn 1 16 (by decide)
  have b1 := fv_lt rd 1 16 (by decide)
  have b2 := fv_lt rm 1 16 (by decide)
  rw [put_cons, st _ rn 4 0 16 65536 16 1 (by decide) (by decide) (by decide) (by omega), put_cons, st _ rd 4 0 8 256 16 1 (by decide) (by decide) (by decide) (by omega), put_cons, st _ rm 4 0 0 1 16 1 (by decide) (by decide) (by decide) (by omega)]
  exact put_nil' _
theorem size11 (rd rn rm ra imm cond : Int) (wide : Bool) (h : check ⟨11, rd, rn, rm, ra, imm, cond, wide⟩ = 0) : size ⟨11, rd, rn, rm, ra, imm, cond, wide⟩ = 4 := by
  unfold size; rw [h]; rfl
theorem num12 (rd rn rm ra imm cond : Int) (wide : Bool) : num ⟨12, rd, rn, rm, ra, imm, cond, wide⟩ = 3930062848 + fv rn 1 16 * 65536 + fv rd 1 16 * 256 + fv rm 1 16 * 1 := by
  show put 3930062848 [⟨rn, 4, 0, 16⟩, ⟨rd, 4, 0, 8⟩, ⟨rm, 4, 0, 0⟩] = _
  have b0 := fv_lt rn 1 16 (by decide)
  have b1 := fv_lt rd 1 16 (by decide)
  have b2 := fv_lt rm 1 16 (by decide)
  rw [put_cons, st _ rn 4 0 16 65536 16 1 (by decide) (by decide) (by decide) (by omega), put_cons, st _ rd 4 0 8 256 16 1 (by decide) (by decide) (by decide) (by omega), put_cons, st _ rm 4 0 0 1 16 1 (by decide) (by decide) (by decide) (by omega)]
  exact put_nil' _
theorem size12 (rd rn rm ra imm cond : Int) (wide : Bool) (h : check ⟨12, rd, rn, rm, ra, imm, cond, wide⟩ = 0) : size ⟨12, rd, rn, rm, ra, imm, cond, wide⟩ = 4 := by
  unfold size; rw [h]; rfl
theorem num13 (rd rn rm ra imm cond : Int) (wide : Bool) : num ⟨13, rd, rn, rm, ra, imm, cond, wide⟩ = 3934257152 + fv rn 1 16 * 65536 + fv rd 1 16 * 256 + fv rm 1 16 * 1 := by
  show put 3934257152 [⟨rn, 4, 0, 16⟩, ⟨rd, 4, 0, 8⟩, ⟨rm, 4, 0, 0⟩] = _
  have b0 := fv_lt rn 1 16 (by decide)
  have b1 := fv_lt rd 1 16 (by decide)
  have b2 := fv_lt rm 1 16 (by decide)
  rw [put_cons, st _ rn 4 0 16 65536 16 1 (by decide) (by decide) (by decide) (by omega), put_cons, st _ rd 4 0 8 256 16 1 (by decide) (by decide) (by decide) (by omega), put_cons, st _ rm 4 0 0 1 16 1 (by decide) (by decide) (by decide) (by omega)]
  exact put_nil' _
theorem size13 (rd rn rm ra imm cond : Int) (wide : Bool) (h : check ⟨13, rd, rn, rm, ra, imm, cond, wide⟩ = 0) : size ⟨13, rd, rn, rm, ra, imm, cond, wide⟩ = 4 := by
  unfold size; rw [h]; rfl
theorem num14 (rd rn rm ra imm cond : Int) (wide : Bool) : num ⟨14, rd, rn, rm, ra, imm, cond, wide⟩ = 3942645760 + fv rn 1 16 * 65536 + fv rd 1 16 * 256 + fv rm 1 16 * 1 := by
  show put 3942645760 [⟨rn, 4, 0, 16⟩, ⟨rd, 4, 0, 8⟩, ⟨rm, 4, 0, 0⟩] = _
  have b0 := fv_lt rn 1 16 (by decide)
  have b1 := fv_lt rd 1 16 (by decide)
  have b2 := fv_lt rm 1 16 (by decide)
  rw [put_cons, st _ rn 4 0 16 65536 16 1 (by decide) (by decide) (by decide) (by omega), put_cons, st _ rd 4 0 8 256 16 1 (by decide) (by decide) (by decide) (by omega), put_cons, st _ rm 4 0 0 1 16 1 (by decide) (by decide) (by decide) (by omega)]
  exact put_nil' _
theorem size14 (rd rn rm ra imm cond : Int) (wide : Bool) (h : check ⟨14, rd, rn, rm, ra, imm, cond, wide⟩ = 0) : size ⟨14, rd, rn, rm, ra, imm, cond, wide⟩ = 4 := by
  unfold size; rw [h]; rfl
theorem num15 (rd rn rm ra imm cond : Int) (wide : Bool) : num ⟨15, rd, rn, rm, ra, imm, cond, wide⟩ = 3953131520 + fv rn 1 16 * 65536 + fv rd 1 16 * 256 + fv rm 1 16 * 1 := by
  show put 3953131520 [⟨rn, 4, 0, 16⟩, ⟨rd, 4, 0, 8⟩, ⟨rm, 4, 0, 0⟩] = _
  have b0 := fv_lt rn 1 16 (by decide)
  have b1 := fv_lt rd 1 16 (by decide)
  have b2 := fv_lt rm 1 16 (by decide)
  rw [put_cons, st _ rn 4 0 16 65536 16 1 (by decide) (by decide) (by decide) (by omega), put_cons, st _ rd 4 0 8 256 16 1 (by decide) (by decide) (by decide) (by omega), put_cons, st _ rm 4 0 0 1 16 1 (by decide) (by decide) (by decide) (by omega)]
  exact put_nil' _
theorem size15 (rd rn rm ra imm cond : Int) (wide : Bool) (h : check ⟨15, rd, rn, rm, ra, imm, cond, wide⟩ = 0) : size ⟨15, rd, rn, rm, ra, imm, cond, wide⟩ = 4 := by
  unfold size; rw [h]; rfl
theorem num16 (rd rn rm ra imm cond : Int) (wide : Bool) : num ⟨16, rd, rn, rm, ra, imm, cond, wide⟩ = 4211142656 + fv rn 1 16 * 65536 + fv rd 1 16 * 256 + fv rm 1 16 * 1 := by
  show put 4211142656 [⟨rn, 4, 0, 16⟩, ⟨rd, 4, 0, 8⟩, ⟨rm, 4, 0, 0⟩] = _
  have b0 := fv_lt rn 1 16 (by decide)
  have b1 := fv_lt rd 1 16 (by decide)
  have b2 := fv_lt rm 1 16 (by decide)
  rw [put_cons, st _ rn 4 0 16 65536 16 1 (by decide) (by decide) (by decide) (by omega), put_cons, st _ rd 4 0 8 256 16 1 (by decide) (by decide) (by decide) (by omega), put_cons, st _ rm 4 0 0 1 16 1 (by decide) (by decide) (by decide) (by omega)]
  exact put_nil' _
theorem size16 (rd rn rm ra imm cond : Int) (wide : Bool) (h : check ⟨16, rd, rn, rm, ra, imm, cond, wide⟩ = 0) : size ⟨16, rd, rn, rm, ra, imm, cond, wide⟩ = 4 := by
  unfold size; rw [h]; rfl
theorem num17 (rd rn rm ra imm cond : Int) (wide : Bool) : num ⟨17, rd, rn, rm, ra, imm, cond, wide⟩ = 4221566976 + fv rn 1 16 * 65536 + fv rd 1 16 * 4096 + fv ra 1 16 * 256 + fv rm 1 16 * 1 := by
  show put 4221566976 [⟨rn, 4, 0, 16⟩, ⟨rd, 4, 0, 12⟩, ⟨ra, 4, 0, 8⟩, ⟨rm, 4, 0, 0⟩] = _
  have b0 := fv_lt rn 1 16 (by decide)
  have b1 := fv_lt rd 1 16 (by decide)
  have b2 := fv_lt ra 1 16 (by decide)
  have b3 := fv_lt rm 1 16 (by decide)
  rw [put_cons, st _ rn 4 0 16 65536 16 1 (by decide) (by decide) (by decide) (by omega), put_cons, st _ rd 4 0 12 4096 16 1 (by decide) (by decide) (by decide) (by omega), put_cons, st _ ra 4 0 8 256 16 1 (by decide) (by decide) (by decide) (by omega), put_cons, st _ rm 4 0 0 1 16 1 (by decide) (by decide) (by decide) (by omega)]
  exact put_nil' _
theorem size17 (rd rn rm ra imm cond : Int) (wide : Bool) (h : check ⟨17, rd, rn, rm, ra, imm, cond, wide⟩ = 0) : size ⟨17, rd, rn, rm, ra, imm, cond, wide⟩ = 4 := by
  unfold size; rw [h]; rfl
theorem num18 (rd rn rm ra imm cond : Int) (wide : Bool) : num ⟨18, rd, rn, rm, ra, imm, cond, wide⟩ = 4083154944 + fv rn 1 16 * 65536 + fv imm 4 8 * 4096 + fv rd 1 16 * 256 + fv imm 1 4 * 64 + fv (imm + ra - 1) 1 32 * 1 := by
  show put 4083154944 [⟨rn, 4, 0, 16⟩, ⟨imm, 3, 2, 12⟩, ⟨rd, 4, 0, 8⟩, ⟨imm, 2, 0, 6⟩, ⟨(imm + ra - 1), 5, 0, 0⟩] = _
  have b0 := fv_lt rn 1 16 (by decide)
  have b1 := fv_lt imm 4 8 (by decide)
  have b2 := fv_lt rd 1 16 (by decide)
  have b3 := fv_lt imm 1 4 (by decide)
  have b4 := fv_lt (imm + ra - 1) 1 32 (by decide)
  rw [put_cons, st _ rn 4 0 16 65536 16 1 (by decide) (by decide) (by decide) (by omega), put_cons, st _ imm 3 2 12 4096 8 4 (by decide) (by decide) (by decide) (by omega), put_cons, st _ rd 4 0 8 256 16 1 (by decide) (by decide) (by decide) (by omega), put_cons, st _ imm 2 0 6 64 4 1 (by decide) (by decide) (by decide) (by omega), put_cons, st _ (imm + ra - 1) 5 0 0 1 32 1 (by decide) (by decide) (by decide) (by omega)]
  exact put_nil' _
theorem size18 (rd rn rm ra imm cond : Int) (wide : Bool) (h : check ⟨18, rd, rn, rm, ra, imm, cond, wide⟩ = 0) : size ⟨18, rd, rn, rm, ra, imm, cond, wide⟩ = 4 := by
  unfold size; rw [h]; rfl
theorem num19 (rd rn rm ra imm cond : Int) (wide : Bool) : num ⟨19, rd, rn, rm, ra, imm, cond, wide⟩ = 26624 + fv rn 1 8 * 8 + fv rd 1 8 * 1 := by
  show put 26624 [⟨rn, 3, 0, 3⟩, ⟨rd, 3, 0, 0⟩] = _
  have b0 := fv_lt rn 1 8 (by decide)
  have b1 := fv_lt rd 1 8 (by decide)
  rw [put_cons, st _ rn 3 0 3 8 8 1 (by decide) (by decide) (by decide) (by omega), put_cons, st _ rd 3 0 0 1 8 1 (by decide) (by decide) (by decide) (by omega)]
  exact put_nil' _
theorem size19 (rd rn rm ra imm cond : Int) (wide : Bool) (h : check ⟨19, rd, rn, rm, ra, imm, cond, wide⟩ = 0) : size ⟨19, rd, rn, rm, ra, imm, cond, wide⟩ = 2 := by
  unfold size; rw [h]; rfl
theorem num20 (rd rn rm ra imm cond : Int) (wide : Bool) : num ⟨20, rd, rn, rm, ra, imm, cond, wide⟩ = 24576 + fv rn 1 8 * 8 + fv rd 1 8 * 1 := by
  show put 24576 [⟨rn, 3, 0, 3⟩, ⟨rd, 3, 0, 0⟩] = _
  have b0 := fv_lt rn 1 8 (by decide)
  have b1 := fv_lt rd 1 8 (by decide)
  rw [put_cons, st _ rn 3 0 3 8 8 1 (by decide) (by decide) (by decide) (by omega), put_cons, st _ rd 3 0 0 1 8 1 (by decide) (by decide) (by decide) (by omega)]
  exact put_nil' _
theorem size20 (rd rn rm ra imm cond : Int) (wide : Bool) (h : check ⟨20, rd, rn, rm, ra, imm, cond, wide⟩ = 0) : size ⟨20, rd, rn, rm, ra, imm, cond, wide⟩ = 2 := by
  unfold size; rw [h]; rfl
theorem num21 (rd rn rm ra imm cond : Int) (wide : Bool) : num ⟨21, rd, rn, rm, ra, imm, cond, wide⟩ = 30720 + fv rn 1 8 * 8 + fv rd 1 8 * 1 := by
  show put 30720 [⟨rn, 3, 0, 3⟩, ⟨rd, 3, 0, 0⟩] = _
  have b0 := fv_lt rn 1 8 (by decide)
  have b1 := fv_lt rd 1 8 (by decide)
  rw [put_cons, st _ rn 3 0 3 8 8 1 (by decide) (by decide) (by decide) (by omega), put_cons, st _ rd 3 0 0 1 8 1 (by decide) (by decide) (by decide) (by omega)]
  exact put_nil' _
theorem size21 (rd rn rm ra imm cond : Int) (wide : Bool) (h : check ⟨21, rd, rn, rm, ra, imm, cond, wide⟩ = 0) : size ⟨21, rd, rn, rm, ra, imm, cond, wide⟩ = 2 := by
  unfold size; rw [h]; rfl
theorem num22 (rd rn rm ra imm cond : Int) (wide : Bool) : num ⟨22, rd, rn, rm, ra, imm, cond, wide⟩ = 28672 + fv rn 1 8 * 8 + fv rd 1 8 * 1 := by
  show put 28672 [⟨rn, 3, 0, 3⟩, ⟨rd, 3, 0, 0⟩] = _
  have b0 := fv_lt rn 1 8 (by decide)
  have b1 := fv_lt rd 1 8 (by decide)
  rw [put_cons, st _ rn 3 0 3 8 8 1 (by decide) (by decide) (by decide) (by omega), put_cons, st _ rd 3 0 0 1 8 1 (by decide) (by decide) (by decide) (by omega)]
  exact put_nil' _
theorem size22 (rd rn rm ra imm cond : Int) (wide : Bool) (h : check ⟨22, rd, rn, rm, ra, imm, cond, wide⟩ = 0) : size ⟨22, rd, rn, rm, ra, imm, cond, wide⟩ = 2 := by
  unfold size; rw [h]; rfl
theorem num23 (rd rn rm ra imm cond : Int) (wide : Bool) : num ⟨23, rd, rn, rm, ra, imm, cond, wide⟩ = 17024 + fv rm 1 8 * 8 + fv rn 1 8 * 1 := by
  show put 17024 [⟨rm, 3, 0, 3⟩, ⟨rn, 3, 0, 0⟩] = _
  have b0 := fv_lt rm 1 8 (by decide)
  have b1 := fv_lt rn 1 8 (by decide)
  rw [put_cons, st _ rm 3 0 3 8 8 1 (by decide) (by decide) (by decide) (by omega), put_cons, st _ rn 3 0 0 1 8 1 (by decide) (by decide) (by decide) (by omega)]
  exact put_nil' _
theorem size23 (rd rn rm ra imm cond : Int) (wide : Bool) (h : check ⟨23, rd, rn, rm, ra, imm, cond, wide⟩ = 0) : size ⟨23, rd, rn, rm, ra, imm, cond, wide⟩ = 2 := by
  unfold size; rw [h]; rfl
theorem num24n (rd rn rm ra imm cond : Int) : num ⟨24, rd, rn, rm, ra, imm, cond, false⟩ = 57344 + fv (off imm) 2 2048 * 1 := by
  show put 57344 [⟨(off imm), 11, 1, 0⟩] = _
  have b0 := fv_lt (off imm) 2 2048 (by decide)
  rw [put_cons, st _ (off imm) 11 1 0 1 2048 2 (by decide) (by decide) (by decide) (by omega)]
  exact put_nil' _
theorem size24n (rd rn rm ra imm cond : Int) (h : check ⟨24, rd, rn, rm, ra, imm, cond, false⟩ = 0) : size ⟨24, rd, rn, rm, ra, imm, cond, false⟩ = 2 := by
  unfold size; rw [h]; rfl
theorem num24w (rd rn rm ra imm cond : Int) : num ⟨24, rd, rn, rm, ra, imm, cond, true⟩ = 4026568704 + fv (off imm) 16777216 2 * 67108864 + fv (off imm) 4096 1024 * 65536 + fv (alike (off imm) 23 24) 1 2 * 8192 + fv (alike (off imm) 22 24) 1 2 * 2048 + fv (off imm) 2 2048 * 1 := by
  show put 4026568704 [⟨(off imm), 1, 24, 26⟩, ⟨(off imm), 10, 12, 16⟩, ⟨(alike (off imm) 23 24), 1, 0, 13⟩, ⟨(alike (off imm) 22 24), 1, 0, 11⟩, ⟨(off imm), 11, 1, 0⟩] = _
  have b0 := fv_lt (off imm) 16777216 2 (by decide)
  have b1 := fv_lt (off imm) 4096 1024 (by decide)
  have b2 := fv_lt (alike (off imm) 23 24) 1 2 (by decide)
  have b3 := fv_lt (alike (off imm) 22 24) 1 2 (by decide)
  have b4 := fv_lt (off imm) 2 2048 (by decide)
  rw [put_cons, st _ (off imm) 1 24 26 67108864 2 16777216 (by decide) (by decide) (by decide) (by omega), put_cons, st _ (off imm) 10 12 16 65536 1024 4096 (by decide) (by decide) (by decide) (by omega), put_cons, st _ (alike (off imm) 23 24) 1 0 13 8192 2 1 (by decide) (by decide) (by decide) (by omega), put_cons, st _ (alike (off imm) 22 24) 1 0 11 2048 2 1 (by decide) (by decide) (by decide) (by omega), put_cons, st _ (off imm) 11 1 0 1 2048 2 (by decide) (by decide) (by decide) (by omega)]
  exact put_nil' _
theorem size24w (rd rn rm ra imm cond : Int) (h : check ⟨24, rd, rn, rm, ra, imm, cond, true⟩ = 0) : size ⟨24, rd, rn, rm, ra, imm, cond, true⟩ = 4 := by
  unfold size; rw [h]; rfl
theorem num25n (rd rn rm ra imm cond : Int) : num ⟨25, rd, rn, rm, ra, imm, cond, false⟩ = 53248 + fv cond 1 16 * 256 + fv (off imm) 2 256 * 1 := by
  show put 53248 [⟨cond, 4, 0, 8⟩, ⟨(off imm), 8, 1, 0⟩] = _
  have b0 := fv_lt cond 1 16 (by decide)
  have b1 := fv_lt (off imm) 2 256 (by decide)
  rw [put_cons, st _ cond 4 0 8 256 16 1 (by decide) (by decide) (by decide) (by omega), put_cons, st _ (off imm) 8 1 0 1 256 2 (by decide) (by decide) (by decide) (by omega)]
  exact put_nil' _
theorem size25n (rd rn rm ra imm cond : Int) (h : check ⟨25, rd, rn, rm, ra, imm, cond, false⟩ = 0) : size ⟨25, rd, rn, rm, ra, imm, cond, false⟩ = 2 := by
  unfold size; rw [h]; rfl
theorem num25w (rd rn rm ra imm cond : Int) : num ⟨25, rd, rn, rm, ra, imm, cond, true⟩ = 4026564608 + fv (off imm) 1048576 2 * 67108864 + fv cond 1 16 * 4194304 + fv (off imm) 4096 64 * 65536 + fv (off imm) 262144 2 * 8192 + fv (off imm) 524288 2 * 2048 + fv (off imm) 2 2048 * 1 := by
  show put 4026564608 [⟨(off imm), 1, 20, 26⟩, ⟨cond, 4, 0, 22⟩, ⟨(off imm), 6, 12, 16⟩, ⟨(off imm), 1, 18, 13⟩, ⟨(off imm), 1, 19, 11⟩, ⟨(off imm), 11, 1, 0⟩] = _
  have b0 := fv_lt (off imm) 1048576 2 (by decide)
  have b1 := fv_lt cond 1 16 (by decide)
  have b2 := fv_lt (off imm) 4096 64 (by decide)
  have b3 := fv_lt (off imm) 262144 2 (by decide)
  have b4 := fv_lt (off imm) 524288 2 (by decide)
  have b5 := fv_lt (off imm) 2 2048 (by decide)
  rw [put_cons, st _ (off imm) 1 20 26 67108864 2 1048576 (by decide) (by decide) (by decide) (by omega), put_cons, st _ cond 4 0 22 4194304 16 1 (by decide) (by decide) (by decide) (by omega), put_cons, st _ (off imm) 6 12 16 65536 64 4096 (by decide) (by decide) (by decide) (by omega), put_cons, st _ (off imm) 1 18 13 8192 2 262144 (by decide) (by decide) (by decide) (by omega), put_cons, st _ (off imm) 1 19 11 2048 2 524288 (by decide) (by decide) (by decide) (by omega), put_cons, st _ (off imm) 11 1 0 1 2048 2 (by decide) (by decide) (by decide) (by omega)]
  exact put_nil' _
theorem size25w (rd rn rm ra imm cond : Int) (h : check ⟨25, rd, rn, rm, ra, imm, cond, true⟩ = 0) : size ⟨25, rd, rn, rm, ra, imm, cond, true⟩ = 4 := by
  unfold size; rw [h]; rfl
theorem op_range {i : Ins} (h : check i = 0) : 1 ≤ i.op ∧ i.op ≤ 25 := by
  rw [check_ok] at h
  have := h.1; unfold fits at this; rw [Bool.and_eq_true] at this
  exact known_op this.1
theorem size_num (i : Ins) (h : check i = 0) : (size i = 2 ∧ num i < 65536) ∨ (size i = 4 ∧ 3892314112 ≤ num i ∧ num i < 4294967296) := by
  obtain ⟨op, rd, rn, rm, ra, imm, cond, wide⟩ := i
  rcases op_cases (op_range h) with rfl | rfl | rfl | rfl | rfl | rfl | rfl | rfl | rfl | rfl | rfl | rfl | rfl | rfl | rfl | rfl | rfl | rfl | rfl | rfl | rfl | rfl | rfl | rfl | rfl
  ·
    exact .inl ⟨size1 _ _ _ _ _ _ _ h, by rw [num1]; omega⟩
  ·
    have b0 := fv_lt imm 1 256 (by decide)
    exact .inl ⟨size2 _ _ _ _ _ _ _ h, by rw [num2]; omega⟩
  ·
    have b0 := fv_lt imm 2048 2 (by decide)
    have b1 := fv_lt imm 4096 16 (by decide)
    have b2 := fv_lt imm 256 8 (by decide)
    have b3 := fv_lt rd 1 16 (by decide)
    have b4 := fv_lt imm 1 256 (by decide)
    exact .inr ⟨size3 _ _ _ _ _ _ _ h, by rw [num3]; omega⟩
  ·
    have b0 := fv_lt imm 2048 2 (by decide)
    have b1 := fv_lt imm 4096 16 (by decide)
    have b2 := fv_lt imm 256 8 (by decide)
    have b3 := fv_lt rd 1 16 (by decide)
    have b4 := fv_lt imm 1 256 (by decide)
    exact .inr ⟨size4 _ _ _ _ _ _ _ h, by rw [num4]; omega⟩
  ·
    have b0 := fv_lt imm 4 8 (by decide)
    have b1 := fv_lt rd 1 16 (by decide)
    have b2 := fv_lt imm 1 4 (by decide)
    have b3 := fv_lt rm 1 16 (by decide)
    exact .inr ⟨size5 _ _ _ _ _ _ _ h, by rw [num5]; omega⟩
  ·
    have b0 := fv_lt imm 4 8 (by decide)
    have b1 := fv_lt rd 1 16 (by decide)
    have b2 := fv_lt imm 1 4 (by decide)
    have b3 := fv_lt rm 1 16 (by decide)
    exact .inr ⟨size6 _ _ _ _ _ _ _ h, by rw [num6]; omega⟩
  ·
    have b0 := fv_lt imm 4 8 (by decide)
    have b1 := fv_lt rd 1 16 (by decide)
    have b2 := fv_lt imm 1 4 (by decide)
    have b3 := fv_lt rm 1 16 (by decide)
    exact .inr ⟨size7 _ _ _ _ _ _ _ h, by rw [num7]; omega⟩
  ·
    have b0 := fv_lt imm 4 8 (by decide)
    have b1 := fv_lt rd 1 16 (by decide)
    have b2 := fv_lt imm 1 4 (by decide)
    have b3 := fv_lt rm 1 16 (by decide)
    exact .inr ⟨size8 _ _ _ _ _ _ _ h, by rw [num8]; omega⟩
  ·
    have b0 := fv_lt rd 1 16 (by decide)
    have b1 := fv_lt rm 1 16 (by decide)
    exact .inr ⟨size9 _ _ _ _ _ _ _ h, by rw [num9]; omega⟩
  ·
    have b0 := fv_lt rn 1 16 (by decide)
    have b1 := fv_lt rd 1 16 (by decide)
    have b2 := fv_lt rm 1 16 (by decide)
    exact .inr ⟨size10 _ _ _ _ _ _ _ h, by rw [num10]; omega⟩
  ·
    have b0 := fv_lt rn 1 16 (by decide)
    have b1 := fv_lt rd 1 16 (by decide)
    have b2 := fv_lt rm 1 16 (by decide)
    exact .inr ⟨size11 _ _ _ _ _ _ _ h, by rw [num11]; omega⟩
  ·
    have b0 := fv_lt rn 1 16 (by decide)
    have b1 := fv_lt rd 1 16 (by decide)
    have b2 := fv_lt rm 1 16 (by decide)
    exact .inr ⟨size12 _ _ _ _ _ _ _ h, by rw [num12]; omega⟩
  ·
    have b0 := fv_lt rn 1 16 (by decide)
    have b1 := fv_lt rd 1 16 (by decide)
    have b2 := fv_lt rm 1 16 (by decide)
    exact .inr ⟨size13 _ _ _ _ _ _ _ h, by rw [num13]; omega⟩
  ·
    have b0 := fv_lt rn 1 16 (by decide)
    have b1 := fv_lt rd 1 16 (by decide)
    have b2 := fv_lt rm 1 16 (by decide)
    exact .inr ⟨size14 _ _ _ _ _ _ _ h, by rw [num14]; omega⟩
  ·
    have b0 := fv_lt rn 1 16 (by decide)
    have b1 := fv_lt rd 1 16 (by decide)
    have b2 := fv_lt rm 1 16 (by decide)
    exact .inr ⟨size15 _ _ _ _ _ _ _ h, by rw [num15]; omega⟩
  ·
    have b0 := fv_lt rn 1 16 (by decide)
    have b1 := fv_lt rd 1 16 (by decide)
    have b2 := fv_lt rm 1 16 (by decide)
    exact .inr ⟨size16 _ _ _ _ _ _ _ h, by rw [num16]; omega⟩
  ·
    have b0 := fv_lt rn 1 16 (by decide)
    have b1 := fv_lt rd 1 16 (by decide)
    have b2 := fv_lt ra 1 16 (by decide)
    have b3 := fv_lt rm 1 16 (by decide)
    exact .inr ⟨size17 _ _ _ _ _ _ _ h, by rw [num17]; omega⟩
  ·
    have b0 := fv_lt rn 1 16 (by decide)
    have b1 := fv_lt imm 4 8 (by decide)
    have b2 := fv_lt rd 1 16 (by decide)
    have b3 := fv_lt imm 1 4 (by decide)
    have b4 := fv_lt (imm + ra - 1) 1 32 (by decide)
    exact .inr ⟨size18 _ _ _ _ _ _ _ h, by rw [num18]; omega⟩
  ·
    have b0 := fv_lt rn 1 8 (by decide)
    have b1 := fv_lt rd 1 8 (by decide)
    exact .inl ⟨size19 _ _ _ _ _ _ _ h, by rw [num19]; omega⟩
  ·
    have b0 := fv_lt rn 1 8 (by decide)
    have b1 := fv_lt rd 1 8 (by decide)
    exact .inl ⟨size20 _ _ _ _ _ _ _ h, by rw [num20]; omega⟩
  ·
    have b0 := fv_lt rn 1 8 (by decide)
    have b1 := fv_lt rd 1 8 (by decide)
    exact .inl ⟨size21 _ _ _ _ _ _ _ h, by rw [num21]; omega⟩
  ·
    have b0 := fv_lt rn 1 8 (by decide)
    have b1 := fv_lt rd 1 8 (by decide)
    exact .inl ⟨size22 _ _ _ _ _ _ _ h, by rw [num22]; omega⟩
  ·
    have b0 := fv_lt rm 1 8 (by decide)
    have b1 := fv_lt rn 1 8 (by decide)
    exact .inl ⟨size23 _ _ _ _ _ _ _ h, by rw [num23]; omega⟩
  · cases wide
    ·
      have b0 := fv_lt (off imm) 2 2048 (by decide)
      exact .inl ⟨size24n _ _ _ _ _ _ h, by rw [num24n]; omega⟩
    ·
      have b0 := fv_lt (off imm) 16777216 2 (by decide)
      have b1 := fv_lt (off imm) 4096 1024 (by decide)
      have b2 := fv_lt (alike (off imm) 23 24) 1 2 (by decide)
      have b3 := fv_lt (alike (off imm) 22 24) 1 2 (by decide)
      have b4 := fv_lt (off imm) 2 2048 (by decide)
      exact .inr ⟨size24w _ _ _ _ _ _ h, by rw [num24w]; omega⟩
  · cases wide
    ·
      have b0 := fv_lt cond 1 16 (by decide)
      have b1 := fv_lt (off imm) 2 256 (by decide)
      exact .inl ⟨size25n _ _ _ _ _ _ h, by rw [num25n]; omega⟩
    ·
      have b0 := fv_lt (off imm) 1048576 2 (by decide)
      have b1 := fv_lt cond 1 16 (by decide)
      have b2 := fv_lt (off imm) 4096 64 (by decide)
      have b3 := fv_lt (off imm) 262144 2 (by decide)
      have b4 := fv_lt (off imm) 524288 2 (by decide)
      have b5 := fv_lt (off imm) 2 2048 (by decide)
      exact .inr ⟨size25w _ _ _ _ _ _ h, by rw [num25w]; omega⟩
end Go.Proofs.Ytennhpfhgbmnfaa.Th
