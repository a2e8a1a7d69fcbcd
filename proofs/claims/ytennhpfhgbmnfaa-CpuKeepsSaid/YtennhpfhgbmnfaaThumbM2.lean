/-
  Plain mathematics of instructions: fields that are put into bits, and bytes. It names nothing of the translated program.
-/
import Derived.Test.YtennhpfhgbmnfaaWordM
import Derived.Test.YtennhpfhgbmnfaaThumbM
namespace Go.Proofs.Ytennhpfhgbmnfaa.Th
open Go.RowKit

/-- bits of a number that stand together: so many, from one of the number's bits on, to one of the instruction's bits on -/
structure Fld where
  num : Int
  cnt : Nat
  frm : Nat
  to : Nat
def fval (f : Fld) : Nat := f.num.toNat / 2 ^ f.frm % 2 ^ f.cnt
def orStep (n : Nat) (f : Fld) : Nat := n ||| fval f * 2 ^ f.to
def put (n : Nat) (L : List Fld) : Nat := L.foldl orStep n
def okFld (f : Fld) : Prop := 0 ≤ f.num ∧ f.num < 4294967296 ∧ f.cnt ≤ 16 ∧ f.frm ≤ 31 ∧ f.to ≤ 31 ∧ f.cnt + f.to ≤ 32

theorem and_mask (x c : Nat) (hx : x < 4294967296) (hc : c ≤ 16) : bits .and .i64 (x : Int) (wrap64 (wrap64 (2 ^ c) - 1)) = ((x % 2 ^ c : Nat) : Int) := by
  have hp : (2 : Nat) ^ c ≤ 2 ^ 16 := Nat.pow_le_pow_right (by decide) hc
  have hq := Nat.two_pow_pos c
  have e : wrap64 (wrap64 (2 ^ c) - 1) = ((2 ^ c - 1 : Nat) : Int) := by
    rw [Wd.pow_cast, Wd.wrap64_in ((2 ^ c : Nat) : Int) (by omega) (by omega), Wd.wrap64_in _ (by omega) (by omega)]; omega
  rw [e]
  show IntKind.i64.wrap ((BitVec.ofInt 64 (x : Int) &&& BitVec.ofInt 64 ((2 ^ c - 1 : Nat) : Int)).toNat : Int) = _
  rw [BitVec.toNat_and, Wd.ofInt_toNat, Wd.ofInt_toNat]
  have e1 : ((x : Int) % 18446744073709551616).toNat = x := by omega
  have e2 : (((2 ^ c - 1 : Nat) : Int) % 18446744073709551616).toNat = 2 ^ c - 1 := by omega
  have hm := Nat.mod_le x (2 ^ c)
  rw [e1, e2, Nat.and_two_pow_sub_one_eq_mod, Wd.i64_small _ (by omega)]
theorem fval_lt (f : Fld) (h : okFld f) : fval f * 2 ^ f.to < 4294967296 := by
  obtain ⟨_, _, hc, _, ht, hs⟩ := h
  have h1 : fval f < 2 ^ f.cnt := Nat.mod_lt _ (Nat.two_pow_pos _)
  have h2 : fval f * 2 ^ f.to < 2 ^ f.cnt * 2 ^ f.to := Nat.mul_lt_mul_of_pos_right h1 (Nat.two_pow_pos _)
  have h3 : 2 ^ f.cnt * 2 ^ f.to ≤ 2 ^ 32 := by rw [← Nat.pow_add]; exact Nat.pow_le_pow_right (by decide) hs
  omega
theorem orStep_lt (n : Nat) (f : Fld) (hn : n < 4294967296) (h : okFld f) : orStep n f < 4294967296 := by
  have := fval_lt f h
  exact Nat.or_lt_two_pow (n := 32) hn this
theorem or_step (n : Nat) (f : Fld) (hn : n < 4294967296) (h : okFld f) :
    bits .or .i64 (n : Int) (wrap64 (bits .and .i64 (f.num / 2 ^ f.frm) (wrap64 (wrap64 (2 ^ f.cnt) - 1)) * 2 ^ f.to)) = ((orStep n f : Nat) : Int) := by
  have hv := fval_lt f h
  obtain ⟨h0, h1, hc, hf, ht, hs⟩ := h
  obtain ⟨x, hx⟩ := Int.eq_ofNat_of_zero_le h0
  have hlt : x / 2 ^ f.frm < 4294967296 := by have := Nat.div_le_self x (2 ^ f.frm); omega
  have e1 : f.num / 2 ^ f.frm = ((x / 2 ^ f.frm : Nat) : Int) := by rw [hx, Wd.pow_cast]; rfl
  rw [e1, and_mask _ _ hlt hc]
  have e2 : ((x / 2 ^ f.frm % 2 ^ f.cnt : Nat) : Int) * 2 ^ f.to = ((fval f * 2 ^ f.to : Nat) : Int) := by
    rw [Wd.pow_cast, ← Int.natCast_mul]; unfold fval; rw [hx]; rfl
  rw [e2, Wd.wrap64_in _ (by omega) (by omega), Wd.or_nat _ _ hn hv]
  rfl
theorem put_lt (L : List Fld) : ∀ n, n < 4294967296 → (∀ f ∈ L, okFld f) → put n L < 4294967296 := by
  induction L with
  | nil => intro n hn _; exact hn
  | cons f L ih => intro n hn h; exact ih _ (orStep_lt n f hn (h f (by simp))) (fun g hg => h g (by simp [hg]))
theorem put_cons (n : Nat) (f : Fld) (L : List Fld) : put n (f :: L) = put (orStep n f) L := rfl
/-- bytes of 16 bits, and of 32 -/
def str2 (n : Nat) : ByteArray := strOfNums [(n : Int) % 256, (n : Int) / 256]
def str4 (n : Nat) : ByteArray := strOfNums [(n : Int) / 65536 % 256, (n : Int) / 16777216, (n : Int) % 256, (n : Int) / 256 % 256]
end Go.Proofs.Ytennhpfhgbmnfaa.Th
