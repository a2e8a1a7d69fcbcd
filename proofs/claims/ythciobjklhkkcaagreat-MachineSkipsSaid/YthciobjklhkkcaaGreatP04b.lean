/-
Plain mathematics of layer 6: an image's head and its words. It names nothing of the translated program's numbers.
Plain mathematics of instructions: each one's bits as a sum, how many bytes it has. It names nothing of the translated program.
-/
import Derived.Test.YthciobjklhkkcaaGreatP03a
import Derived.Test.YthciobjklhkkcaaGreatP01a
section
namespace Go.Proofs.YthciobjklhkkcaaGreat
open Go.RowKit
set_option linter.unusedVariables false

/-- a head -/
structure Im.Hd where
 r : Int
 h : Int
 i : Int
 o : Int
 l : Int
 m : Int
 deriving DecidableEq
def Im.zero : Im.Hd := ⟨0, 0, 0, 0, 0, 0⟩
def Im.field (x : Im.Hd) (k : Nat) : Int := if k = 0 then 537133056 else if k = 1 then x.r + 1 else if k = 7 then x.i else if k = 8 then x.o else if k = 9 then x.l else if k = 10 then x.m else x.h + 1
def Im.fr (x : Im.Hd) (k : Nat) : List UInt8 := (List.range k).flatMap fun j => (Wd.bytes (Im.field x j)).data.toList
def Im.F (x : Im.Hd) : ByteArray := ⟨(Im.fr x 16).toArray⟩
def Im.start (a n : Int) : Bool := decide (a % 2 = 0 ∧ 64 ≤ a ∧ a < n)
def Im.err (x : Im.Hd) (n : Int) : Int := if Mm.err x.i x.o x.l n = 0 then (if 0 ≤ x.m ∧ x.m ≤ 2 ∧ Im.start x.r n = true ∧ Im.start x.h n = true then 0 else 2) else Mm.err x.i x.o x.l n
def Im.four (t : ByteArray) : Int := Wd.four (t.data.toList.getD 0 0) (t.data.toList.getD 1 0) (t.data.toList.getD 2 0) (t.data.toList.getD 3 0)
def Im.at (s : ByteArray) (k : Nat) : Int := Im.four (s.extract (4 * k) (4 * k + 4))
def Im.read (s : ByteArray) (j : Nat) : Im.Hd := ⟨Im.at s 1 - 1, Im.at s j - 1, Im.at s 7, Im.at s 8, Im.at s 9, Im.at s 10⟩
def Im.is (s : ByteArray) (j : Nat) : Prop := Im.err (Im.read s j) s.size = 0 ∧ Im.F (Im.read s j) = s.extract 0 64
instance (s : ByteArray) (j : Nat) : Decidable (Im.is s j) := by unfold Im.is; infer_instance
def Im.parse (s : ByteArray) : Im.Hd × Int := if s.size < 64 then (Im.zero, 3) else if Im.is s 2 then (Im.read s 2, 0) else (Im.zero, 4)
def Im.build (x : Im.Hd) (c : ByteArray) : ByteArray × Int := if Im.err x (64 + c.size : Nat) = 0 then (Im.F x ++ c, 0) else (⟨#[]⟩, Im.err x (64 + c.size : Nat))

theorem Im.fr_succ (x : Im.Hd) (k : Nat) : Im.fr x (k + 1) = Im.fr x k ++ (Wd.bytes (Im.field x k)).data.toList := by
 unfold Im.fr
 rw [List.range_succ, List.flatMap_append, List.flatMap_cons, List.flatMap_nil, List.append_nil]
theorem Im.bytes_len (a : Int) : (Wd.bytes a).data.toList.length = 4 := by rw [Wd.bytes_is]; rfl
theorem Im.bytes_size (a : Int) : (Wd.bytes a).size = 4 := by rw [Wd.bytes_is]; rfl
theorem Im.fr_len (x : Im.Hd) (k : Nat) : (Im.fr x k).length = 4 * k := by
 induction k with
 | zero => rfl
 | succ k ih => rw [Im.fr_succ, List.length_append, ih, Im.bytes_len]; omega
theorem Im.F_size (x : Im.Hd) : (Im.F x).size = 64 := by
 show (Im.fr x 16).toArray.size = 64
 rw [List.size_toArray, Im.fr_len]
theorem Im.list_ext {a b : ByteArray} (h : a.data.toList = b.data.toList) : a = b := ByteArray.ext (Array.toList_inj.1 h)
theorem Im.err_ok {x : Im.Hd} {n : Int} (h : Im.err x n = 0) : Mm.err x.i x.o x.l n = 0 ∧ 0 ≤ x.m ∧ x.m ≤ 2 ∧ Im.start x.r n = true ∧ Im.start x.h n = true := by
 unfold Im.err at h
 split at h
 ·rename_i h0
  split at h
  ·rename_i h1; exact ⟨h0, h1⟩
  ·cases h
 ·rename_i h0; exact absurd h h0
theorem Im.mm_ok {i o r f : Int} (h : Mm.err i o r f = 0) : (0 ≤ i ∧ i ≤ 65536) ∧ (0 ≤ o ∧ o ≤ 65536) ∧ (0 ≤ r ∧ r ≤ 65536) ∧ (0 ≤ f ∧ f ≤ 262144) := by
 unfold Mm.err at h
 split at h
 ·rename_i h0
  unfold Mm.whole at h0
  split at h
  ·rename_i h1
   simp only [Bool.and_eq_true, decide_eq_true_eq] at h0
   omega
  ·cases h
 ·cases h
end Go.Proofs.YthciobjklhkkcaaGreat
end
section
namespace Go.Proofs.YthciobjklhkkcaaGreat.Th
open Go.RowKit

theorem or_add (n v t c : Nat) (hv : v < 2 ^ c) (h : n / 2 ^ t % 2 ^ c = 0) : n ||| v * 2 ^ t = n + v * 2 ^ t := by
 have h1 := Nat.div_add_mod n (2 ^ t)
 have h2 := Nat.div_add_mod (n / 2 ^ t) (2 ^ c)
 rw [h, Nat.add_zero] at h2
 have hl : n % 2 ^ t < 2 ^ t := Nat.mod_lt _ (Nat.two_pow_pos t)
 generalize n / 2 ^ t / 2 ^ c = a at *
 generalize n % 2 ^ t = l at *
 rw [← h2, ← Nat.mul_assoc, ← Nat.pow_add] at h1
 rw [← h1]
 have hvl : 2 ^ t * v + l < 2 ^ (t + c) := by
  rw [Nat.pow_add]
  have : 2 ^ t * (v + 1) ≤ 2 ^ t * 2 ^ c := Nat.mul_le_mul_left _ hv
  rw [Nat.mul_add, Nat.mul_one] at this
  omega
 have hl2 : l < 2 ^ (t + c) := by have : 0 ≤ 2 ^ t * v := Nat.zero_le _; omega
 rw [Nat.two_pow_add_eq_or_of_lt hl2, Nat.or_assoc, Nat.mul_comm v, Nat.or_comm l, ← Nat.two_pow_add_eq_or_of_lt hl, ← Nat.two_pow_add_eq_or_of_lt hvl]
 rw [← Nat.two_pow_add_eq_or_of_lt hl2]
 omega
/-- a field's value: the bits of x from those of weight r on, below q -/
def fv (x : Int) (r q : Nat) : Nat := x.toNat / r % q
theorem st (n : Nat) (x : Int) (c f t p q r : Nat) (hp : 2 ^ t = p) (hq : 2 ^ c = q) (hr : 2 ^ f = r) (h : n / p % q = 0) : orStep n ⟨x, c, f, t⟩ = n + fv x r q * p := by
 subst hp; subst hq; subst hr
 exact or_add n _ t c (Nat.mod_lt _ (Nat.two_pow_pos c)) h
end Go.Proofs.YthciobjklhkkcaaGreat.Th
end
