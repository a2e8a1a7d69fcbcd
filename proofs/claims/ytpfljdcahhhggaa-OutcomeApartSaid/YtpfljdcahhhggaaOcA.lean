/-
  Plain mathematics of layer 10: what a result means.
-/
import Derived.WalkKit
import Derived.Laws.Bits64
import Derived.Test.YtpfljdcahhhggaaMemM
namespace Go.Proofs.Ytpfljdcahhhggaa
open Go.RowKit
set_option linter.unusedVariables false
set_option linter.unusedSimpArgs false

def Oc.kind (h : Bool) (co su : Int) : Int := if h = false then 0 else if co = 3235799053 then 1 else if su = 195890093 then 2 else 3
def Oc.out (h : Bool) (co : Int) (o : ByteArray) : ByteArray := if h = true ∧ co = 3235799053 then o else ⟨#[]⟩
/-- all bytes from k on are 0 -/
def Oc.zero (s : ByteArray) : Bool := s.data.toList.all (fun b => ((b.toNat : Int) == 0))
/-- the sum of all bytes -/
def Oc.sumL (l : List UInt8) : Int := (l.map (fun b => (b.toNat : Int))).sum
def Oc.wiped (co : Int) (o a b : ByteArray) : Bool := decide (co = 0) && Oc.zero o && Oc.zero a && Oc.zero b
theorem Oc.sumL_cons (x : UInt8) (l : List UInt8) : Oc.sumL (x :: l) = x.toNat + Oc.sumL l := rfl
theorem Oc.sumL_append (l m : List UInt8) : Oc.sumL (l ++ m) = Oc.sumL l + Oc.sumL m := by
  induction l with
  | nil => show Oc.sumL m = 0 + Oc.sumL m; omega
  | cons x l ih => rw [List.cons_append, Oc.sumL_cons, Oc.sumL_cons, ih]; omega
theorem Oc.sumL_nn (l : List UInt8) : 0 ≤ Oc.sumL l ∧ Oc.sumL l ≤ 255 * (l.length : Int) := by
  induction l with
  | nil => exact ⟨Int.le_refl _, Int.le_refl _⟩
  | cons x l ih =>
    have := x.toNat_lt
    rw [Oc.sumL_cons, List.length_cons]
    omega
theorem Oc.sumL_zero (l : List UInt8) : (Oc.sumL l == 0) = l.all (fun b => ((b.toNat : Int) == 0)) := by
  induction l with
  | nil => rfl
  | cons x l ih =>
    have h := (Oc.sumL_nn l).1
    rw [List.all_cons, ← ih, Oc.sumL_cons]
    rw [Bool.eq_iff_iff]
    simp only [beq_iff_eq, Bool.and_eq_true]
    omega
theorem Oc.zero_sum (s : ByteArray) : (Oc.sumL s.data.toList == 0) = Oc.zero s := Oc.sumL_zero _
theorem Oc.take_succ (s : ByteArray) (k : Nat) (h : k < s.size) : s.data.toList.take (k + 1) = s.data.toList.take k ++ [s[k]] := by
  rw [List.take_add_one]
  congr 1
  have : s.data.toList[k]? = some s[k] := by rw [List.getElem?_eq_getElem (by simpa using h)]; rfl
  rw [this]; rfl
theorem Oc.take_all (s : ByteArray) (k : Nat) (h : ¬ k < s.size) (hk : k ≤ s.size) : s.data.toList.take k = s.data.toList := List.take_of_length_le (by simp; omega)
theorem Oc.zero_no (s : ByteArray) (k : Nat) (h : k < s.size) (e : ((s[k].toNat : Int) == 0) = false) : Oc.zero s = false := by
  unfold Oc.zero
  rw [List.all_eq_false]
  exact ⟨s[k], by rw [List.mem_iff_getElem?]; exact ⟨k, by rw [List.getElem?_eq_getElem (by simpa using h)]; rfl⟩, by rw [e]; decide⟩
def Oc.slack (i o r : Int) : Int := if Mm.err i o r 0 = 0 then 32 * o + 64 * r + 256 else 0
theorem Oc.small {i o r : Int} (h : Mm.err i o r 0 = 0) : 0 ≤ o ∧ 0 ≤ r ∧ o ≤ 65536 ∧ r ≤ 65536 := by
  unfold Mm.err at h
  split at h
  · rename_i g
    simp only [Bool.and_eq_true, decide_eq_true_eq, Mm.whole] at g
    split at h
    · omega
    · omega
  · omega
def Oc.same (h1 h2 : Bool) (co1 co2 su1 su2 : Int) (o1 o2 : ByteArray) : Bool := (h1 == h2) && (co1 == co2) && (su1 == su2) && (o1.toList == o2.toList)
end Go.Proofs.Ytpfljdcahhhggaa
