/-
  What the small functions of lex and of the document's answer for layer 11 return: a byte's kind.
-/
import Derived.Deep.Slices
import Derived.Lib.Hide
import Derived.WalkKit
import Derived.ProofKit
import Derived.OwnWalk
import Derived.Below
import Derived.LoopN
import Derived.Laws.Cover1
import Derived.Handy
import Derived.Lib.SmallJoins
import Derived.OpenShut
import Derived.Deep.RegionHeld3
import Derived.SizedLaws
import Derived.BigQuiet
import Derived.Lib.TrimByte
import Derived.Test.YtknbnfnibdbokaaDoorRows
import Derived.Test.YtknbnfnibdbokaaDoorLxM
namespace Go.Proofs.YtknbnfnibdbokaaDoor
open Go.ChangeShapes Go.WideShapes Go.ChangeAt Go.RowKit
set_option linter.unusedVariables false
set_option linter.unusedSimpArgs false

/-- a text of bytes -/
def Lx.S (l : List UInt8) : ByteArray := ⟨l.toArray⟩
theorem Lx.S_list (l : List UInt8) : (Lx.S l).data.toList = l := rfl
theorem Lx.S_of (s : ByteArray) : Lx.S s.data.toList = s := by simp [Lx.S]
theorem Lx.S_size (l : List UInt8) : (Lx.S l).size = l.length := by simp [Lx.S, ByteArray.size]
theorem Lx.S_ext (s : ByteArray) (a b : Nat) : s.extract a b = Lx.S ((s.data.toList.drop a).take (b - a)) := by
  rw [← Lx.S_of s]; exact Lib.extract_mk _ a b
theorem Lx.get (s : ByteArray) (k : Nat) (h : k < s.size) : s.data.toList.drop k = s[k] :: s.data.toList.drop (k + 1) := by
  have h' : k < s.data.toList.length := by rw [← Lib.size_eq]; exact h
  rw [List.drop_eq_getElem_cons h']; rfl
theorem Lx.drop_nil (s : ByteArray) (k : Nat) (h : s.size ≤ k) : s.data.toList.drop k = [] := by
  apply List.drop_of_length_le; rw [← Lib.size_eq]; exact h
theorem ret_bool' {a b : Bool} (h : a = b) : Ending.returned (.bool a) = .returned (.bool b) := by rw [h]
theorem ret_int' {k : IntKind} {a b : Int} (h : a = b) : Ending.returned (.int k a) = .returned (.int k b) := by rw [h]
theorem ret_str' {a b : ByteArray} (h : a = b) : Ending.returned (.string a) = .returned (.string b) := by rw [h]
set_option maxHeartbeats 4000000 in
theorem digit_any (b : UInt8) (w : World) :
    Calls Tryd.prog 21 #[.int .u8 b.toNat] w fun e w' => e = .returned (.bool (Lx.digit b)) ∧ w' = w := by
  have HB := Lib.hid b.toNat_lt
  have HR : Hid (Lx.digit b = (decide (48 ≤ b.toNat) && decide (b.toNat ≤ 57))) := Lib.hid rfl
  generalize Lx.digit b = R at HR ⊢
  generalize b.toNat = n at HB HR ⊢
  have HM := Lib.hid HR
  clear HR
  by_cases h1 : 48 ≤ n
  · by_cases h2 : n ≤ 57
    all_goals
      go_enter Tryd.func21, Tryd.ntmps21
      go_wp2
      go_ret
      refine ⟨ret_bool' ?_, rfl⟩
      rw [HM.out.out, Bool.eq_iff_iff]; simp only [Bool.or_eq_true, Bool.and_eq_true, decide_eq_true_eq, Bool.false_eq_true, beq_iff_eq, true_iff, false_iff]; omega
  · go_enter Tryd.func21, Tryd.ntmps21
    go_wp2
    go_ret
    refine ⟨ret_bool' ?_, rfl⟩
    rw [HM.out.out, Bool.eq_iff_iff]; simp only [Bool.or_eq_true, Bool.and_eq_true, decide_eq_true_eq, Bool.false_eq_true, beq_iff_eq, true_iff, false_iff]; omega
set_option maxHeartbeats 4000000 in
theorem rdigit_any (b : UInt8) (w : World) :
    Calls Tryd.prog 27 #[.int .u8 b.toNat] w fun e w' => e = .returned (.bool (Lx.digit b)) ∧ w' = w := by
  have HB := Lib.hid b.toNat_lt
  have HR : Hid (Lx.digit b = (decide (48 ≤ b.toNat) && decide (b.toNat ≤ 57))) := Lib.hid rfl
  generalize Lx.digit b = R at HR ⊢
  generalize b.toNat = n at HB HR ⊢
  have HM := Lib.hid HR
  clear HR
  by_cases h1 : 48 ≤ n
  · by_cases h2 : n ≤ 57
    all_goals
      go_enter Tryd.func27, Tryd.ntmps27
      go_wp2
      go_ret
      refine ⟨ret_bool' ?_, rfl⟩
      rw [HM.out.out, Bool.eq_iff_iff]; simp only [Bool.or_eq_true, Bool.and_eq_true, decide_eq_true_eq, Bool.false_eq_true, beq_iff_eq, true_iff, false_iff]; omega
  · go_enter Tryd.func27, Tryd.ntmps27
    go_wp2
    go_ret
    refine ⟨ret_bool' ?_, rfl⟩
    rw [HM.out.out, Bool.eq_iff_iff]; simp only [Bool.or_eq_true, Bool.and_eq_true, decide_eq_true_eq, Bool.false_eq_true, beq_iff_eq, true_iff, false_iff]; omega
set_option maxHeartbeats 4000000 in
theorem letter_any (b : UInt8) (w : World) :
    Calls Tryd.prog 20 #[.int .u8 b.toNat] w fun e w' => e = .returned (.bool (Lx.letter b)) ∧ w' = w := by
  have HB := Lib.hid b.toNat_lt
  have HR : Hid (Lx.letter b = ((decide (97 ≤ b.toNat) && decide (b.toNat ≤ 122)) || (decide (65 ≤ b.toNat) && decide (b.toNat ≤ 90)) || decide (b.toNat = 95))) := Lib.hid rfl
  generalize Lx.letter b = R at HR ⊢
  generalize b.toNat = n at HB HR ⊢
  have HM := Lib.hid HR
  clear HR
  rcases (by omega : (97 ≤ n ∧ n ≤ 122) ∨ (65 ≤ n ∧ n ≤ 90) ∨ n = 95 ∨ (n < 65 ∧ n ≠ 95) ∨ (91 ≤ n ∧ n ≤ 96 ∧ n ≠ 95) ∨ 123 ≤ n) with h | h | h | h | h | h
  all_goals
    go_enter Tryd.func20, Tryd.ntmps20
    go_wp2
    go_ret
    refine ⟨ret_bool' ?_, rfl⟩
    rw [HM.out.out, Bool.eq_iff_iff]; simp only [Bool.or_eq_true, Bool.and_eq_true, decide_eq_true_eq, Bool.false_eq_true, beq_iff_eq, true_iff, false_iff]; omega
set_option maxHeartbeats 4000000 in
theorem rletter_any (b : UInt8) (w : World) :
    Calls Tryd.prog 26 #[.int .u8 b.toNat] w fun e w' => e = .returned (.bool (Lx.letter b)) ∧ w' = w := by
  have HB := Lib.hid b.toNat_lt
  have HR : Hid (Lx.letter b = ((decide (97 ≤ b.toNat) && decide (b.toNat ≤ 122)) || (decide (65 ≤ b.toNat) && decide (b.toNat ≤ 90)) || decide (b.toNat = 95))) := Lib.hid rfl
  generalize Lx.letter b = R at HR ⊢
  generalize b.toNat = n at HB HR ⊢
  have HM := Lib.hid HR
  clear HR
  rcases (by omega : (97 ≤ n ∧ n ≤ 122) ∨ (65 ≤ n ∧ n ≤ 90) ∨ n = 95 ∨ (n < 65 ∧ n ≠ 95) ∨ (91 ≤ n ∧ n ≤ 96 ∧ n ≠ 95) ∨ 123 ≤ n) with h | h | h | h | h | h
  all_goals
    go_enter Tryd.func26, Tryd.ntmps26
    go_wp2
    go_ret
    refine ⟨ret_bool' ?_, rfl⟩
    rw [HM.out.out, Bool.eq_iff_iff]; simp only [Bool.or_eq_true, Bool.and_eq_true, decide_eq_true_eq, Bool.false_eq_true, beq_iff_eq, true_iff, false_iff]; omega
set_option maxHeartbeats 4000000 in
theorem rblank_any (b : UInt8) (w : World) :
    Calls Tryd.prog 25 #[.int .u8 b.toNat] w fun e w' => e = .returned (.bool (Lx.blank b)) ∧ w' = w := by
  have HB := Lib.hid b.toNat_lt
  have HR : Hid (Lx.blank b = (decide (b.toNat = 32) || decide (b.toNat = 9) || decide (b.toNat = 10) || decide (b.toNat = 13))) := Lib.hid rfl
  generalize Lx.blank b = R at HR ⊢
  generalize b.toNat = n at HB HR ⊢
  have HM := Lib.hid HR
  clear HR
  rcases (by omega : n = 32 ∨ n = 9 ∨ n = 10 ∨ n = 13 ∨ (n ≠ 32 ∧ n ≠ 9 ∧ n ≠ 10 ∧ n ≠ 13)) with h | h | h | h | h
  all_goals
    go_enter Tryd.func25, Tryd.ntmps25
    go_wp2
    go_ret
    refine ⟨ret_bool' ?_, rfl⟩
    rw [HM.out.out, Bool.eq_iff_iff]; simp only [Bool.or_eq_true, Bool.and_eq_true, decide_eq_true_eq, Bool.false_eq_true, beq_iff_eq, true_iff, false_iff]; omega
end Go.Proofs.YtknbnfnibdbokaaDoor
