/-
  Plain mathematics of layer 6: a byte of an image, put in another's place.
-/
import Derived.Test.YtncbgfcmekaniaaImageM
namespace Go.Proofs.Ytncbgfcmekaniaa
open Go.RowKit
set_option linter.unusedVariables false

def Im.put (S : ByteArray) (a : Nat) (b : UInt8) : ByteArray := S.extract 0 a ++ ⟨#[b]⟩ ++ S.extract (a + 1) S.size
theorem Im.app_list (a s : ByteArray) : (a ++ s).data.toList = a.data.toList ++ s.data.toList := by rw [ByteArray.data_append, Array.toList_append]
theorem Im.put_list (S : ByteArray) (a : Nat) (b : UInt8) (h : a < S.size) : (Im.put S a b).data.toList = S.data.toList.set a b := by
  unfold Im.put
  rw [Im.app_list, Im.app_list, Im.ext_list, Im.ext_list, List.drop_zero]
  have hl : S.data.toList.length = S.size := Array.length_toList
  have e1 : (S.data.toList.drop (a + 1)).take (S.size - (a + 1)) = S.data.toList.drop (a + 1) := List.take_of_length_le (by rw [List.length_drop, hl]; exact Nat.le_refl _)
  rw [e1, Nat.sub_zero]
  show List.take a S.data.toList ++ [b] ++ List.drop (a + 1) S.data.toList = _
  rw [List.set_eq_take_append_cons_drop, if_pos (by omega), List.append_assoc]
  rfl
theorem Im.put_size (S : ByteArray) (a : Nat) (b : UInt8) (h : a < S.size) : (Im.put S a b).size = S.size := by
  have e := congrArg List.length (Im.put_list S a b h)
  rw [List.length_set, Array.length_toList, Array.length_toList] at e
  exact e
theorem Im.put_same (S : ByteArray) (a : Nat) (b : UInt8) (h : S.data.toList[a]? = some b) : Im.put S a b = S := by
  obtain ⟨hl, e⟩ := List.getElem?_eq_some_iff.1 h
  have hs : a < S.size := by rw [Array.length_toList] at hl; exact hl
  apply Im.list_ext
  rw [Im.put_list S a b hs, ← e, List.set_getElem_self]
theorem Im.put_get (S : ByteArray) (a : Nat) (b : UInt8) (h : a < S.size) : (Im.put S a b).data.toList[a]? = some b := by
  rw [Im.put_list S a b h, List.getElem?_set_self (by rw [Array.length_toList]; exact h)]
theorem Im.F_get (x : Im.Hd) (c : ByteArray) (a : Nat) (h : a < 64) : (Im.F x ++ c).data.toList[a]? = (Im.fr x 16)[a]? := by
  rw [Im.app_list]
  show (Im.fr x 16 ++ _)[a]? = _
  rw [List.getElem?_append_left (by rw [Im.fr_len]; omega)]
/-- another byte makes another head -/
theorem Im.put_other {x y : Im.Hd} {c : ByteArray} {a : Nat} {b d : UInt8} (ha : a < 64) (hd : (Im.F x ++ c).data.toList[a]? = some d) (hne : b ≠ d) (h : Im.parse (Im.put (Im.F x ++ c) a b) = (y, 0)) : y ≠ x := by
  intro e
  subst e
  have hs : a < (Im.F y ++ c).size := by rw [ByteArray.size_append, Im.F_size]; omega
  obtain ⟨_, _, hF⟩ := Im.forth h
  have h1 := Im.put_get (Im.F y ++ c) a b hs
  rw [← hF, Im.F_get y _ a ha] at h1
  rw [Im.F_get y c a ha, h1] at hd
  exact hne (Option.some.inj hd)
end Go.Proofs.Ytncbgfcmekaniaa
