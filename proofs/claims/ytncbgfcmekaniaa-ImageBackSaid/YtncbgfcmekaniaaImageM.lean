/-
  Plain mathematics of layer 6: an image's head and its words. It names nothing of the translated program's numbers.
-/
import Derived.Test.YtncbgfcmekaniaaImageW
import Derived.Test.YtncbgfcmekaniaaMemM
namespace Go.Proofs.Ytncbgfcmekaniaa
open Go.RowKit
set_option linter.unusedVariables false

/-- a head -/
structure Im.Hd where
  r : Int
  h : Int
  i : Int
  o : Int
  l : Int
  m : Int
  deriving DecidableEq
def Im.zero : Im.Hd := ⟨0, 0, 0, 0, 0, 0⟩
def Im.field (x : Im.Hd) (k : Nat) : Int := if k = 0 then 537133056 else if k = 1 then x.r + 1 else if k = 7 then x.i else if k = 8 then x.o else if k = 9 then x.l else if k = 10 then x.m else x.h + 1
def Im.fr (x : Im.Hd) (k : Nat) : List UInt8 := (List.range k).flatMap fun j => (Wd.bytes (Im.field x j)).data.toList
def Im.F (x : Im.Hd) : ByteArray := ⟨(Im.fr x 16).toArray⟩
def Im.start (a n : Int) : Bool := decide (a % 2 = 0 ∧ 64 ≤ a ∧ a < n)
def Im.err (x : Im.Hd) (n : Int) : Int := if Mm.err x.i x.o x.l n = 0 then (if 0 ≤ x.m ∧ x.m ≤ 2 ∧ Im.start x.r n = true ∧ Im.start x.h n = true then 0 else 2) else Mm.err x.i x.o x.l n
def Im.four (t : ByteArray) : Int := Wd.four (t.data.toList.getD 0 0) (t.data.toList.getD 1 0) (t.data.toList.getD 2 0) (t.data.toList.getD 3 0)
def Im.at (s : ByteArray) (k : Nat) : Int := Im.four (s.extract (4 * k) (4 * k + 4))
def Im.read (s : ByteArray) (j : Nat) : Im.Hd := ⟨Im.at s 1 - 1, Im.at s j - 1, Im.at s 7, Im.at s 8, Im.at s 9, Im.at s 10⟩
def Im.is (s : ByteArray) (j : Nat) : Prop := Im.err (Im.read s j) s.size = 0 ∧ Im.F (Im.read s j) = s.extract 0 64
instance (s : ByteArray) (j : Nat) : Decidable (Im.is s j) := by unfold Im.is; infer_instance
def Im.parse (s : ByteArray) : Im.Hd × Int := if s.size < 64 then (Im.zero, 3) else if Im.is s 2 then (Im.read s 2, 0) else (Im.zero, 4)
def Im.build (x : Im.Hd) (c : ByteArray) : ByteArray × Int := if Im.err x (64 + c.size : Nat) = 0 then (Im.F x ++ c, 0) else (⟨#[]⟩, Im.err x (64 + c.size : Nat))

theorem Im.fr_succ (x : Im.Hd) (k : Nat) : Im.fr x (k + 1) = Im.fr x k ++ (Wd.bytes (Im.field x k)).data.toList := by
  unfold Im.fr
  rw [List.range_succ, List.flatMap_append, List.flatMap_cons, List.flatMap_nil, List.append_nil]
theorem Im.bytes_len (a : Int) : (Wd.bytes a).data.toList.length = 4 := by rw [Wd.bytes_is]; rfl
theorem Im.bytes_size (a : Int) : (Wd.bytes a).size = 4 := by rw [Wd.bytes_is]; rfl
theorem Im.fr_len (x : Im.Hd) (k : Nat) : (Im.fr x k).length = 4 * k := by
  induction k with
  | zero => rfl
  | succ k ih => rw [Im.fr_succ, List.length_append, ih, Im.bytes_len]; omega
theorem Im.F_size (x : Im.Hd) : (Im.F x).size = 64 := by
  show (Im.fr x 16).toArray.size = 64
  rw [List.size_toArray, Im.fr_len]
theorem Im.fr_word (x : Im.Hd) (n k : Nat) (hk : k < n) (t : List UInt8) : ((Im.fr x n ++ t).drop (4 * k)).take 4 = (Wd.bytes (Im.field x k)).data.toList := by
  induction n generalizing t with
  | zero => omega
  | succ n ih =>
    rw [Im.fr_succ, List.append_assoc]
    by_cases h : k < n
    · exact ih h _
    · obtain rfl : k = n := by omega
      rw [← Im.fr_len x k, List.drop_left]
      have := Im.bytes_len (Im.field x k)
      rw [← this, List.take_left]
theorem Im.four_bytes (a : Int) : Im.four (Wd.bytes a) = Wd.wrap a := by
  unfold Im.four
  rw [Wd.bytes_is]
  exact Wd.four_back a
theorem Im.ext_list (s : ByteArray) (a b : Nat) : (s.extract a b).data.toList = (s.data.toList.drop a).take (b - a) := by
  rw [ByteArray.data_extract, Array.toList_extract, List.extract_eq_take_drop]
theorem Im.list_ext {a b : ByteArray} (h : a.data.toList = b.data.toList) : a = b := ByteArray.ext (Array.toList_inj.1 h)
theorem Im.at_F (x : Im.Hd) (c : ByteArray) (k : Nat) (hk : k < 16) : Im.at (Im.F x ++ c) k = Wd.wrap (Im.field x k) := by
  unfold Im.at
  rw [← Im.four_bytes]
  congr 1
  apply Im.list_ext
  rw [Im.ext_list, ByteArray.data_append, Array.toList_append]
  show (List.drop (4 * k) (Im.fr x 16 ++ _)).take (4 * k + 4 - 4 * k) = _
  rw [show 4 * k + 4 - 4 * k = 4 by omega]
  exact Im.fr_word x 16 k hk _
theorem Im.cut (s : ByteArray) (h : 64 ≤ s.size) : s.extract 0 64 ++ s.extract 64 s.size = s := by
  apply Im.list_ext
  rw [ByteArray.data_append, Array.toList_append, Im.ext_list, Im.ext_list, List.drop_zero]
  rw [List.take_of_length_le (l := List.drop 64 _)]
  · exact List.take_append_drop _ _
  · rw [List.length_drop]; exact Nat.le_refl _
theorem Im.err_ok {x : Im.Hd} {n : Int} (h : Im.err x n = 0) : Mm.err x.i x.o x.l n = 0 ∧ 0 ≤ x.m ∧ x.m ≤ 2 ∧ Im.start x.r n = true ∧ Im.start x.h n = true := by
  unfold Im.err at h
  split at h
  · rename_i h0
    split at h
    · rename_i h1; exact ⟨h0, h1⟩
    · cases h
  · rename_i h0; exact absurd h h0
theorem Im.mm_ok {i o r f : Int} (h : Mm.err i o r f = 0) : (0 ≤ i ∧ i ≤ 65536) ∧ (0 ≤ o ∧ o ≤ 65536) ∧ (0 ≤ r ∧ r ≤ 65536) ∧ (0 ≤ f ∧ f ≤ 262144) := by
  unfold Mm.err at h
  split at h
  · rename_i h0
    unfold Mm.whole at h0
    split at h
    · rename_i h1
      simp only [Bool.and_eq_true, decide_eq_true_eq] at h0
      omega
    · cases h
  · cases h
theorem Im.field_bd {x : Im.Hd} {n : Int} (h : Im.err x n = 0) (k : Nat) : Wd.wrap (Im.field x k) = Im.field x k := by
  obtain ⟨h0, m0, m1, hr, hh⟩ := Im.err_ok h
  have hb := Im.mm_ok h0
  unfold Im.start at hr hh
  rw [decide_eq_true_eq] at hr hh
  unfold Im.field Wd.wrap
  repeat' split
  all_goals omega
theorem Im.read_F {x : Im.Hd} {n : Int} (h : Im.err x n = 0) (c : ByteArray) (j : Nat) (hj : j = 2 ∨ j = 3) : Im.read (Im.F x ++ c) j = x := by
  have e : ∀ k, k < 16 → Im.at (Im.F x ++ c) k = Im.field x k := fun k hk => by rw [Im.at_F x c k hk, Im.field_bd h]
  unfold Im.read
  rw [e 1 (by decide), e 7 (by decide), e 8 (by decide), e 9 (by decide), e 10 (by decide)]
  have ej : Im.at (Im.F x ++ c) j = x.h + 1 := by rcases hj with rfl | rfl <;> (rw [e _ (by decide)]; rfl)
  rw [ej]
  show (⟨x.r + 1 - 1, x.h + 1 - 1, x.i, x.o, x.l, x.m⟩ : Im.Hd) = x
  rw [Int.add_sub_cancel, Int.add_sub_cancel]
theorem Im.is_turn {s : ByteArray} (hs : 64 ≤ s.size) {j k : Nat} (hk : k = 2 ∨ k = 3) (h : Im.is s j) : Im.read s k = Im.read s j := by
  obtain ⟨h0, h1⟩ := h
  have hF : Im.F (Im.read s j) ++ s.extract 64 s.size = s := by rw [h1]; exact Im.cut s hs
  have := Im.read_F h0 (s.extract 64 s.size) k hk
  rw [hF] at this
  exact this
theorem Im.is_both {s : ByteArray} (hs : 64 ≤ s.size) : Im.is s 2 ↔ Im.is s 3 := by
  constructor
  · intro h; unfold Im.is; rw [Im.is_turn hs (k := 3) (.inr rfl) h]; exact h
  · intro h; unfold Im.is; rw [Im.is_turn hs (k := 2) (.inl rfl) h]; exact h
theorem Im.F_whole {s : ByteArray} (hs : 64 ≤ s.size) (x : Im.Hd) : Im.F x ++ s.extract 64 s.size = s ↔ Im.F x = s.extract 0 64 := by
  constructor
  · intro h
    have h1 : (Im.F x ++ s.extract 64 s.size).extract 0 64 = s.extract 0 64 := by rw [h]
    rw [← h1]
    apply Im.list_ext
    rw [Im.ext_list, ByteArray.data_append, Array.toList_append, List.drop_zero]
    show (Im.fr x 16) = List.take 64 (Im.fr x 16 ++ _)
    have := Im.fr_len x 16
    rw [show (64 : Nat) = (Im.fr x 16).length by omega, List.take_left]
  · intro h; rw [h]; exact Im.cut s hs
theorem Im.parse_3 (s : ByteArray) : Im.parse s = if s.size < 64 then (Im.zero, 3) else if Im.is s 3 then (Im.read s 3, 0) else (Im.zero, 4) := by
  unfold Im.parse
  by_cases hs : s.size < 64
  · rw [if_pos hs, if_pos hs]
  · rw [if_neg hs, if_neg hs]
    by_cases h : Im.is s 2
    · rw [if_pos h, if_pos ((Im.is_both (by omega)).1 h), Im.is_turn (by omega) (k := 3) (.inr rfl) h]
    · rw [if_neg h, if_neg (fun g => h ((Im.is_both (by omega)).2 g))]
/-- what is built is parsed as the head -/
theorem Im.back {x : Im.Hd} {c : ByteArray} (h : Im.err x (64 + c.size : Nat) = 0) : Im.parse (Im.F x ++ c) = (x, 0) := by
  have hz : (Im.F x ++ c).size = 64 + c.size := by rw [ByteArray.size_append, Im.F_size]
  unfold Im.parse
  rw [if_neg (by omega)]
  have hr := Im.read_F h c 2 (.inl rfl)
  rw [hr, if_pos]
  unfold Im.is
  rw [hr, hz]
  refine ⟨h, ?_⟩
  apply Im.list_ext
  rw [Im.ext_list, ByteArray.data_append, Array.toList_append, List.drop_zero]
  show (Im.fr x 16) = List.take 64 (Im.fr x 16 ++ _)
  have := Im.fr_len x 16
  rw [show (64 : Nat) = (Im.fr x 16).length by omega, List.take_left]
/-- what is parsed is built -/
theorem Im.forth {s : ByteArray} {x : Im.Hd} (h : Im.parse s = (x, 0)) : 64 ≤ s.size ∧ Im.err x (64 + (s.extract 64 s.size).size : Nat) = 0 ∧ Im.F x ++ s.extract 64 s.size = s := by
  unfold Im.parse at h
  split at h
  · cases (Prod.mk.inj h).2
  · rename_i hs
    split at h
    · rename_i hi
      obtain ⟨rfl, -⟩ := Prod.mk.inj h
      have hz : 64 + (s.extract 64 s.size).size = s.size := by rw [ByteArray.size_extract]; omega
      refine ⟨by omega, by rw [hz]; exact hi.1, (Im.F_whole (by omega) _).2 hi.2⟩
    · cases (Prod.mk.inj h).2
theorem Im.parse_no {s : ByteArray} (h : (Im.parse s).2 ≠ 0) : (Im.parse s).1 = Im.zero := by
  unfold Im.parse at h ⊢
  split
  · rfl
  · split
    · rename_i h1 h2; rw [if_neg h1, if_pos h2] at h; exact absurd rfl h
    · rfl
end Go.Proofs.Ytncbgfcmekaniaa
