/-
The reader's labels, types and parameters.
What find tells of a sign between two: the table, looked through.
-/
import Derived.Test.YtjfdcnggnldgdaaGreatDoorP15a
section
namespace Go.Proofs.YtjfdcnggnldgdaaGreatDoor
open Go.ChangeShapes Go.WideShapes Go.ChangeAt Go.RowKit
set_option linter.unusedVariables false
set_option linter.unusedSimpArgs false

def Sx.scal (L : List Lx.Tok) (σ : Sx.R) : Int × Sx.R := if (Sx.may L Sx.wMask σ).1 then (1, (Sx.may L Sx.wMask σ).2) else (0, Sx.eat L Sx.wU32 (Sx.may L Sx.wMask σ).2)
def Sx.elems (L : List Lx.Tok) (σ : Sx.R) : (Int × Int) × Sx.R :=
  if (Sx.may L Sx.wU8 σ).1 then ((2, (Sx.brackets L (Sx.may L Sx.wU8 σ).2).1), (Sx.brackets L (Sx.may L Sx.wU8 σ).2).2)
  else if decide ((Sx.scal L (Sx.may L Sx.wU8 σ).2).1 = 0) && Sx.sees L [91] (Sx.scal L (Sx.may L Sx.wU8 σ).2).2 then (((Sx.scal L (Sx.may L Sx.wU8 σ).2).1, (Sx.brackets L (Sx.scal L (Sx.may L Sx.wU8 σ).2).2).1), (Sx.brackets L (Sx.scal L (Sx.may L Sx.wU8 σ).2).2).2)
  else (((Sx.scal L (Sx.may L Sx.wU8 σ).2).1, 0), (Sx.scal L (Sx.may L Sx.wU8 σ).2).2)
theorem Sx.type_scal (L : List Lx.Tok) (lab : Int) (σ : Sx.R) : Sx.type L true lab σ = (⟨(Sx.scal L σ).1, 0, lab⟩, (Sx.scal L σ).2) := by
  unfold Sx.type Sx.scal
  split
  · rfl
  · simp
theorem Sx.may_no {L : List Lx.Tok} {s : List UInt8} {σ : Sx.R} (h : Sx.sees L s σ = false) : Sx.may L s σ = (false, σ) := by unfold Sx.may; rw [if_neg (by rw [h]; decide)]
theorem Sx.may_is {L : List Lx.Tok} {s : List UInt8} {σ : Sx.R} (h : Sx.sees L s σ = true) : Sx.may L s σ = (true, { σ with at' := σ.at' + 1 }) := by unfold Sx.may; rw [if_pos h]
theorem Sx.sees_two {L : List Lx.Tok} {s t : List UInt8} {σ : Sx.R} (h : Sx.sees L s σ = true) (hne : s ≠ t) : Sx.sees L t σ = false := by
  obtain ⟨h1, h2⟩ := Sx.sees_text h
  unfold Sx.sees
  rw [h2, decide_eq_false hne, Bool.and_false]
theorem Sx.type_elems (L : List Lx.Tok) (lab : Int) (σ : Sx.R) : Sx.type L false lab σ = (⟨(Sx.elems L σ).1.1, (Sx.elems L σ).1.2, lab⟩, (Sx.elems L σ).2) := by
  unfold Sx.type Sx.elems Sx.scal
  cases hm : Sx.sees L Sx.wMask σ
  · cases hu : Sx.sees L Sx.wU8 σ
    · simp only [Sx.may_no hm, Sx.may_no hu]
      cases h : Sx.sees L [91] (Sx.eat L Sx.wU32 σ) <;> simp [h]
    · simp only [Sx.may_no hm, Sx.may_is hu]
      simp
  · have hu := Sx.sees_two (t := Sx.wU8) hm (by decide)
    simp only [Sx.may_is hm, Sx.may_no hu]
    simp
theorem Sx.num_pk (L : List Lx.Tok) (σ : Sx.R) : (if (Sx.tk L σ).num = 0 then Sx.wrong L 10 σ else σ) = if (Sx.pk L σ).num = 0 then Sx.wrong L 10 σ else σ := by
  by_cases he : σ.err = 0
  · rw [Sx.pk_tk he]
  · rw [Sx.wrong_no he]; simp
theorem tyZ : Zero 47 #[.int .i64 0, .int .i64 0, .int .i64 0] := by unfold Zero; kernel_rfl
theorem tyT : StructT 47 3 := ⟨⟨_, Tryz.underlying47⟩, by kernel_rfl⟩
theorem fits3i (x y z : Int) : Fits 3 #[.int .i64 x, .int .i64 y, .int .i64 z] := ⟨rfl, by simp [Value.oneCell']⟩
abbrev paA (p : Int) (n : ByteArray) (e l b : Int) (o : Bool) : Array Value := #[.int .i64 p, .string n, .int .i64 e, .int .i64 l, .int .i64 b, .bool o]
theorem paZ : Zero 81 (paA 0 ⟨#[]⟩ 0 0 0 false) := by unfold Zero; kernel_rfl
theorem paT : StructT 81 6 := ⟨⟨_, Tryz.underlying81⟩, by kernel_rfl⟩
theorem fitsP (p : Int) (n : ByteArray) (e l b : Int) (o : Bool) : Fits 6 (paA p n e l b o) := ⟨rfl, by simp [Value.oneCell']⟩
set_option maxHeartbeats 8000000 in
set_option maxRecDepth 100000 in
theorem label_fn (b : Nat) (L : List Lx.Tok) (hL : Sx.Ok L) (σ : Sx.R) : Fn 122 #[.pointer (some ⟨b, 0, none⟩)] [rd b L σ]
    fun e J => e = .returned (.int .i64 (Sx.label L σ).1) ∧ J = [rd b L (Sx.label L σ).2] := by
  intro w P hP h0
  have HS := Lib.hid (St.start hP h0)
  have C1 := Lib.hid (may_fn b L hL σ Sx.wSec (by decide))
  have C2 := Lib.hid (want_fn b L hL (Sx.may L Sx.wSec σ).2 Sx.wPub (by decide))
  clear h0 hP hL
  unfold Sx.label
  cases h : (Sx.may L Sx.wSec σ).1
  · rw [h] at C1
    clear h
    go_enter Tryz.func122, Tryz.ntmps122
    go_wp2_with (first
      | (go_at_call 121; refine (HS.out.call1 C1.out).mono ?_; rintro e w1 ⟨J, ⟨rfl, rfl⟩, hs⟩; simp only [List.cons_append, List.nil_append] at hs; have HS1 := Lib.hid hs; clear hs)
      | (go_at_call 117; refine (HS1.out.call1 C2.out).mono ?_; rintro e w2 ⟨J, ⟨rfl, rfl⟩, hs⟩; simp only [List.cons_append, List.nil_append] at hs; have HS2 := Lib.hid hs; clear hs))
    go_ret
    exact ⟨_, ⟨rfl, rfl⟩, HS2.out⟩
  · rw [h] at C1
    clear h
    go_enter Tryz.func122, Tryz.ntmps122
    go_wp2_with (first
      | (go_at_call 121; refine (HS.out.call1 C1.out).mono ?_; rintro e w1 ⟨J, ⟨rfl, rfl⟩, hs⟩; simp only [List.cons_append, List.nil_append] at hs; have HS1 := Lib.hid hs; clear hs))
    go_ret
    exact ⟨_, ⟨rfl, rfl⟩, HS1.out⟩
set_option maxHeartbeats 8000000 in
set_option maxRecDepth 100000 in
theorem scalar_fn (b : Nat) (L : List Lx.Tok) (hL : Sx.Ok L) (σ : Sx.R) : Fn 123 #[.pointer (some ⟨b, 0, none⟩)] [rd b L σ]
    fun e J => e = .returned (.int .i64 (Sx.scal L σ).1) ∧ J = [rd b L (Sx.scal L σ).2] := by
  intro w P hP h0
  have HS := Lib.hid (St.start hP h0)
  have C1 := Lib.hid (may_fn b L hL σ Sx.wMask (by decide))
  have C2 := Lib.hid (want_fn b L hL (Sx.may L Sx.wMask σ).2 Sx.wU32 (by decide))
  clear h0 hP hL
  unfold Sx.scal
  cases h : (Sx.may L Sx.wMask σ).1
  · rw [h] at C1
    clear h
    go_enter Tryz.func123, Tryz.ntmps123
    go_wp2_with (first
      | (go_at_call 121; refine (HS.out.call1 C1.out).mono ?_; rintro e w1 ⟨J, ⟨rfl, rfl⟩, hs⟩; simp only [List.cons_append, List.nil_append] at hs; have HS1 := Lib.hid hs; clear hs)
      | (go_at_call 117; refine (HS1.out.call1 C2.out).mono ?_; rintro e w2 ⟨J, ⟨rfl, rfl⟩, hs⟩; simp only [List.cons_append, List.nil_append] at hs; have HS2 := Lib.hid hs; clear hs))
    go_ret
    exact ⟨_, ⟨rfl, rfl⟩, HS2.out⟩
  · rw [h] at C1
    clear h
    go_enter Tryz.func123, Tryz.ntmps123
    go_wp2_with (first
      | (go_at_call 121; refine (HS.out.call1 C1.out).mono ?_; rintro e w1 ⟨J, ⟨rfl, rfl⟩, hs⟩; simp only [List.cons_append, List.nil_append] at hs; have HS1 := Lib.hid hs; clear hs))
    go_ret
    exact ⟨_, ⟨rfl, rfl⟩, HS1.out⟩
set_option maxHeartbeats 8000000 in
set_option maxRecDepth 100000 in
theorem length_fn (b : Nat) (L : List Lx.Tok) (hL : Sx.Ok L) (σ : Sx.R) : Fn 242 #[.pointer (some ⟨b, 0, none⟩)] [rd b L σ]
    fun e J => e = .returned (.int .i64 (Sx.brackets L σ).1) ∧ J = [rd b L (Sx.brackets L σ).2] := by
  intro w P hP h0
  have HS := Lib.hid (St.start hP h0)
  have C1 := Lib.hid (want_fn b L hL σ [91] (by decide))
  have C2 := Lib.hid (next_fn b L (Sx.eat L [91] σ))
  have C3 := Lib.hid (fail_fn b L (Sx.eat L [91] σ) 10 (by decide))
  have hF2 := tokF2
  unfold Sx.brackets
  simp only []
  rw [Sx.num_pk]
  by_cases h : (Sx.pk L (Sx.eat L [91] σ)).num = 0
  · rw [if_pos h]
    have C4 := Lib.hid (take_fn b L hL (Sx.wrong L 10 (Sx.eat L [91] σ)) 2 (by decide))
    have C5 := Lib.hid (want_fn b L hL (Sx.some L 2 (Sx.wrong L 10 (Sx.eat L [91] σ))).2 [93] (by decide))
    clear h0 hP hL
    go_enter Tryz.func242, Tryz.ntmps242
    go_wp2_with (first
      | (go_at_call 117; first | (refine (HS.out.call1 C1.out).mono ?_; rintro e w1 ⟨J, ⟨rfl, rfl⟩, hs⟩; simp only [List.cons_append, List.nil_append] at hs; have HS1 := Lib.hid hs; clear hs) | (refine (HS4.out.call1 C5.out).mono ?_; rintro e w5 ⟨J, ⟨rfl, rfl⟩, hs⟩; simp only [List.cons_append, List.nil_append] at hs; have HS5 := Lib.hid hs; clear hs))
      | (go_at_call 61; refine (HS1.out.call1 C2.out).mono ?_; rintro e w2 ⟨J, ⟨rfl, rfl⟩, hs⟩; simp only [List.cons_append, List.nil_append] at hs; have HS2 := Lib.hid hs; clear hs)
      | (go_at_call 178; refine (HS2.out.call1 C3.out).mono ?_; rintro e w3 ⟨J, ⟨rfl, rfl⟩, hs⟩; simp only [List.cons_append, List.nil_append] at hs; have HS3 := Lib.hid hs; clear hs)
      | (go_at_call 118; refine (HS3.out.call1 C4.out).mono ?_; rintro e w4 ⟨J, ⟨rfl, rfl⟩, hs⟩; simp only [List.cons_append, List.nil_append] at hs; have HS4 := Lib.hid hs; clear hs))
    go_ret
    exact ⟨_, ⟨rfl, rfl⟩, HS5.out⟩
  · rw [if_neg h]
    have C4 := Lib.hid (take_fn b L hL (Sx.eat L [91] σ) 2 (by decide))
    have C5 := Lib.hid (want_fn b L hL (Sx.some L 2 (Sx.eat L [91] σ)).2 [93] (by decide))
    clear h0 hP hL
    go_enter Tryz.func242, Tryz.ntmps242
    go_wp2_with (first
      | (go_at_call 117; first | (refine (HS.out.call1 C1.out).mono ?_; rintro e w1 ⟨J, ⟨rfl, rfl⟩, hs⟩; simp only [List.cons_append, List.nil_append] at hs; have HS1 := Lib.hid hs; clear hs) | (refine (HS4.out.call1 C5.out).mono ?_; rintro e w5 ⟨J, ⟨rfl, rfl⟩, hs⟩; simp only [List.cons_append, List.nil_append] at hs; have HS5 := Lib.hid hs; clear hs))
      | (go_at_call 61; refine (HS1.out.call1 C2.out).mono ?_; rintro e w2 ⟨J, ⟨rfl, rfl⟩, hs⟩; simp only [List.cons_append, List.nil_append] at hs; have HS2 := Lib.hid hs; clear hs)
      | (go_at_call 118; refine (HS2.out.call1 C4.out).mono ?_; rintro e w4 ⟨J, ⟨rfl, rfl⟩, hs⟩; simp only [List.cons_append, List.nil_append] at hs; have HS4 := Lib.hid hs; clear hs))
    go_ret
    exact ⟨_, ⟨rfl, rfl⟩, HS5.out⟩
set_option maxHeartbeats 8000000 in
set_option maxRecDepth 100000 in
theorem elements_fn (b : Nat) (L : List Lx.Tok) (hL : Sx.Ok L) (σ : Sx.R) : Fn 211 #[.pointer (some ⟨b, 0, none⟩)] [rd b L σ]
    fun e J => e = .returned (.agg #[.int .i64 (Sx.elems L σ).1.1, .int .i64 (Sx.elems L σ).1.2, .int .i64 0]) ∧ J = [rd b L (Sx.elems L σ).2] := by
  intro w P hP h0
  have HS := Lib.hid (St.start hP h0)
  have C1 := Lib.hid (may_fn b L hL σ Sx.wU8 (by decide))
  unfold Sx.elems
  cases hu : (Sx.may L Sx.wU8 σ).1
  · rw [hu] at C1
    have C2 := Lib.hid (scalar_fn b L hL (Sx.may L Sx.wU8 σ).2)
    generalize Sx.scal L (Sx.may L Sx.wU8 σ).2 = s at C2 ⊢
    obtain ⟨s1, s2⟩ := s
    have C3 := Lib.hid (is_fn b L hL s2 [91] (by decide))
    have C4 := Lib.hid (length_fn b L hL s2)
    clear hu h0 hP hL
    simp only [] at C2 ⊢
    by_cases h1 : s1 = 0
    · subst h1
      cases h2 : Sx.sees L [91] s2
      · rw [h2] at C3
        rw [if_neg (by decide), if_neg (by simp)]
        clear h2
        go_enter Tryz.func211, Tryz.ntmps211
        go_wp2_with (first
          | (refine wpl_alloc HS.out _ rfl tyZ ?_; intro b1 w1 HS1)
          | (go_at_call 121; refine (HS1.out.call1 C1.out).mono ?_; rintro e w2 ⟨J, ⟨rfl, rfl⟩, hs⟩; simp only [List.cons_append, List.nil_append] at hs; have HS2 := Lib.hid hs; clear hs)
          | (go_at_call 123; refine (HS2.out.call1 C2.out).mono ?_; rintro e w3 ⟨J, ⟨rfl, rfl⟩, hs⟩; simp only [List.cons_append, List.nil_append] at hs; have HS3 := Lib.hid hs; clear hs)
          | (refine wpl_alloc HS3.out _ rfl tyZ ?_; intro b2 w4 HS4)
          | (refine wpl_storeS HS4.out 1 rfl rfl tyT rfl (fits3i _ _ _) ?_; intro w5 hs; have HS5 := Lib.hid (show St _ _ _ (_ :: _ :: _ :: []) from hs.out); clear hs)
          | (refine wpl_load HS5.out 1 rfl rfl intO rfl ?_)
          | (go_at_call 180; refine (HS5.out.call1 C3.out).mono ?_; rintro e w6 ⟨J, ⟨rfl, rfl⟩, hs⟩; simp only [List.cons_append, List.nil_append] at hs; have HS6 := Lib.hid hs; clear hs)
          | (refine wpl_loadS HS6.out 1 rfl rfl tyT rfl ?_)
          | (refine wpl_storeS HS6.out 2 rfl rfl tyT rfl (fits3i _ _ _) ?_; intro w9 hs; have HS9 := Lib.hid (show St _ _ _ (_ :: _ :: _ :: []) from hs.out); clear hs))
        refine bp_cell HS9.out 2 tyT rfl rfl rfl rfl rfl ⟨_, ⟨rfl, rfl⟩, HS9.out.sel [0] rfl⟩
      · rw [h2] at C3
        rw [if_neg (by decide), if_pos (by simp)]
        clear h2
        go_enter Tryz.func211, Tryz.ntmps211
        go_wp2_with (first
          | (refine wpl_alloc HS.out _ rfl tyZ ?_; intro b1 w1 HS1)
          | (go_at_call 121; refine (HS1.out.call1 C1.out).mono ?_; rintro e w2 ⟨J, ⟨rfl, rfl⟩, hs⟩; simp only [List.cons_append, List.nil_append] at hs; have HS2 := Lib.hid hs; clear hs)
          | (go_at_call 123; refine (HS2.out.call1 C2.out).mono ?_; rintro e w3 ⟨J, ⟨rfl, rfl⟩, hs⟩; simp only [List.cons_append, List.nil_append] at hs; have HS3 := Lib.hid hs; clear hs)
          | (refine wpl_alloc HS3.out _ rfl tyZ ?_; intro b2 w4 HS4)
          | (refine wpl_storeS HS4.out 1 rfl rfl tyT rfl (fits3i _ _ _) ?_; intro w5 hs; have HS5 := Lib.hid (show St _ _ _ (_ :: _ :: _ :: []) from hs.out); clear hs)
          | (refine wpl_load HS5.out 1 rfl rfl intO rfl ?_)
          | (go_at_call 180; refine (HS5.out.call1 C3.out).mono ?_; rintro e w6 ⟨J, ⟨rfl, rfl⟩, hs⟩; simp only [List.cons_append, List.nil_append] at hs; have HS6 := Lib.hid hs; clear hs)
          | (go_at_call 242; refine (HS6.out.call1 C4.out).mono ?_; rintro e w7 ⟨J, ⟨rfl, rfl⟩, hs⟩; simp only [List.cons_append, List.nil_append] at hs; have HS7 := Lib.hid hs; clear hs)
          | (refine wpl_store HS7.out 1 rfl rfl intO (of_decide_eq_true rfl) rfl ?_; intro w8 hs; have HS8 := Lib.hid (show St _ _ _ (_ :: _ :: _ :: []) from hs.out); clear hs)
          | (refine wpl_loadS HS8.out 1 rfl rfl tyT rfl ?_)
          | (refine wpl_storeS HS8.out 2 rfl rfl tyT rfl (fits3i _ _ _) ?_; intro w9 hs; have HS9 := Lib.hid (show St _ _ _ (_ :: _ :: _ :: []) from hs.out); clear hs))
        refine bp_cell HS9.out 2 tyT rfl rfl rfl rfl rfl ⟨_, ⟨rfl, rfl⟩, HS9.out.sel [0] rfl⟩
    · rw [if_neg (by decide), if_neg (by simp [h1])]
      go_enter Tryz.func211, Tryz.ntmps211
      go_wp2_with (first
        | (refine wpl_alloc HS.out _ rfl tyZ ?_; intro b1 w1 HS1)
        | (go_at_call 121; refine (HS1.out.call1 C1.out).mono ?_; rintro e w2 ⟨J, ⟨rfl, rfl⟩, hs⟩; simp only [List.cons_append, List.nil_append] at hs; have HS2 := Lib.hid hs; clear hs)
        | (go_at_call 123; refine (HS2.out.call1 C2.out).mono ?_; rintro e w3 ⟨J, ⟨rfl, rfl⟩, hs⟩; simp only [List.cons_append, List.nil_append] at hs; have HS3 := Lib.hid hs; clear hs)
        | (refine wpl_alloc HS3.out _ rfl tyZ ?_; intro b2 w4 HS4)
        | (refine wpl_storeS HS4.out 1 rfl rfl tyT rfl (fits3i _ _ _) ?_; intro w5 hs; have HS5 := Lib.hid (show St _ _ _ (_ :: _ :: _ :: []) from hs.out); clear hs)
        | (refine wpl_load HS5.out 1 rfl rfl intO rfl ?_)
        | (refine wpl_loadS HS5.out 1 rfl rfl tyT rfl ?_)
        | (refine wpl_storeS HS5.out 2 rfl rfl tyT rfl (fits3i _ _ _) ?_; intro w9 hs; have HS9 := Lib.hid (show St _ _ _ (_ :: _ :: _ :: []) from hs.out); clear hs))
      refine bp_cell HS9.out 2 tyT rfl rfl rfl rfl rfl ⟨_, ⟨rfl, rfl⟩, HS9.out.sel [0] rfl⟩
  · rw [hu] at C1
    have C2 := Lib.hid (length_fn b L hL (Sx.may L Sx.wU8 σ).2)
    rw [if_pos rfl]
    clear hu h0 hP hL
    go_enter Tryz.func211, Tryz.ntmps211
    go_wp2_with (first
      | (refine wpl_alloc HS.out _ rfl tyZ ?_; intro b1 w1 HS1)
      | (go_at_call 121; refine (HS1.out.call1 C1.out).mono ?_; rintro e w2 ⟨J, ⟨rfl, rfl⟩, hs⟩; simp only [List.cons_append, List.nil_append] at hs; have HS2 := Lib.hid hs; clear hs)
      | (go_at_call 242; refine (HS2.out.call1 C2.out).mono ?_; rintro e w3 ⟨J, ⟨rfl, rfl⟩, hs⟩; simp only [List.cons_append, List.nil_append] at hs; have HS3 := Lib.hid hs; clear hs)
      | (refine wpl_storeS HS3.out 1 rfl rfl tyT rfl (fits3i _ _ _) ?_; intro w9 hs; have HS9 := Lib.hid (show St _ _ _ (_ :: _ :: []) from hs.out); clear hs))
    refine bp_cell HS9.out 1 tyT rfl rfl rfl rfl rfl ⟨_, ⟨rfl, rfl⟩, HS9.out.sel [0] rfl⟩
def Sx.aheadK (s : List UInt8) : Int := if s = [126] then 5 else if s = [45] then 6 else if s = [33] then 7 else 0
set_option maxHeartbeats 8000000 in
set_option maxRecDepth 100000 in
theorem ahead_any (s : List UInt8) (w : World) : Calls Tryz.prog 286 #[.string (Lx.S s)] w fun e w' => e = .returned (.int .i64 (Sx.aheadK s)) ∧ w' = w := by
  have hT : (Lx.S s).toList = s := by rw [Lib.toList_data]; rfl
  unfold Sx.aheadK
  by_cases e1 : s = [126]
  · have g1 : (s == [126]) = true := by simpa using e1
    rw [if_pos e1]
    clear e1
    go_enter Tryz.func286, Tryz.ntmps286
    go_wp2
    go_ret
    exact ⟨rfl, rfl⟩
  · have g1 : (s == [126]) = false := by simpa using e1
    rw [if_neg e1]
    clear e1
    by_cases e2 : s = [45]
    · have g2 : (s == [45]) = true := by simpa using e2
      rw [if_pos e2]
      clear e2
      go_enter Tryz.func286, Tryz.ntmps286
      go_wp2
      go_ret
      exact ⟨rfl, rfl⟩
    · have g2 : (s == [45]) = false := by simpa using e2
      rw [if_neg e2]
      clear e2
      by_cases e3 : s = [33]
      · have g3 : (s == [33]) = true := by simpa using e3
        rw [if_pos e3]
        clear e3
        go_enter Tryz.func286, Tryz.ntmps286
        go_wp2
        go_ret
        exact ⟨rfl, rfl⟩
      · have g3 : (s == [33]) = false := by simpa using e3
        rw [if_neg e3]
        clear e3
        go_enter Tryz.func286, Tryz.ntmps286
        go_wp2
        go_ret
        exact ⟨rfl, rfl⟩
end Go.Proofs.YtjfdcnggnldgdaaGreatDoor
end
section
namespace Go.Proofs.YtjfdcnggnldgdaaGreatDoor
open Go.ChangeShapes Go.WideShapes Go.ChangeAt Go.RowKit
set_option linter.unusedVariables false
set_option linter.unusedSimpArgs false

theorem tabT : ∃ d, Tryz.prog.underlying 299 = some d ∧ d.isRow = true ∧ (Tryz.prog.info? 299).map (·.size) = some tabC.length := ⟨_, Tryz.underlying299, by kernel_rfl, by kernel_rfl⟩
theorem tab_0 (w : World) : (Instr.index 299 (.agg tabC.toArray) (.int .i64 0)).run Tryz.prog w = .ok (.agg #[.string (Lx.S [61, 61]), .int .i64 17, .int .i64 1]) w := by kernel_rfl
theorem tab_1 (w : World) : (Instr.index 299 (.agg tabC.toArray) (.int .i64 1)).run Tryz.prog w = .ok (.agg #[.string (Lx.S [33, 61]), .int .i64 18, .int .i64 1]) w := by kernel_rfl
theorem tab_2 (w : World) : (Instr.index 299 (.agg tabC.toArray) (.int .i64 2)).run Tryz.prog w = .ok (.agg #[.string (Lx.S [60]), .int .i64 19, .int .i64 1]) w := by kernel_rfl
theorem tab_3 (w : World) : (Instr.index 299 (.agg tabC.toArray) (.int .i64 3)).run Tryz.prog w = .ok (.agg #[.string (Lx.S [60, 61]), .int .i64 20, .int .i64 1]) w := by kernel_rfl
theorem tab_4 (w : World) : (Instr.index 299 (.agg tabC.toArray) (.int .i64 4)).run Tryz.prog w = .ok (.agg #[.string (Lx.S [62]), .int .i64 21, .int .i64 1]) w := by kernel_rfl
theorem tab_5 (w : World) : (Instr.index 299 (.agg tabC.toArray) (.int .i64 5)).run Tryz.prog w = .ok (.agg #[.string (Lx.S [62, 61]), .int .i64 22, .int .i64 1]) w := by kernel_rfl
theorem tab_6 (w : World) : (Instr.index 299 (.agg tabC.toArray) (.int .i64 6)).run Tryz.prog w = .ok (.agg #[.string (Lx.S [124]), .int .i64 12, .int .i64 2]) w := by kernel_rfl
theorem tab_7 (w : World) : (Instr.index 299 (.agg tabC.toArray) (.int .i64 7)).run Tryz.prog w = .ok (.agg #[.string (Lx.S [94]), .int .i64 13, .int .i64 3]) w := by kernel_rfl
theorem tab_8 (w : World) : (Instr.index 299 (.agg tabC.toArray) (.int .i64 8)).run Tryz.prog w = .ok (.agg #[.string (Lx.S [38]), .int .i64 11, .int .i64 4]) w := by kernel_rfl
theorem tab_9 (w : World) : (Instr.index 299 (.agg tabC.toArray) (.int .i64 9)).run Tryz.prog w = .ok (.agg #[.string (Lx.S [60, 60]), .int .i64 14, .int .i64 5]) w := by kernel_rfl
theorem tab_10 (w : World) : (Instr.index 299 (.agg tabC.toArray) (.int .i64 10)).run Tryz.prog w = .ok (.agg #[.string (Lx.S [62, 62]), .int .i64 15, .int .i64 5]) w := by kernel_rfl
theorem tab_11 (w : World) : (Instr.index 299 (.agg tabC.toArray) (.int .i64 11)).run Tryz.prog w = .ok (.agg #[.string (Lx.S [43]), .int .i64 8, .int .i64 6]) w := by kernel_rfl
theorem tab_12 (w : World) : (Instr.index 299 (.agg tabC.toArray) (.int .i64 12)).run Tryz.prog w = .ok (.agg #[.string (Lx.S [45]), .int .i64 9, .int .i64 6]) w := by kernel_rfl
theorem tab_13 (w : World) : (Instr.index 299 (.agg tabC.toArray) (.int .i64 13)).run Tryz.prog w = .ok (.agg #[.string (Lx.S [42]), .int .i64 10, .int .i64 7]) w := by kernel_rfl
theorem tab_get : ∀ (k : Nat) (x : List UInt8 × Nat × Int), Sx.tights[k]? = some x → ∀ w, (Instr.index 299 (.agg tabC.toArray) (.int .i64 (k : Int))).run Tryz.prog w = .ok (.agg #[.string (Lx.S x.1), .int .i64 x.2.2, .int .i64 x.2.1]) w
  | 0, x, hx, w => by cases hx; exact tab_0 w
  | 1, x, hx, w => by cases hx; exact tab_1 w
  | 2, x, hx, w => by cases hx; exact tab_2 w
  | 3, x, hx, w => by cases hx; exact tab_3 w
  | 4, x, hx, w => by cases hx; exact tab_4 w
  | 5, x, hx, w => by cases hx; exact tab_5 w
  | 6, x, hx, w => by cases hx; exact tab_6 w
  | 7, x, hx, w => by cases hx; exact tab_7 w
  | 8, x, hx, w => by cases hx; exact tab_8 w
  | 9, x, hx, w => by cases hx; exact tab_9 w
  | 10, x, hx, w => by cases hx; exact tab_10 w
  | 11, x, hx, w => by cases hx; exact tab_11 w
  | 12, x, hx, w => by cases hx; exact tab_12 w
  | 13, x, hx, w => by cases hx; exact tab_13 w
  | k + 14, x, hx, w => by cases hx
theorem enT : StructT 298 3 := ⟨⟨_, Tryz.underlying298⟩, by kernel_rfl⟩
theorem enZ : Zero 298 #[.string ⟨#[]⟩, .int .i64 0, .int .i64 0] := by unfold Zero; kernel_rfl
theorem fitsEn (s : ByteArray) (x y : Int) : Fits 3 #[.string s, .int .i64 x, .int .i64 y] := ⟨rfl, by simp [Value.oneCell']⟩
/-- the table, loaded whole -/
theorem wpl_tab {ops : Array Oper} {rest : List Oper} {o : Oper} {a : Act} {w w0 : World} {X : Nat → Prop} {I : List It} {Q : Exit → Act → World → Prop} (h : St X w0 w I) (ho : ldOf a o = some (299, .pointer (some ⟨5, 0, none⟩)))
    (k : wpList Tryz.prog ops Q rest (a.put o.dst (.agg tabC.toArray)) w) : wpList Tryz.prog ops Q (o :: rest) a w := by
  obtain ⟨hg, x, ho, hx⟩ := ldOf_eq ho
  obtain ⟨d, hu, hd, hi⟩ := tabT
  exact wpList_load_mid hg _ x ho 5 0 hx tabC d (fun j v hj => by rw [Nat.zero_add]; exact h.tab j v hj) hu hd hi k
/-- the rest of the table, looked through -/
def Sx.seek (l : List (List UInt8 × Nat × Int)) (s : List UInt8) : Nat × Int := match l.find? (fun x => x.1 == s) with | .some x => x.2 | none => (0, 0)
theorem Sx.seek_all (s : List UInt8) : Sx.seek Sx.tights s = Sx.tight s := rfl
theorem Sx.seek_hit {l : List (List UInt8 × Nat × Int)} {k : Nat} {x : List UInt8 × Nat × Int} {s : List UInt8} (hx : l[k]? = .some x) (h : x.1 = s) : Sx.seek (l.drop k) s = x.2 := by
  obtain ⟨hk, rfl⟩ := List.getElem?_eq_some_iff.1 hx
  rw [List.drop_eq_getElem_cons hk]
  unfold Sx.seek
  rw [List.find?_cons, show (l[k].1 == s) = true from by simpa using h]
theorem Sx.seek_miss {l : List (List UInt8 × Nat × Int)} {k : Nat} {x : List UInt8 × Nat × Int} {s : List UInt8} (hx : l[k]? = .some x) (h : x.1 ≠ s) : Sx.seek (l.drop (k + 1)) s = Sx.seek (l.drop k) s := by
  obtain ⟨hk, rfl⟩ := List.getElem?_eq_some_iff.1 hx
  rw [List.drop_eq_getElem_cons hk]
  unfold Sx.seek
  rw [List.find?_cons, show (l[k].1 == s) = false from by simpa using h]
theorem Sx.tights_len : Sx.tights.length = 14 := rfl
set_option maxHeartbeats 8000000 in
set_option maxRecDepth 100000 in
theorem find_fn (s : List UInt8) : Fn 278 #[.string (Lx.S s)] []
    fun e J => e = .returned (.tuple #[.int .i64 (Sx.tight s).2, .int .i64 (Sx.tight s).1]) ∧ J = [] := by
  intro w P hP hs
  have HS := Lib.hid (St.start hP hs)
  have hT : (Lx.S s).toList = s := by rw [Lib.toList_data]; rfl
  have HA := Lib.hid (Sx.seek_all s)
  clear hs hP
  go_enter Tryz.func278, Tryz.ntmps278
  go_wp2_with (first | (refine wpl_tab HS.out rfl ?_))
  go_loopw [7] (fun K wr => ∃ k : Nat, k ≤ 14 ∧ K = .int .i64 (k : Int) ∧ Hid (Sx.seek (Sx.tights.drop k) s = Sx.tight s ∧ St P w wr [])) (fun K _ => 14 - (intOf K).toNat)
  case atStart => exact ⟨0, Nat.zero_le _, rfl, Lib.hid ⟨rfl, HS.out⟩⟩
  case round =>
    obtain ⟨k, hk, rfl, HK⟩ := hrel
    by_cases hlt : k < 14
    · have hlt' : (k : Int) < 14 := by omega
      obtain ⟨x, hx⟩ : ∃ x, Sx.tights[k]? = some x := ⟨Sx.tights[k]'(by rw [Sx.tights_len]; exact hlt), List.getElem?_eq_getElem _⟩
      have E := tab_get k x hx
      have hT2 : (Lx.S x.1).toList = x.1 := by rw [Lib.toList_data]; rfl
      have HX := Lib.hid hx
      clear hx
      generalize htab : tabC.toArray = tb at E
      by_cases hp : x.1 = s
      · have HP := Lib.hid hp
        have g : (x.1 == s) = true := by simpa using hp
        clear hp
        go_wp2_with (first
          | (refine wpl_alloc0 HK.out.2 _ rfl enZ ?_; intro b1 w1 HS1)
          | (refine wpl_storeS HS1.out 0 rfl rfl enT rfl (fitsEn _ _ _) ?_; intro w2 hs; have HS2 := Lib.hid (show St _ _ _ (_ :: []) from hs.out); have c1 : w2.cell? ⟨b1, 1, none⟩ = some (.int .i64 x.2.2) := HS2.out.cell 0 rfl 1; have c2 : w2.cell? ⟨b1, 2, none⟩ = some (.int .i64 x.2.1) := HS2.out.cell 0 rfl 2; clear hs)
          | (refine wpl_load HS2.out 0 rfl rfl strO rfl ?_))
        go_region
        all_goals (try go_wp2)
        all_goals (go_ret2)
        all_goals (refine ⟨_, ⟨?_, rfl⟩, ((HS2.out.sel [] rfl).drew)⟩)
        all_goals (have h := HK.out.1; rw [Sx.seek_hit HX.out HP.out] at h; rw [← h]; rfl)
      · have HP := Lib.hid hp
        have g : (x.1 == s) = false := by simpa using hp
        clear hp
        go_wp2_with (first
          | (refine wpl_alloc0 HK.out.2 _ rfl enZ ?_; intro b1 w1 HS1)
          | (refine wpl_storeS HS1.out 0 rfl rfl enT rfl (fitsEn _ _ _) ?_; intro w2 hs; have HS2 := Lib.hid (show St _ _ _ (_ :: []) from hs.out); have c1 : w2.cell? ⟨b1, 1, none⟩ = some (.int .i64 x.2.2) := HS2.out.cell 0 rfl 1; have c2 : w2.cell? ⟨b1, 2, none⟩ = some (.int .i64 x.2.1) := HS2.out.cell 0 rfl 2; clear hs)
          | (refine wpl_load HS2.out 0 rfl rfl strO rfl ?_))
        exact ⟨⟨k + 1, by omega, by go_num, Lib.hid ⟨(Sx.seek_miss HX.out HP.out).trans HK.out.1, HS2.out.sel [] rfl⟩⟩, by simp [intOf]; omega⟩
    · have hge : ¬ (k : Int) < 14 := by omega
      have HE : Hid (Sx.tight s = (0, 0)) := Lib.hid (by
        rw [← HK.out.1, List.drop_of_length_le (by rw [Sx.tights_len]; omega)]; rfl)
      go_wp2
      go_ret2
      exact ⟨_, ⟨by rw [HE.out]; rfl, rfl⟩, HK.out.2⟩
end Go.Proofs.YtjfdcnggnldgdaaGreatDoor
end
