/-
The reader's labels, types and parameters.
-/
import Derived.Test.YtbnhegipdfkdgaaDoorP16a
namespace Go.Proofs.YtbnhegipdfkdgaaDoor
open Go.ChangeShapes Go.WideShapes Go.ChangeAt Go.RowKit
set_option linter.unusedVariables false
set_option linter.unusedSimpArgs false

def Sx.scal (L : List Lx.Tok) (σ : Sx.R) : Int × Sx.R := if (Sx.may L Sx.wMask σ).1 then (1, (Sx.may L Sx.wMask σ).2) else (0, Sx.eat L Sx.wU32 (Sx.may L Sx.wMask σ).2)
def Sx.elems (L : List Lx.Tok) (σ : Sx.R) : (Int × Int) × Sx.R :=
  if (Sx.may L Sx.wU8 σ).1 then ((2, (Sx.brackets L (Sx.may L Sx.wU8 σ).2).1), (Sx.brackets L (Sx.may L Sx.wU8 σ).2).2)
  else if decide ((Sx.scal L (Sx.may L Sx.wU8 σ).2).1 = 0) && Sx.sees L [91] (Sx.scal L (Sx.may L Sx.wU8 σ).2).2 then (((Sx.scal L (Sx.may L Sx.wU8 σ).2).1, (Sx.brackets L (Sx.scal L (Sx.may L Sx.wU8 σ).2).2).1), (Sx.brackets L (Sx.scal L (Sx.may L Sx.wU8 σ).2).2).2)
  else (((Sx.scal L (Sx.may L Sx.wU8 σ).2).1, 0), (Sx.scal L (Sx.may L Sx.wU8 σ).2).2)
theorem Sx.type_scal (L : List Lx.Tok) (lab : Int) (σ : Sx.R) : Sx.type L true lab σ = (⟨(Sx.scal L σ).1, 0, lab⟩, (Sx.scal L σ).2) := by
  unfold Sx.type Sx.scal
  split
  · rfl
  · simp
theorem Sx.may_no {L : List Lx.Tok} {s : List UInt8} {σ : Sx.R} (h : Sx.sees L s σ = false) : Sx.may L s σ = (false, σ) := by unfold Sx.may; rw [if_neg (by rw [h]; decide)]
theorem Sx.may_is {L : List Lx.Tok} {s : List UInt8} {σ : Sx.R} (h : Sx.sees L s σ = true) : Sx.may L s σ = (true, { σ with at' := σ.at' + 1 }) := by unfold Sx.may; rw [if_pos h]
theorem Sx.sees_two {L : List Lx.Tok} {s t : List UInt8} {σ : Sx.R} (h : Sx.sees L s σ = true) (hne : s ≠ t) : Sx.sees L t σ = false := by
  obtain ⟨h1, h2⟩ := Sx.sees_text h
  unfold Sx.sees
  rw [h2, decide_eq_false hne, Bool.and_false]
theorem Sx.type_elems (L : List Lx.Tok) (lab : Int) (σ : Sx.R) : Sx.type L false lab σ = (⟨(Sx.elems L σ).1.1, (Sx.elems L σ).1.2, lab⟩, (Sx.elems L σ).2) := by
  unfold Sx.type Sx.elems Sx.scal
  cases hm : Sx.sees L Sx.wMask σ
  · cases hu : Sx.sees L Sx.wU8 σ
    · simp only [Sx.may_no hm, Sx.may_no hu]
      cases h : Sx.sees L [91] (Sx.eat L Sx.wU32 σ) <;> simp [h]
    · simp only [Sx.may_no hm, Sx.may_is hu]
      simp
  · have hu := Sx.sees_two (t := Sx.wU8) hm (by decide)
    simp only [Sx.may_is hm, Sx.may_no hu]
    simp
theorem Sx.num_pk (L : List Lx.Tok) (σ : Sx.R) : (if (Sx.tk L σ).num = 0 then Sx.wrong L 10 σ else σ) = if (Sx.pk L σ).num = 0 then Sx.wrong L 10 σ else σ := by
  by_cases he : σ.err = 0
  · rw [Sx.pk_tk he]
  · rw [Sx.wrong_no he]; simp
theorem tyZ : Zero 34 #[.int .i64 0, .int .i64 0, .int .i64 0] := by unfold Zero; kernel_rfl
theorem tyT : StructT 34 3 := ⟨⟨_, Tryd.underlying34⟩, by kernel_rfl⟩
theorem fits3 (x y z : Int) : Fits 3 #[.int .i64 x, .int .i64 y, .int .i64 z] := ⟨rfl, by simp [Value.oneCell']⟩
abbrev paA (p : Int) (n : ByteArray) (e l b : Int) (o : Bool) : Array Value := #[.int .i64 p, .string n, .int .i64 e, .int .i64 l, .int .i64 b, .bool o]
theorem paZ : Zero 53 (paA 0 ⟨#[]⟩ 0 0 0 false) := by unfold Zero; kernel_rfl
theorem paT : StructT 53 6 := ⟨⟨_, Tryd.underlying53⟩, by kernel_rfl⟩
theorem fitsP (p : Int) (n : ByteArray) (e l b : Int) (o : Bool) : Fits 6 (paA p n e l b o) := ⟨rfl, by simp [Value.oneCell']⟩
set_option maxHeartbeats 8000000 in
set_option maxRecDepth 100000 in
theorem label_fn (b : Nat) (L : List Lx.Tok) (hL : Sx.Ok L) (σ : Sx.R) : Fn 33 #[.pointer (some ⟨b, 0, none⟩)] [rd b L σ]
    fun e J => e = .returned (.int .i64 (Sx.label L σ).1) ∧ J = [rd b L (Sx.label L σ).2] := by
  intro w P hP h0
  have HS := Lib.hid (St.start hP h0)
  have C1 := Lib.hid (may_fn b L hL σ Sx.wSec (by decide))
  have C2 := Lib.hid (want_fn b L hL (Sx.may L Sx.wSec σ).2 Sx.wPub (by decide))
  clear h0 hP hL
  unfold Sx.label
  cases h : (Sx.may L Sx.wSec σ).1
  · rw [h] at C1
    clear h
    go_enter Tryd.func33, Tryd.ntmps33
    go_wp2_with (first
      | (go_at_call 32; refine (HS.out.call1 C1.out).mono ?_; rintro e w1 ⟨J, ⟨rfl, rfl⟩, hs⟩; simp only [List.cons_append, List.nil_append] at hs; have HS1 := Lib.hid hs; clear hs)
      | (go_at_call 28; refine (HS1.out.call1 C2.out).mono ?_; rintro e w2 ⟨J, ⟨rfl, rfl⟩, hs⟩; simp only [List.cons_append, List.nil_append] at hs; have HS2 := Lib.hid hs; clear hs))
    go_ret
    exact ⟨_, ⟨rfl, rfl⟩, HS2.out⟩
  · rw [h] at C1
    clear h
    go_enter Tryd.func33, Tryd.ntmps33
    go_wp2_with (first
      | (go_at_call 32; refine (HS.out.call1 C1.out).mono ?_; rintro e w1 ⟨J, ⟨rfl, rfl⟩, hs⟩; simp only [List.cons_append, List.nil_append] at hs; have HS1 := Lib.hid hs; clear hs))
    go_ret
    exact ⟨_, ⟨rfl, rfl⟩, HS1.out⟩
set_option maxHeartbeats 8000000 in
set_option maxRecDepth 100000 in
theorem scalar_fn (b : Nat) (L : List Lx.Tok) (hL : Sx.Ok L) (σ : Sx.R) : Fn 34 #[.pointer (some ⟨b, 0, none⟩)] [rd b L σ]
    fun e J => e = .returned (.int .i64 (Sx.scal L σ).1) ∧ J = [rd b L (Sx.scal L σ).2] := by
  intro w P hP h0
  have HS := Lib.hid (St.start hP h0)
  have C1 := Lib.hid (may_fn b L hL σ Sx.wMask (by decide))
  have C2 := Lib.hid (want_fn b L hL (Sx.may L Sx.wMask σ).2 Sx.wU32 (by decide))
  clear h0 hP hL
  unfold Sx.scal
  cases h : (Sx.may L Sx.wMask σ).1
  · rw [h] at C1
    clear h
    go_enter Tryd.func34, Tryd.ntmps34
    go_wp2_with (first
      | (go_at_call 32; refine (HS.out.call1 C1.out).mono ?_; rintro e w1 ⟨J, ⟨rfl, rfl⟩, hs⟩; simp only [List.cons_append, List.nil_append] at hs; have HS1 := Lib.hid hs; clear hs)
      | (go_at_call 28; refine (HS1.out.call1 C2.out).mono ?_; rintro e w2 ⟨J, ⟨rfl, rfl⟩, hs⟩; simp only [List.cons_append, List.nil_append] at hs; have HS2 := Lib.hid hs; clear hs))
    go_ret
    exact ⟨_, ⟨rfl, rfl⟩, HS2.out⟩
  · rw [h] at C1
    clear h
    go_enter Tryd.func34, Tryd.ntmps34
    go_wp2_with (first
      | (go_at_call 32; refine (HS.out.call1 C1.out).mono ?_; rintro e w1 ⟨J, ⟨rfl, rfl⟩, hs⟩; simp only [List.cons_append, List.nil_append] at hs; have HS1 := Lib.hid hs; clear hs))
    go_ret
    exact ⟨_, ⟨rfl, rfl⟩, HS1.out⟩
set_option maxHeartbeats 8000000 in
set_option maxRecDepth 100000 in
theorem length_fn (b : Nat) (L : List Lx.Tok) (hL : Sx.Ok L) (σ : Sx.R) : Fn 70 #[.pointer (some ⟨b, 0, none⟩)] [rd b L σ]
    fun e J => e = .returned (.int .i64 (Sx.brackets L σ).1) ∧ J = [rd b L (Sx.brackets L σ).2] := by
  intro w P hP h0
  have HS := Lib.hid (St.start hP h0)
  have C1 := Lib.hid (want_fn b L hL σ [91] (by decide))
  have C2 := Lib.hid (next_fn b L (Sx.eat L [91] σ))
  have C3 := Lib.hid (fail_fn b L (Sx.eat L [91] σ) 10 (by decide))
  have hF2 := tokF2
  unfold Sx.brackets
  simp only []
  rw [Sx.num_pk]
  by_cases h : (Sx.pk L (Sx.eat L [91] σ)).num = 0
  · rw [if_pos h]
    have C4 := Lib.hid (take_fn b L hL (Sx.wrong L 10 (Sx.eat L [91] σ)) 2 (by decide))
    have C5 := Lib.hid (want_fn b L hL (Sx.some L 2 (Sx.wrong L 10 (Sx.eat L [91] σ))).2 [93] (by decide))
    clear h0 hP hL
    go_enter Tryd.func70, Tryd.ntmps70
    go_wp2_with (first
      | (go_at_call 28; first | (refine (HS.out.call1 C1.out).mono ?_; rintro e w1 ⟨J, ⟨rfl, rfl⟩, hs⟩; simp only [List.cons_append, List.nil_append] at hs; have HS1 := Lib.hid hs; clear hs) | (refine (HS4.out.call1 C5.out).mono ?_; rintro e w5 ⟨J, ⟨rfl, rfl⟩, hs⟩; simp only [List.cons_append, List.nil_append] at hs; have HS5 := Lib.hid hs; clear hs))
      | (go_at_call 17; refine (HS1.out.call1 C2.out).mono ?_; rintro e w2 ⟨J, ⟨rfl, rfl⟩, hs⟩; simp only [List.cons_append, List.nil_append] at hs; have HS2 := Lib.hid hs; clear hs)
      | (go_at_call 45; refine (HS2.out.call1 C3.out).mono ?_; rintro e w3 ⟨J, ⟨rfl, rfl⟩, hs⟩; simp only [List.cons_append, List.nil_append] at hs; have HS3 := Lib.hid hs; clear hs)
      | (go_at_call 29; refine (HS3.out.call1 C4.out).mono ?_; rintro e w4 ⟨J, ⟨rfl, rfl⟩, hs⟩; simp only [List.cons_append, List.nil_append] at hs; have HS4 := Lib.hid hs; clear hs))
    go_ret
    exact ⟨_, ⟨rfl, rfl⟩, HS5.out⟩
  · rw [if_neg h]
    have C4 := Lib.hid (take_fn b L hL (Sx.eat L [91] σ) 2 (by decide))
    have C5 := Lib.hid (want_fn b L hL (Sx.some L 2 (Sx.eat L [91] σ)).2 [93] (by decide))
    clear h0 hP hL
    go_enter Tryd.func70, Tryd.ntmps70
    go_wp2_with (first
      | (go_at_call 28; first | (refine (HS.out.call1 C1.out).mono ?_; rintro e w1 ⟨J, ⟨rfl, rfl⟩, hs⟩; simp only [List.cons_append, List.nil_append] at hs; have HS1 := Lib.hid hs; clear hs) | (refine (HS4.out.call1 C5.out).mono ?_; rintro e w5 ⟨J, ⟨rfl, rfl⟩, hs⟩; simp only [List.cons_append, List.nil_append] at hs; have HS5 := Lib.hid hs; clear hs))
      | (go_at_call 17; refine (HS1.out.call1 C2.out).mono ?_; rintro e w2 ⟨J, ⟨rfl, rfl⟩, hs⟩; simp only [List.cons_append, List.nil_append] at hs; have HS2 := Lib.hid hs; clear hs)
      | (go_at_call 29; refine (HS2.out.call1 C4.out).mono ?_; rintro e w4 ⟨J, ⟨rfl, rfl⟩, hs⟩; simp only [List.cons_append, List.nil_append] at hs; have HS4 := Lib.hid hs; clear hs))
    go_ret
    exact ⟨_, ⟨rfl, rfl⟩, HS5.out⟩
set_option maxHeartbeats 8000000 in
set_option maxRecDepth 100000 in
theorem elements_fn (b : Nat) (L : List Lx.Tok) (hL : Sx.Ok L) (σ : Sx.R) : Fn 57 #[.pointer (some ⟨b, 0, none⟩)] [rd b L σ]
    fun e J => e = .returned (.agg #[.int .i64 (Sx.elems L σ).1.1, .int .i64 (Sx.elems L σ).1.2, .int .i64 0]) ∧ J = [rd b L (Sx.elems L σ).2] := by
  intro w P hP h0
  have HS := Lib.hid (St.start hP h0)
  have C1 := Lib.hid (may_fn b L hL σ Sx.wU8 (by decide))
  unfold Sx.elems
  cases hu : (Sx.may L Sx.wU8 σ).1
  · rw [hu] at C1
    have C2 := Lib.hid (scalar_fn b L hL (Sx.may L Sx.wU8 σ).2)
    generalize Sx.scal L (Sx.may L Sx.wU8 σ).2 = s at C2 ⊢
    obtain ⟨s1, s2⟩ := s
    have C3 := Lib.hid (is_fn b L hL s2 [91] (by decide))
    have C4 := Lib.hid (length_fn b L hL s2)
    clear hu h0 hP hL
    simp only [] at C2 ⊢
    by_cases h1 : s1 = 0
    · subst h1
      cases h2 : Sx.sees L [91] s2
      · rw [h2] at C3
        rw [if_neg (by decide), if_neg (by simp)]
        clear h2
        go_enter Tryd.func57, Tryd.ntmps57
        go_wp2_with (first
          | (refine wpl_alloc HS.out _ rfl tyZ ?_; intro b1 w1 HS1)
          | (go_at_call 32; refine (HS1.out.call1 C1.out).mono ?_; rintro e w2 ⟨J, ⟨rfl, rfl⟩, hs⟩; simp only [List.cons_append, List.nil_append] at hs; have HS2 := Lib.hid hs; clear hs)
          | (go_at_call 34; refine (HS2.out.call1 C2.out).mono ?_; rintro e w3 ⟨J, ⟨rfl, rfl⟩, hs⟩; simp only [List.cons_append, List.nil_append] at hs; have HS3 := Lib.hid hs; clear hs)
          | (refine wpl_alloc HS3.out _ rfl tyZ ?_; intro b2 w4 HS4)
          | (refine wpl_storeS HS4.out 1 rfl rfl tyT rfl (fits3 _ _ _) ?_; intro w5 hs; have HS5 := Lib.hid (show St _ _ _ (_ :: _ :: _ :: []) from hs.out); clear hs)
          | (refine wpl_load HS5.out 1 rfl rfl intO rfl ?_)
          | (go_at_call 47; refine (HS5.out.call1 C3.out).mono ?_; rintro e w6 ⟨J, ⟨rfl, rfl⟩, hs⟩; simp only [List.cons_append, List.nil_append] at hs; have HS6 := Lib.hid hs; clear hs)
          | (refine wpl_loadS HS6.out 1 rfl rfl tyT rfl ?_)
          | (refine wpl_storeS HS6.out 2 rfl rfl tyT rfl (fits3 _ _ _) ?_; intro w9 hs; have HS9 := Lib.hid (show St _ _ _ (_ :: _ :: _ :: []) from hs.out); clear hs))
        refine bp_cell HS9.out 2 tyT rfl rfl rfl rfl rfl ⟨_, ⟨rfl, rfl⟩, HS9.out.sel [0] rfl⟩
      · rw [h2] at C3
        rw [if_neg (by decide), if_pos (by simp)]
        clear h2
        go_enter Tryd.func57, Tryd.ntmps57
        go_wp2_with (first
          | (refine wpl_alloc HS.out _ rfl tyZ ?_; intro b1 w1 HS1)
          | (go_at_call 32; refine (HS1.out.call1 C1.out).mono ?_; rintro e w2 ⟨J, ⟨rfl, rfl⟩, hs⟩; simp only [List.cons_append, List.nil_append] at hs; have HS2 := Lib.hid hs; clear hs)
          | (go_at_call 34; refine (HS2.out.call1 C2.out).mono ?_; rintro e w3 ⟨J, ⟨rfl, rfl⟩, hs⟩; simp only [List.cons_append, List.nil_append] at hs; have HS3 := Lib.hid hs; clear hs)
          | (refine wpl_alloc HS3.out _ rfl tyZ ?_; intro b2 w4 HS4)
          | (refine wpl_storeS HS4.out 1 rfl rfl tyT rfl (fits3 _ _ _) ?_; intro w5 hs; have HS5 := Lib.hid (show St _ _ _ (_ :: _ :: _ :: []) from hs.out); clear hs)
          | (refine wpl_load HS5.out 1 rfl rfl intO rfl ?_)
          | (go_at_call 47; refine (HS5.out.call1 C3.out).mono ?_; rintro e w6 ⟨J, ⟨rfl, rfl⟩, hs⟩; simp only [List.cons_append, List.nil_append] at hs; have HS6 := Lib.hid hs; clear hs)
          | (go_at_call 70; refine (HS6.out.call1 C4.out).mono ?_; rintro e w7 ⟨J, ⟨rfl, rfl⟩, hs⟩; simp only [List.cons_append, List.nil_append] at hs; have HS7 := Lib.hid hs; clear hs)
          | (refine wpl_store HS7.out 1 rfl rfl intO (of_decide_eq_true rfl) rfl ?_; intro w8 hs; have HS8 := Lib.hid (show St _ _ _ (_ :: _ :: _ :: []) from hs.out); clear hs)
          | (refine wpl_loadS HS8.out 1 rfl rfl tyT rfl ?_)
          | (refine wpl_storeS HS8.out 2 rfl rfl tyT rfl (fits3 _ _ _) ?_; intro w9 hs; have HS9 := Lib.hid (show St _ _ _ (_ :: _ :: _ :: []) from hs.out); clear hs))
        refine bp_cell HS9.out 2 tyT rfl rfl rfl rfl rfl ⟨_, ⟨rfl, rfl⟩, HS9.out.sel [0] rfl⟩
    · rw [if_neg (by decide), if_neg (by simp [h1])]
      go_enter Tryd.func57, Tryd.ntmps57
      go_wp2_with (first
        | (refine wpl_alloc HS.out _ rfl tyZ ?_; intro b1 w1 HS1)
        | (go_at_call 32; refine (HS1.out.call1 C1.out).mono ?_; rintro e w2 ⟨J, ⟨rfl, rfl⟩, hs⟩; simp only [List.cons_append, List.nil_append] at hs; have HS2 := Lib.hid hs; clear hs)
        | (go_at_call 34; refine (HS2.out.call1 C2.out).mono ?_; rintro e w3 ⟨J, ⟨rfl, rfl⟩, hs⟩; simp only [List.cons_append, List.nil_append] at hs; have HS3 := Lib.hid hs; clear hs)
        | (refine wpl_alloc HS3.out _ rfl tyZ ?_; intro b2 w4 HS4)
        | (refine wpl_storeS HS4.out 1 rfl rfl tyT rfl (fits3 _ _ _) ?_; intro w5 hs; have HS5 := Lib.hid (show St _ _ _ (_ :: _ :: _ :: []) from hs.out); clear hs)
        | (refine wpl_load HS5.out 1 rfl rfl intO rfl ?_)
        | (refine wpl_loadS HS5.out 1 rfl rfl tyT rfl ?_)
        | (refine wpl_storeS HS5.out 2 rfl rfl tyT rfl (fits3 _ _ _) ?_; intro w9 hs; have HS9 := Lib.hid (show St _ _ _ (_ :: _ :: _ :: []) from hs.out); clear hs))
      refine bp_cell HS9.out 2 tyT rfl rfl rfl rfl rfl ⟨_, ⟨rfl, rfl⟩, HS9.out.sel [0] rfl⟩
  · rw [hu] at C1
    have C2 := Lib.hid (length_fn b L hL (Sx.may L Sx.wU8 σ).2)
    rw [if_pos rfl]
    clear hu h0 hP hL
    go_enter Tryd.func57, Tryd.ntmps57
    go_wp2_with (first
      | (refine wpl_alloc HS.out _ rfl tyZ ?_; intro b1 w1 HS1)
      | (go_at_call 32; refine (HS1.out.call1 C1.out).mono ?_; rintro e w2 ⟨J, ⟨rfl, rfl⟩, hs⟩; simp only [List.cons_append, List.nil_append] at hs; have HS2 := Lib.hid hs; clear hs)
      | (go_at_call 70; refine (HS2.out.call1 C2.out).mono ?_; rintro e w3 ⟨J, ⟨rfl, rfl⟩, hs⟩; simp only [List.cons_append, List.nil_append] at hs; have HS3 := Lib.hid hs; clear hs)
      | (refine wpl_storeS HS3.out 1 rfl rfl tyT rfl (fits3 _ _ _) ?_; intro w9 hs; have HS9 := Lib.hid (show St _ _ _ (_ :: _ :: []) from hs.out); clear hs))
    refine bp_cell HS9.out 1 tyT rfl rfl rfl rfl rfl ⟨_, ⟨rfl, rfl⟩, HS9.out.sel [0] rfl⟩
def Sx.aheadK (s : List UInt8) : Int := if s = [126] then 5 else if s = [45] then 6 else if s = [33] then 7 else 0
set_option maxHeartbeats 8000000 in
set_option maxRecDepth 100000 in
theorem ahead_any (s : List UInt8) (w : World) : Calls Tryd.prog 82 #[.string (Lx.S s)] w fun e w' => e = .returned (.int .i64 (Sx.aheadK s)) ∧ w' = w := by
  have hT : (Lx.S s).toList = s := by rw [Lib.toList_data]; rfl
  unfold Sx.aheadK
  by_cases e1 : s = [126]
  · have g1 : (s == [126]) = true := by simpa using e1
    rw [if_pos e1]
    clear e1
    go_enter Tryd.func82, Tryd.ntmps82
    go_wp2
    go_ret
    exact ⟨rfl, rfl⟩
  · have g1 : (s == [126]) = false := by simpa using e1
    rw [if_neg e1]
    clear e1
    by_cases e2 : s = [45]
    · have g2 : (s == [45]) = true := by simpa using e2
      rw [if_pos e2]
      clear e2
      go_enter Tryd.func82, Tryd.ntmps82
      go_wp2
      go_ret
      exact ⟨rfl, rfl⟩
    · have g2 : (s == [45]) = false := by simpa using e2
      rw [if_neg e2]
      clear e2
      by_cases e3 : s = [33]
      · have g3 : (s == [33]) = true := by simpa using e3
        rw [if_pos e3]
        clear e3
        go_enter Tryd.func82, Tryd.ntmps82
        go_wp2
        go_ret
        exact ⟨rfl, rfl⟩
      · have g3 : (s == [33]) = false := by simpa using e3
        rw [if_neg e3]
        clear e3
        go_enter Tryd.func82, Tryd.ntmps82
        go_wp2
        go_ret
        exact ⟨rfl, rfl⟩
end Go.Proofs.YtbnhegipdfkdgaaDoor
