/-
A name with what is behind it, and a word of the language that is called.
-/
import Derived.Test.YtbnhegipdfkdgaaDoorP25a
namespace Go.Proofs.YtbnhegipdfkdgaaDoor
open Go.ChangeShapes Go.WideShapes Go.ChangeAt Go.RowKit
set_option linter.unusedVariables false
set_option linter.unusedSimpArgs false

set_option maxHeartbeats 8000000 in
set_option maxRecDepth 100000 in
theorem known_fn (b : Nat) (L : List Lx.Tok) (hL : Sx.Ok L) (σ : Sx.R) (hE : ∀ τ, Sx.M L τ ≤ Sx.M L (Sx.some L 1 σ).2 → CE b L τ) : Fn 84 #[.pointer (some ⟨b, 0, none⟩)] [rd b L σ]
    (EP b L (Sx.Bh L (Sx.some L 1 σ).1 (Sx.some L 1 σ).2)) := by
  intro w P hP h0
  have HS := Lib.hid (St.start hP h0)
  have hat := (Sx.le_some hL.ends 1 (by decide) σ).2.2.1 HS.out.at'
  have C1 := Lib.hid (take_fn b L hL σ 1 (by decide))
  generalize Sx.some L 1 σ = sm at hE C1 hat ⊢
  obtain ⟨t, τ⟩ := sm
  simp only [] at hE C1 hat ⊢
  have C2 := Lib.hid (is_fn b L hL τ [40] (by decide))
  cases h1 : Sx.sees L [40] τ
  · have C3 := Lib.hid (is_fn b L hL τ [91] (by decide))
    rw [h1] at C2
    cases h2 : Sx.sees L [91] τ
    · rw [h2] at C3
      rw [Sx.Bh_bare hL.ends t hat h1 h2]
      clear h0 hP hL hE hat h1 h2
      go_enter Tryd.func84, Tryd.ntmps84
      go_wp2_with (first
        | (first | (refine wpl_alloc HS.out _ rfl exZ ?_; intro b1 w1 HS1; clear HS) | (refine wpl_alloc HS2.out _ rfl tokZ ?_; intro b3 w3 HS3; clear HS2) | (refine wpl_alloc HS4.out _ rfl exZ ?_; intro b5 w5 HS5; clear HS4))
        | (go_at_call 29; refine (HS1.out.call1 C1.out).mono ?_; rintro e w2 ⟨J, ⟨rfl, rfl⟩, hs⟩; simp only [List.cons_append, List.nil_append] at hs; have HS2 := Lib.hid hs; clear hs; clear HS1)
        | (first | (refine wpl_storeS HS3.out 1 rfl rfl tokT rfl (fitsT _ _ _ _) ?_; intro w4 hs; have HS4 := Lib.hid (show St _ _ _ (_ :: _ :: _ :: []) from hs.out); clear hs HS3) | (refine wpl_storeS HS5.out 1 rfl rfl exT rfl fitsX' ?_; intro w6 hs; have HS6 := Lib.hid (show St _ _ _ (_ :: _ :: _ :: _ :: []) from hs.out); clear hs HS5))
        | (first | (refine wpl_load HS4.out 1 rfl rfl intO rfl ?_) | (refine wpl_load HS4.out 1 rfl rfl strO rfl ?_))
        | (go_at_call 47; first | (refine (HS6.out.call1 C2.out).mono ?_; rintro e w7 ⟨J, ⟨rfl, rfl⟩, hs⟩; simp only [List.cons_append, List.nil_append] at hs; have HS7 := Lib.hid hs; clear hs HS6) | (refine (HS7.out.call1 C3.out).mono ?_; rintro e w8 ⟨J, ⟨rfl, rfl⟩, hs⟩; simp only [List.cons_append, List.nil_append] at hs; have HS8 := Lib.hid hs; clear hs HS7))
        | (refine wpl_loadS HS8.out 1 rfl rfl exT rfl ?_)
        | (refine wpl_storeS HS8.out 3 rfl rfl exT rfl fitsX' ?_; intro w9 hs; have HS9 := Lib.hid (show St _ _ _ (_ :: _ :: _ :: _ :: []) from hs.out); clear hs HS8))
      refine bp_cell HS9.out 3 exT rfl rfl rfl rfl rfl ⟨_, ⟨2, t.pos, 0, t.text, _, [], rfl, rfl, fun _ => rfl, rfl⟩, (St.sel HS9.out [0] rfl).to fun P h => h.under fun P h => lsI_nil h⟩
    · rw [h2] at C3
      rw [Sx.Bh_index hL.ends t hat h2]
      have CX := Lib.hid (index_fn b L hL τ (hE _ (Sx.M_le (Sx.le_nest hL.ends [91] (by decide) τ))))
      clear h0 hP hL hE hat h1 h2
      go_enter Tryd.func84, Tryd.ntmps84
      go_wp2_with (first
        | (first | (refine wpl_alloc HS.out _ rfl exZ ?_; intro b1 w1 HS1; clear HS) | (refine wpl_alloc HS2.out _ rfl tokZ ?_; intro b3 w3 HS3; clear HS2) | (refine wpl_alloc HS4.out _ rfl exZ ?_; intro b5 w5 HS5; clear HS4))
        | (go_at_call 29; refine (HS1.out.call1 C1.out).mono ?_; rintro e w2 ⟨J, ⟨rfl, rfl⟩, hs⟩; simp only [List.cons_append, List.nil_append] at hs; have HS2 := Lib.hid hs; clear hs; clear HS1)
        | (first | (refine wpl_storeS HS3.out 1 rfl rfl tokT rfl (fitsT _ _ _ _) ?_; intro w4 hs; have HS4 := Lib.hid (show St _ _ _ (_ :: _ :: _ :: []) from hs.out); clear hs HS3) | (refine wpl_storeS HS5.out 1 rfl rfl exT rfl fitsX' ?_; intro w6 hs; have HS6 := Lib.hid (show St _ _ _ (_ :: _ :: _ :: _ :: []) from hs.out); clear hs HS5))
        | (first | (refine wpl_load HS4.out 1 rfl rfl intO rfl ?_) | (refine wpl_load HS4.out 1 rfl rfl strO rfl ?_))
        | (go_at_call 47; first | (refine (HS6.out.call1 C2.out).mono ?_; rintro e w7 ⟨J, ⟨rfl, rfl⟩, hs⟩; simp only [List.cons_append, List.nil_append] at hs; have HS7 := Lib.hid hs; clear hs HS6) | (refine (HS7.out.call1 C3.out).mono ?_; rintro e w8 ⟨J, ⟨rfl, rfl⟩, hs⟩; simp only [List.cons_append, List.nil_append] at hs; have HS8 := Lib.hid hs; clear hs HS7))
        | (first | (refine wpl_store HS8.out 1 rfl rfl intO (of_decide_eq_true rfl) rfl ?_; intro w9 hs; have HS9 := Lib.hid (show St _ _ _ (_ :: _ :: _ :: _ :: []) from hs.out); clear hs HS8) | (refine wpl_store HS11.out 3 rfl rfl exprsO (of_decide_eq_true rfl) rfl ?_; intro w12 hs; have HS12 := Lib.hid (show St _ _ _ (_ :: _ :: _ :: _ :: _ :: _ :: []) from hs.out); clear hs HS11))
        | (go_at_call 73; refine (HS9.out.call1 CX.out).mono ?_; rintro e w10 ⟨J, ⟨k2, p2, n2, nm2, v2, es2, rfl, rfl, hx2, h12⟩, hs⟩; simp only [List.cons_append, List.nil_append] at hs; have HX2 := Lib.hid hx2; obtain ⟨q2, l2, cap2, rfl⟩ := hs.lsLen 1 rfl; have HS10 := Lib.hid hs; clear hs hx2; clear HS9)
        | (refine wpl_slice HS10.out rfl Tryd.underlying40 (exB _ _ _ _ _) ?_; intro b11 w11 HS11; clear HS10)
        | (refine wpl_loadS HS12.out 3 rfl rfl exT rfl ?_)
        | (refine wpl_storeS HS12.out 5 rfl rfl exT rfl fitsX' ?_; intro w13 hs; have HS13 := Lib.hid (show St _ _ _ (_ :: _ :: _ :: _ :: _ :: _ :: []) from hs.out); clear hs HS12))
      refine bp_cell HS13.out 5 exT rfl rfl rfl rfl rfl ⟨_, ⟨3, t.pos, 0, t.text, _, [.mk k2 p2 n2 nm2 es2], rfl, rfl, fun h => ?_, rfl⟩, (St.sel HS13.out [0, 0, 0] rfl).to fun P h => h.under fun P h => lsI_one h⟩
      exact congrArg (fun z => Sx.E.mk 3 t.pos 0 t.text [z]) (HX2.out h)
  · rw [h1] at C2
    rw [Sx.Bh_call hL.ends t hat h1]
    have CX := Lib.hid (call_fn b L hL τ hE t.kind t.pos t.num t.text)
    clear h0 hP hL hE hat h1
    go_enter Tryd.func84, Tryd.ntmps84
    go_wp2_with (first
      | (first | (refine wpl_alloc HS.out _ rfl exZ ?_; intro b1 w1 HS1; clear HS) | (refine wpl_alloc HS2.out _ rfl tokZ ?_; intro b3 w3 HS3; clear HS2) | (refine wpl_alloc HS4.out _ rfl exZ ?_; intro b5 w5 HS5; clear HS4))
      | (go_at_call 29; refine (HS1.out.call1 C1.out).mono ?_; rintro e w2 ⟨J, ⟨rfl, rfl⟩, hs⟩; simp only [List.cons_append, List.nil_append] at hs; have HS2 := Lib.hid hs; clear hs; clear HS1)
      | (first | (refine wpl_storeS HS3.out 1 rfl rfl tokT rfl (fitsT _ _ _ _) ?_; intro w4 hs; have HS4 := Lib.hid (show St _ _ _ (_ :: _ :: _ :: []) from hs.out); clear hs HS3) | (refine wpl_storeS HS5.out 1 rfl rfl exT rfl fitsX' ?_; intro w6 hs; have HS6 := Lib.hid (show St _ _ _ (_ :: _ :: _ :: _ :: []) from hs.out); clear hs HS5))
      | (first | (refine wpl_load HS4.out 1 rfl rfl intO rfl ?_) | (refine wpl_load HS4.out 1 rfl rfl strO rfl ?_))
      | (go_at_call 47; first | (refine (HS6.out.call1 C2.out).mono ?_; rintro e w7 ⟨J, ⟨rfl, rfl⟩, hs⟩; simp only [List.cons_append, List.nil_append] at hs; have HS7 := Lib.hid hs; clear hs HS6) | (refine (HS7.out.call1 C3.out).mono ?_; rintro e w8 ⟨J, ⟨rfl, rfl⟩, hs⟩; simp only [List.cons_append, List.nil_append] at hs; have HS8 := Lib.hid hs; clear hs HS7))
      | (refine wpl_loadS HS7.out 2 rfl rfl tokT rfl ?_)
      | (go_at_call 72; refine (HS7.out.call1 CX.out).mono ?_; rintro e w8 ⟨J, ⟨k2, p2, n2, nm2, v2, es2, rfl, rfl, hx2, h12⟩, hs⟩; simp only [List.cons_append, List.nil_append] at hs; have HX2 := Lib.hid hx2; obtain ⟨q2, l2, cap2, rfl⟩ := hs.lsLen 1 rfl; have HS8 := Lib.hid hs; clear hs hx2; clear HS7)
      | (refine wpl_storeS HS8.out 4 rfl rfl exT rfl fitsX' ?_; intro w9 hs; have HS9 := Lib.hid (show St _ _ _ (_ :: _ :: _ :: _ :: _ :: []) from hs.out); clear hs HS8))
    refine bp_cell HS9.out 4 exT rfl rfl rfl rfl rfl ⟨_, ⟨k2, p2, n2, nm2, _, es2, rfl, rfl, HX2.out, rfl⟩, HS9.out.sel [0, 0] rfl⟩
set_option maxHeartbeats 8000000 in
set_option maxRecDepth 100000 in
theorem called_mulhi (b : Nat) (L : List Lx.Tok) (hL : Sx.Ok L) (σ : Sx.R) (hE : ∀ τ, Sx.M L τ + 16 ≤ Sx.M L σ → CE b L τ) (hse : Sx.sees L Sx.wMulhi σ = true) : Fn 85 #[.pointer (some ⟨b, 0, none⟩)] [rd b L σ]
    (EP b L (Sx.W L (Sx.text L σ) σ)) := by
  intro w P hP h0
  have HS := Lib.hid (St.start hP h0)
  have hat := HS.out.at'
  obtain ⟨he, htx⟩ := Sx.sees_text hse
  have C1 := Lib.hid (next_fn b L σ)
  rw [Sx.pk_tk he] at C1
  have M0 := Lib.hid (may_fn b L hL σ Sx.wMulhi (by decide))
  rw [Sx.may_is hse] at M0
  have CL := Lib.hid (list_many b L hL { σ with at' := σ.at' + 1 } 2 (by decide) (fun τ h => hE τ (by have := Sx.M_next he hat; omega)))
  have hW := Sx.W_call hL.ends hat he (w := (Sx.wMulhi, 23, 2)) (by rw [htx]; decide) (by rw [htx]; decide)
  rw [hW]
  have hF1 := tokF1
  have hmf : ∀ (fn : Go.Fn) (first cap : Array Value) (w : World), (Instr.makeFunc fn first cap).run Tryd.prog w = .ok (.func fn first cap) w := fun _ _ _ _ => rfl
  clear h0 hP hL hE hse hat he htx hW
  go_enter Tryd.func85, Tryd.ntmps85
  go_wp2_with (first
    | (refine wpl_box HS.out rfl rfl ?_; intro br w1 HS1; clear HS)
    | (first | (refine wpl_alloc HS1.out _ rfl exZ ?_; intro b2 w2 HS2; clear HS1) | (refine wpl_alloc HS3.out _ rfl exZ ?_; intro bx w4 HS4; clear HS3))
    | (first | (refine wpl_load HS2.out 2 rfl rfl ptrO rfl ?_) | (refine wpl_load HS5.out 3 rfl rfl ptrO rfl ?_) | (refine wpl_load HS6.out 3 rfl rfl ptrO rfl ?_) | (refine wpl_load HS7.out 3 rfl rfl ptrO rfl ?_) | (refine wpl_load HS8.out 3 rfl rfl ptrO rfl ?_) | (refine wpl_load HS9.out 3 rfl rfl ptrO rfl ?_) | (refine wpl_load HS10.out 3 rfl rfl ptrO rfl ?_))
    | (go_at_call 17; refine (HS2.out.call1 C1.out).mono ?_; rintro e w3 ⟨J, ⟨rfl, rfl⟩, hs⟩; simp only [List.cons_append, List.nil_append] at hs; have HS3 := Lib.hid hs; clear hs HS2)
    | (refine wpl_storeS HS4.out 1 rfl rfl exT rfl fitsX' ?_; intro w5 hs; have HS5 := Lib.hid (show St _ _ _ (_ :: _ :: _ :: _ :: []) from hs.out); clear hs HS4)
    | (go_at_call 32; first | (refine (HS5.out.call1 M0.out).mono ?_; rintro e w6 ⟨J, ⟨rfl, rfl⟩, hs⟩; simp only [List.cons_append, List.nil_append] at hs; have HS6 := Lib.hid hs; clear hs HS5))
    | (go_at_call 79; refine (HS6.out.call1 CL.out).mono ?_; rintro e w20 ⟨J, ⟨v2, es2, rfl, rfl, hx2, h12⟩, hs⟩; simp only [List.cons_append, List.nil_append] at hs; have HX2 := Lib.hid hx2; obtain ⟨q2, l2, cap2, rfl⟩ := hs.lsLen 1 rfl; have HS20 := Lib.hid hs; clear hs hx2)
    | (refine wpl_store HS20.out 2 rfl rfl intO (of_decide_eq_true rfl) rfl ?_; intro w21 hs; have HS21 := Lib.hid (show St _ _ _ (_ :: _ :: _ :: _ :: _ :: []) from hs.out); clear hs HS20)
    | (refine wpl_store HS21.out 2 rfl rfl exprsO (of_decide_eq_true rfl) rfl ?_; intro w22 hs; have HS22 := Lib.hid (show St _ _ _ (_ :: _ :: _ :: _ :: _ :: []) from hs.out); clear hs HS21)
    | (refine wpl_loadS HS22.out 2 rfl rfl exT rfl ?_)
    | (refine wpl_storeS HS22.out 3 rfl rfl exT rfl fitsX' ?_; intro w23 hs; have HS23 := Lib.hid (show St _ _ _ (_ :: _ :: _ :: _ :: _ :: []) from hs.out); clear hs HS22))
  refine bp_cell HS23.out 3 exT rfl rfl rfl rfl rfl ⟨_, ⟨23, _, 0, [], _, es2, rfl, rfl, fun h => ?_, rfl⟩, HS23.out.sel [0, 0] rfl⟩
  exact congrArg (fun z => Sx.E.mk 23 (Sx.tk L σ).pos 0 [] z) (HX2.out h)
set_option maxHeartbeats 8000000 in
set_option maxRecDepth 100000 in
theorem called_carry (b : Nat) (L : List Lx.Tok) (hL : Sx.Ok L) (σ : Sx.R) (hE : ∀ τ, Sx.M L τ + 16 ≤ Sx.M L σ → CE b L τ) (hse : Sx.sees L Sx.wCarry σ = true) : Fn 85 #[.pointer (some ⟨b, 0, none⟩)] [rd b L σ]
    (EP b L (Sx.W L (Sx.text L σ) σ)) := by
  intro w P hP h0
  have HS := Lib.hid (St.start hP h0)
  have hat := HS.out.at'
  obtain ⟨he, htx⟩ := Sx.sees_text hse
  have C1 := Lib.hid (next_fn b L σ)
  rw [Sx.pk_tk he] at C1
  have M0 := Lib.hid (may_fn b L hL σ Sx.wMulhi (by decide))
  rw [Sx.may_no (show Sx.sees L Sx.wMulhi σ = false from Sx.sees_two hse (by decide))] at M0
  have M1 := Lib.hid (may_fn b L hL σ Sx.wCarry (by decide))
  rw [Sx.may_is hse] at M1
  have CL := Lib.hid (list_many b L hL { σ with at' := σ.at' + 1 } 2 (by decide) (fun τ h => hE τ (by have := Sx.M_next he hat; omega)))
  have hW := Sx.W_call hL.ends hat he (w := (Sx.wCarry, 24, 2)) (by rw [htx]; decide) (by rw [htx]; decide)
  rw [hW]
  have hF1 := tokF1
  have hmf : ∀ (fn : Go.Fn) (first cap : Array Value) (w : World), (Instr.makeFunc fn first cap).run Tryd.prog w = .ok (.func fn first cap) w := fun _ _ _ _ => rfl
  clear h0 hP hL hE hse hat he htx hW
  go_enter Tryd.func85, Tryd.ntmps85
  go_wp2_with (first
    | (refine wpl_box HS.out rfl rfl ?_; intro br w1 HS1; clear HS)
    | (first | (refine wpl_alloc HS1.out _ rfl exZ ?_; intro b2 w2 HS2; clear HS1) | (refine wpl_alloc HS3.out _ rfl exZ ?_; intro bx w4 HS4; clear HS3))
    | (first | (refine wpl_load HS2.out 2 rfl rfl ptrO rfl ?_) | (refine wpl_load HS5.out 3 rfl rfl ptrO rfl ?_) | (refine wpl_load HS6.out 3 rfl rfl ptrO rfl ?_) | (refine wpl_load HS7.out 3 rfl rfl ptrO rfl ?_) | (refine wpl_load HS8.out 3 rfl rfl ptrO rfl ?_) | (refine wpl_load HS9.out 3 rfl rfl ptrO rfl ?_) | (refine wpl_load HS10.out 3 rfl rfl ptrO rfl ?_))
    | (go_at_call 17; refine (HS2.out.call1 C1.out).mono ?_; rintro e w3 ⟨J, ⟨rfl, rfl⟩, hs⟩; simp only [List.cons_append, List.nil_append] at hs; have HS3 := Lib.hid hs; clear hs HS2)
    | (refine wpl_storeS HS4.out 1 rfl rfl exT rfl fitsX' ?_; intro w5 hs; have HS5 := Lib.hid (show St _ _ _ (_ :: _ :: _ :: _ :: []) from hs.out); clear hs HS4)
    | (go_at_call 32; first | (refine (HS5.out.call1 M0.out).mono ?_; rintro e w6 ⟨J, ⟨rfl, rfl⟩, hs⟩; simp only [List.cons_append, List.nil_append] at hs; have HS6 := Lib.hid hs; clear hs HS5) | (refine (HS6.out.call1 M1.out).mono ?_; rintro e w7 ⟨J, ⟨rfl, rfl⟩, hs⟩; simp only [List.cons_append, List.nil_append] at hs; have HS7 := Lib.hid hs; clear hs HS6))
    | (go_at_call 79; refine (HS7.out.call1 CL.out).mono ?_; rintro e w20 ⟨J, ⟨v2, es2, rfl, rfl, hx2, h12⟩, hs⟩; simp only [List.cons_append, List.nil_append] at hs; have HX2 := Lib.hid hx2; obtain ⟨q2, l2, cap2, rfl⟩ := hs.lsLen 1 rfl; have HS20 := Lib.hid hs; clear hs hx2)
    | (refine wpl_store HS20.out 2 rfl rfl intO (of_decide_eq_true rfl) rfl ?_; intro w21 hs; have HS21 := Lib.hid (show St _ _ _ (_ :: _ :: _ :: _ :: _ :: []) from hs.out); clear hs HS20)
    | (refine wpl_store HS21.out 2 rfl rfl exprsO (of_decide_eq_true rfl) rfl ?_; intro w22 hs; have HS22 := Lib.hid (show St _ _ _ (_ :: _ :: _ :: _ :: _ :: []) from hs.out); clear hs HS21)
    | (refine wpl_loadS HS22.out 2 rfl rfl exT rfl ?_)
    | (refine wpl_storeS HS22.out 3 rfl rfl exT rfl fitsX' ?_; intro w23 hs; have HS23 := Lib.hid (show St _ _ _ (_ :: _ :: _ :: _ :: _ :: []) from hs.out); clear hs HS22))
  refine bp_cell HS23.out 3 exT rfl rfl rfl rfl rfl ⟨_, ⟨24, _, 0, [], _, es2, rfl, rfl, fun h => ?_, rfl⟩, HS23.out.sel [0, 0] rfl⟩
  exact congrArg (fun z => Sx.E.mk 24 (Sx.tk L σ).pos 0 [] z) (HX2.out h)
set_option maxHeartbeats 8000000 in
set_option maxRecDepth 100000 in
theorem called_select (b : Nat) (L : List Lx.Tok) (hL : Sx.Ok L) (σ : Sx.R) (hE : ∀ τ, Sx.M L τ + 16 ≤ Sx.M L σ → CE b L τ) (hse : Sx.sees L Sx.wSelect σ = true) : Fn 85 #[.pointer (some ⟨b, 0, none⟩)] [rd b L σ]
    (EP b L (Sx.W L (Sx.text L σ) σ)) := by
  intro w P hP h0
  have HS := Lib.hid (St.start hP h0)
  have hat := HS.out.at'
  obtain ⟨he, htx⟩ := Sx.sees_text hse
  have C1 := Lib.hid (next_fn b L σ)
  rw [Sx.pk_tk he] at C1
  have M0 := Lib.hid (may_fn b L hL σ Sx.wMulhi (by decide))
  rw [Sx.may_no (show Sx.sees L Sx.wMulhi σ = false from Sx.sees_two hse (by decide))] at M0
  have M1 := Lib.hid (may_fn b L hL σ Sx.wCarry (by decide))
  rw [Sx.may_no (show Sx.sees L Sx.wCarry σ = false from Sx.sees_two hse (by decide))] at M1
  have M2 := Lib.hid (may_fn b L hL σ Sx.wSelect (by decide))
  rw [Sx.may_is hse] at M2
  have CL := Lib.hid (list_many b L hL { σ with at' := σ.at' + 1 } 3 (by decide) (fun τ h => hE τ (by have := Sx.M_next he hat; omega)))
  have hW := Sx.W_call hL.ends hat he (w := (Sx.wSelect, 25, 3)) (by rw [htx]; decide) (by rw [htx]; decide)
  rw [hW]
  have hF1 := tokF1
  have hmf : ∀ (fn : Go.Fn) (first cap : Array Value) (w : World), (Instr.makeFunc fn first cap).run Tryd.prog w = .ok (.func fn first cap) w := fun _ _ _ _ => rfl
  clear h0 hP hL hE hse hat he htx hW
  go_enter Tryd.func85, Tryd.ntmps85
  go_wp2_with (first
    | (refine wpl_box HS.out rfl rfl ?_; intro br w1 HS1; clear HS)
    | (first | (refine wpl_alloc HS1.out _ rfl exZ ?_; intro b2 w2 HS2; clear HS1) | (refine wpl_alloc HS3.out _ rfl exZ ?_; intro bx w4 HS4; clear HS3))
    | (first | (refine wpl_load HS2.out 2 rfl rfl ptrO rfl ?_) | (refine wpl_load HS5.out 3 rfl rfl ptrO rfl ?_) | (refine wpl_load HS6.out 3 rfl rfl ptrO rfl ?_) | (refine wpl_load HS7.out 3 rfl rfl ptrO rfl ?_) | (refine wpl_load HS8.out 3 rfl rfl ptrO rfl ?_) | (refine wpl_load HS9.out 3 rfl rfl ptrO rfl ?_) | (refine wpl_load HS10.out 3 rfl rfl ptrO rfl ?_))
    | (go_at_call 17; refine (HS2.out.call1 C1.out).mono ?_; rintro e w3 ⟨J, ⟨rfl, rfl⟩, hs⟩; simp only [List.cons_append, List.nil_append] at hs; have HS3 := Lib.hid hs; clear hs HS2)
    | (refine wpl_storeS HS4.out 1 rfl rfl exT rfl fitsX' ?_; intro w5 hs; have HS5 := Lib.hid (show St _ _ _ (_ :: _ :: _ :: _ :: []) from hs.out); clear hs HS4)
    | (go_at_call 32; first | (refine (HS5.out.call1 M0.out).mono ?_; rintro e w6 ⟨J, ⟨rfl, rfl⟩, hs⟩; simp only [List.cons_append, List.nil_append] at hs; have HS6 := Lib.hid hs; clear hs HS5) | (refine (HS6.out.call1 M1.out).mono ?_; rintro e w7 ⟨J, ⟨rfl, rfl⟩, hs⟩; simp only [List.cons_append, List.nil_append] at hs; have HS7 := Lib.hid hs; clear hs HS6) | (refine (HS7.out.call1 M2.out).mono ?_; rintro e w8 ⟨J, ⟨rfl, rfl⟩, hs⟩; simp only [List.cons_append, List.nil_append] at hs; have HS8 := Lib.hid hs; clear hs HS7))
    | (go_at_call 79; refine (HS8.out.call1 CL.out).mono ?_; rintro e w20 ⟨J, ⟨v2, es2, rfl, rfl, hx2, h12⟩, hs⟩; simp only [List.cons_append, List.nil_append] at hs; have HX2 := Lib.hid hx2; obtain ⟨q2, l2, cap2, rfl⟩ := hs.lsLen 1 rfl; have HS20 := Lib.hid hs; clear hs hx2)
    | (refine wpl_store HS20.out 2 rfl rfl intO (of_decide_eq_true rfl) rfl ?_; intro w21 hs; have HS21 := Lib.hid (show St _ _ _ (_ :: _ :: _ :: _ :: _ :: []) from hs.out); clear hs HS20)
    | (refine wpl_store HS21.out 2 rfl rfl exprsO (of_decide_eq_true rfl) rfl ?_; intro w22 hs; have HS22 := Lib.hid (show St _ _ _ (_ :: _ :: _ :: _ :: _ :: []) from hs.out); clear hs HS21)
    | (refine wpl_loadS HS22.out 2 rfl rfl exT rfl ?_)
    | (refine wpl_storeS HS22.out 3 rfl rfl exT rfl fitsX' ?_; intro w23 hs; have HS23 := Lib.hid (show St _ _ _ (_ :: _ :: _ :: _ :: _ :: []) from hs.out); clear hs HS22))
  refine bp_cell HS23.out 3 exT rfl rfl rfl rfl rfl ⟨_, ⟨25, _, 0, [], _, es2, rfl, rfl, fun h => ?_, rfl⟩, HS23.out.sel [0, 0] rfl⟩
  exact congrArg (fun z => Sx.E.mk 25 (Sx.tk L σ).pos 0 [] z) (HX2.out h)
set_option maxHeartbeats 8000000 in
set_option maxRecDepth 100000 in
theorem called_word (b : Nat) (L : List Lx.Tok) (hL : Sx.Ok L) (σ : Sx.R) (hE : ∀ τ, Sx.M L τ + 16 ≤ Sx.M L σ → CE b L τ) (hse : Sx.sees L Sx.wWord σ = true) : Fn 85 #[.pointer (some ⟨b, 0, none⟩)] [rd b L σ]
    (EP b L (Sx.W L (Sx.text L σ) σ)) := by
  intro w P hP h0
  have HS := Lib.hid (St.start hP h0)
  have hat := HS.out.at'
  obtain ⟨he, htx⟩ := Sx.sees_text hse
  have C1 := Lib.hid (next_fn b L σ)
  rw [Sx.pk_tk he] at C1
  have M0 := Lib.hid (may_fn b L hL σ Sx.wMulhi (by decide))
  rw [Sx.may_no (show Sx.sees L Sx.wMulhi σ = false from Sx.sees_two hse (by decide))] at M0
  have M1 := Lib.hid (may_fn b L hL σ Sx.wCarry (by decide))
  rw [Sx.may_no (show Sx.sees L Sx.wCarry σ = false from Sx.sees_two hse (by decide))] at M1
  have M2 := Lib.hid (may_fn b L hL σ Sx.wSelect (by decide))
  rw [Sx.may_no (show Sx.sees L Sx.wSelect σ = false from Sx.sees_two hse (by decide))] at M2
  have M3 := Lib.hid (may_fn b L hL σ Sx.wWord (by decide))
  rw [Sx.may_is hse] at M3
  have CL := Lib.hid (list_many b L hL { σ with at' := σ.at' + 1 } 1 (by decide) (fun τ h => hE τ (by have := Sx.M_next he hat; omega)))
  have hW := Sx.W_call hL.ends hat he (w := (Sx.wWord, 26, 1)) (by rw [htx]; decide) (by rw [htx]; decide)
  rw [hW]
  have hF1 := tokF1
  have hmf : ∀ (fn : Go.Fn) (first cap : Array Value) (w : World), (Instr.makeFunc fn first cap).run Tryd.prog w = .ok (.func fn first cap) w := fun _ _ _ _ => rfl
  clear h0 hP hL hE hse hat he htx hW
  go_enter Tryd.func85, Tryd.ntmps85
  go_wp2_with (first
    | (refine wpl_box HS.out rfl rfl ?_; intro br w1 HS1; clear HS)
    | (first | (refine wpl_alloc HS1.out _ rfl exZ ?_; intro b2 w2 HS2; clear HS1) | (refine wpl_alloc HS3.out _ rfl exZ ?_; intro bx w4 HS4; clear HS3))
    | (first | (refine wpl_load HS2.out 2 rfl rfl ptrO rfl ?_) | (refine wpl_load HS5.out 3 rfl rfl ptrO rfl ?_) | (refine wpl_load HS6.out 3 rfl rfl ptrO rfl ?_) | (refine wpl_load HS7.out 3 rfl rfl ptrO rfl ?_) | (refine wpl_load HS8.out 3 rfl rfl ptrO rfl ?_) | (refine wpl_load HS9.out 3 rfl rfl ptrO rfl ?_) | (refine wpl_load HS10.out 3 rfl rfl ptrO rfl ?_))
    | (go_at_call 17; refine (HS2.out.call1 C1.out).mono ?_; rintro e w3 ⟨J, ⟨rfl, rfl⟩, hs⟩; simp only [List.cons_append, List.nil_append] at hs; have HS3 := Lib.hid hs; clear hs HS2)
    | (refine wpl_storeS HS4.out 1 rfl rfl exT rfl fitsX' ?_; intro w5 hs; have HS5 := Lib.hid (show St _ _ _ (_ :: _ :: _ :: _ :: []) from hs.out); clear hs HS4)
    | (go_at_call 32; first | (refine (HS5.out.call1 M0.out).mono ?_; rintro e w6 ⟨J, ⟨rfl, rfl⟩, hs⟩; simp only [List.cons_append, List.nil_append] at hs; have HS6 := Lib.hid hs; clear hs HS5) | (refine (HS6.out.call1 M1.out).mono ?_; rintro e w7 ⟨J, ⟨rfl, rfl⟩, hs⟩; simp only [List.cons_append, List.nil_append] at hs; have HS7 := Lib.hid hs; clear hs HS6) | (refine (HS7.out.call1 M2.out).mono ?_; rintro e w8 ⟨J, ⟨rfl, rfl⟩, hs⟩; simp only [List.cons_append, List.nil_append] at hs; have HS8 := Lib.hid hs; clear hs HS7) | (refine (HS8.out.call1 M3.out).mono ?_; rintro e w9 ⟨J, ⟨rfl, rfl⟩, hs⟩; simp only [List.cons_append, List.nil_append] at hs; have HS9 := Lib.hid hs; clear hs HS8))
    | (go_at_call 79; refine (HS9.out.call1 CL.out).mono ?_; rintro e w20 ⟨J, ⟨v2, es2, rfl, rfl, hx2, h12⟩, hs⟩; simp only [List.cons_append, List.nil_append] at hs; have HX2 := Lib.hid hx2; obtain ⟨q2, l2, cap2, rfl⟩ := hs.lsLen 1 rfl; have HS20 := Lib.hid hs; clear hs hx2)
    | (refine wpl_store HS20.out 2 rfl rfl intO (of_decide_eq_true rfl) rfl ?_; intro w21 hs; have HS21 := Lib.hid (show St _ _ _ (_ :: _ :: _ :: _ :: _ :: []) from hs.out); clear hs HS20)
    | (refine wpl_store HS21.out 2 rfl rfl exprsO (of_decide_eq_true rfl) rfl ?_; intro w22 hs; have HS22 := Lib.hid (show St _ _ _ (_ :: _ :: _ :: _ :: _ :: []) from hs.out); clear hs HS21)
    | (refine wpl_loadS HS22.out 2 rfl rfl exT rfl ?_)
    | (refine wpl_storeS HS22.out 3 rfl rfl exT rfl fitsX' ?_; intro w23 hs; have HS23 := Lib.hid (show St _ _ _ (_ :: _ :: _ :: _ :: _ :: []) from hs.out); clear hs HS22))
  refine bp_cell HS23.out 3 exT rfl rfl rfl rfl rfl ⟨_, ⟨26, _, 0, [], _, es2, rfl, rfl, fun h => ?_, rfl⟩, HS23.out.sel [0, 0] rfl⟩
  exact congrArg (fun z => Sx.E.mk 26 (Sx.tk L σ).pos 0 [] z) (HX2.out h)
set_option maxHeartbeats 8000000 in
set_option maxRecDepth 100000 in
theorem called_ror (b : Nat) (L : List Lx.Tok) (hL : Sx.Ok L) (σ : Sx.R) (hE : ∀ τ, Sx.M L τ + 16 ≤ Sx.M L σ → CE b L τ) (hse : Sx.sees L Sx.wRor σ = true) : Fn 85 #[.pointer (some ⟨b, 0, none⟩)] [rd b L σ]
    (EP b L (Sx.W L (Sx.text L σ) σ)) := by
  intro w P hP h0
  have HS := Lib.hid (St.start hP h0)
  have hat := HS.out.at'
  obtain ⟨he, htx⟩ := Sx.sees_text hse
  have C1 := Lib.hid (next_fn b L σ)
  rw [Sx.pk_tk he] at C1
  have M0 := Lib.hid (may_fn b L hL σ Sx.wMulhi (by decide))
  rw [Sx.may_no (show Sx.sees L Sx.wMulhi σ = false from Sx.sees_two hse (by decide))] at M0
  have M1 := Lib.hid (may_fn b L hL σ Sx.wCarry (by decide))
  rw [Sx.may_no (show Sx.sees L Sx.wCarry σ = false from Sx.sees_two hse (by decide))] at M1
  have M2 := Lib.hid (may_fn b L hL σ Sx.wSelect (by decide))
  rw [Sx.may_no (show Sx.sees L Sx.wSelect σ = false from Sx.sees_two hse (by decide))] at M2
  have M3 := Lib.hid (may_fn b L hL σ Sx.wWord (by decide))
  rw [Sx.may_no (show Sx.sees L Sx.wWord σ = false from Sx.sees_two hse (by decide))] at M3
  have M4 := Lib.hid (may_fn b L hL σ Sx.wRor (by decide))
  rw [Sx.may_is hse] at M4
  have CL := Lib.hid (fun br bx => list_ror b L hL { σ with at' := σ.at' + 1 } (fun τ h => hE τ (by have := Sx.M_next he hat; omega)) br bx (Sx.tk L σ).pos)
  rw [Sx.W_ror hL.ends hat he htx]
  have hF1 := tokF1
  have hmf : ∀ (fn : Go.Fn) (first cap : Array Value) (w : World), (Instr.makeFunc fn first cap).run Tryd.prog w = .ok (.func fn first cap) w := fun _ _ _ _ => rfl
  clear h0 hP hL hE hse hat he htx
  go_enter Tryd.func85, Tryd.ntmps85
  go_wp2_with (first
    | (refine wpl_box HS.out rfl rfl ?_; intro br w1 HS1; clear HS)
    | (first | (refine wpl_alloc HS1.out _ rfl exZ ?_; intro b2 w2 HS2; clear HS1) | (refine wpl_alloc HS3.out _ rfl exZ ?_; intro bx w4 HS4; clear HS3))
    | (first | (refine wpl_load HS2.out 2 rfl rfl ptrO rfl ?_) | (refine wpl_load HS5.out 3 rfl rfl ptrO rfl ?_) | (refine wpl_load HS6.out 3 rfl rfl ptrO rfl ?_) | (refine wpl_load HS7.out 3 rfl rfl ptrO rfl ?_) | (refine wpl_load HS8.out 3 rfl rfl ptrO rfl ?_) | (refine wpl_load HS9.out 3 rfl rfl ptrO rfl ?_) | (refine wpl_load HS10.out 3 rfl rfl ptrO rfl ?_))
    | (go_at_call 17; refine (HS2.out.call1 C1.out).mono ?_; rintro e w3 ⟨J, ⟨rfl, rfl⟩, hs⟩; simp only [List.cons_append, List.nil_append] at hs; have HS3 := Lib.hid hs; clear hs HS2)
    | (refine wpl_storeS HS4.out 1 rfl rfl exT rfl fitsX' ?_; intro w5 hs; have HS5 := Lib.hid (show St _ _ _ (_ :: _ :: _ :: _ :: []) from hs.out); clear hs HS4)
    | (go_at_call 32; first | (refine (HS5.out.call1 M0.out).mono ?_; rintro e w6 ⟨J, ⟨rfl, rfl⟩, hs⟩; simp only [List.cons_append, List.nil_append] at hs; have HS6 := Lib.hid hs; clear hs HS5) | (refine (HS6.out.call1 M1.out).mono ?_; rintro e w7 ⟨J, ⟨rfl, rfl⟩, hs⟩; simp only [List.cons_append, List.nil_append] at hs; have HS7 := Lib.hid hs; clear hs HS6) | (refine (HS7.out.call1 M2.out).mono ?_; rintro e w8 ⟨J, ⟨rfl, rfl⟩, hs⟩; simp only [List.cons_append, List.nil_append] at hs; have HS8 := Lib.hid hs; clear hs HS7) | (refine (HS8.out.call1 M3.out).mono ?_; rintro e w9 ⟨J, ⟨rfl, rfl⟩, hs⟩; simp only [List.cons_append, List.nil_append] at hs; have HS9 := Lib.hid hs; clear hs HS8) | (refine (HS9.out.call1 M4.out).mono ?_; rintro e w10 ⟨J, ⟨rfl, rfl⟩, hs⟩; simp only [List.cons_append, List.nil_append] at hs; have HS10 := Lib.hid hs; clear hs HS9))
    | (go_at_call 79; refine (St.call (pre := rd b L _ :: capI b br bx (Sx.tk L σ).pos 0) (I := [_]) (St.sel HS10.out [0, 2, 0, 0] rfl) (CL.out br bx)).mono ?_; rintro e w20 ⟨J, ⟨v2, es2, nn, rfl, rfl, hx2, h12⟩, hs⟩; simp only [List.cons_append, List.nil_append] at hs; have HX2 := Lib.hid hx2; obtain ⟨q2, l2, cap2, rfl⟩ := hs.lsLen 1 rfl; have HS20 := Lib.hid hs; clear hs hx2)
    | (refine wpl_store HS20.out 3 rfl rfl intO (of_decide_eq_true rfl) rfl ?_; intro w21 hs; have HS21 := Lib.hid (show St _ _ _ (_ :: _ :: _ :: _ :: _ :: []) from hs.out); clear hs HS20)
    | (refine wpl_store HS21.out 3 rfl rfl exprsO (of_decide_eq_true rfl) rfl ?_; intro w22 hs; have HS22 := Lib.hid (show St _ _ _ (_ :: _ :: _ :: _ :: _ :: []) from hs.out); clear hs HS21)
    | (refine wpl_loadS HS22.out 3 rfl rfl exT rfl ?_)
    | (refine wpl_storeS HS22.out 4 rfl rfl exT rfl fitsX' ?_; intro w23 hs; have HS23 := Lib.hid (show St _ _ _ (_ :: _ :: _ :: _ :: _ :: []) from hs.out); clear hs HS22))
  refine bp_cell HS23.out 4 exT rfl rfl rfl rfl rfl ⟨_, ⟨16, _, nn, [], _, es2, rfl, rfl, fun h => ?_, rfl⟩, HS23.out.sel [0, 0] rfl⟩
  have h2 := HX2.out h
  rw [h2.2, ← h2.1]
  rfl
set_option maxHeartbeats 8000000 in
set_option maxRecDepth 100000 in
theorem called_no (b : Nat) (L : List Lx.Tok) (hL : Sx.Ok L) (σ : Sx.R) (hno : ∀ s, s ∈ [Sx.wMulhi, Sx.wCarry, Sx.wSelect, Sx.wWord, Sx.wRor] → Sx.sees L s σ = false) (r : Sx.E × Sx.R) (hr : r.2 = Sx.wrong L 10 σ) : Fn 85 #[.pointer (some ⟨b, 0, none⟩)] [rd b L σ]
    (EP b L r) := by
  intro w P hP h0
  have HS := Lib.hid (St.start hP h0)
  have C1 := Lib.hid (next_fn b L σ)
  have C2 := Lib.hid (fail_fn b L σ 10 (by decide))
  have M0 := Lib.hid (may_fn b L hL σ Sx.wMulhi (by decide))
  rw [Sx.may_no (show Sx.sees L Sx.wMulhi σ = false from hno Sx.wMulhi (by decide))] at M0
  have M1 := Lib.hid (may_fn b L hL σ Sx.wCarry (by decide))
  rw [Sx.may_no (show Sx.sees L Sx.wCarry σ = false from hno Sx.wCarry (by decide))] at M1
  have M2 := Lib.hid (may_fn b L hL σ Sx.wSelect (by decide))
  rw [Sx.may_no (show Sx.sees L Sx.wSelect σ = false from hno Sx.wSelect (by decide))] at M2
  have M3 := Lib.hid (may_fn b L hL σ Sx.wWord (by decide))
  rw [Sx.may_no (show Sx.sees L Sx.wWord σ = false from hno Sx.wWord (by decide))] at M3
  have M4 := Lib.hid (may_fn b L hL σ Sx.wRor (by decide))
  rw [Sx.may_no (show Sx.sees L Sx.wRor σ = false from hno Sx.wRor (by decide))] at M4
  have hre : r.2.err ≠ 0 := by rw [hr]; exact Sx.wrong_err (by decide)
  have HR := Lib.hid (And.intro hr hre)
  have hF1 := tokF1
  clear h0 hP hL hno hr hre
  go_enter Tryd.func85, Tryd.ntmps85
  go_wp2_with (first
    | (refine wpl_box HS.out rfl rfl ?_; intro br w1 HS1; clear HS)
    | (first | (refine wpl_alloc HS1.out _ rfl exZ ?_; intro b2 w2 HS2; clear HS1) | (refine wpl_alloc HS3.out _ rfl exZ ?_; intro bx w4 HS4; clear HS3))
    | (first | (refine wpl_load HS2.out 2 rfl rfl ptrO rfl ?_) | (refine wpl_load HS5.out 3 rfl rfl ptrO rfl ?_) | (refine wpl_load HS6.out 3 rfl rfl ptrO rfl ?_) | (refine wpl_load HS7.out 3 rfl rfl ptrO rfl ?_) | (refine wpl_load HS8.out 3 rfl rfl ptrO rfl ?_) | (refine wpl_load HS9.out 3 rfl rfl ptrO rfl ?_) | (refine wpl_load HS10.out 3 rfl rfl ptrO rfl ?_))
    | (go_at_call 17; refine (HS2.out.call1 C1.out).mono ?_; rintro e w3 ⟨J, ⟨rfl, rfl⟩, hs⟩; simp only [List.cons_append, List.nil_append] at hs; have HS3 := Lib.hid hs; clear hs HS2)
    | (refine wpl_storeS HS4.out 1 rfl rfl exT rfl fitsX' ?_; intro w5 hs; have HS5 := Lib.hid (show St _ _ _ (_ :: _ :: _ :: _ :: []) from hs.out); clear hs HS4)
    | (go_at_call 32; first | (refine (HS5.out.call1 M0.out).mono ?_; rintro e w6 ⟨J, ⟨rfl, rfl⟩, hs⟩; simp only [List.cons_append, List.nil_append] at hs; have HS6 := Lib.hid hs; clear hs HS5) | (refine (HS6.out.call1 M1.out).mono ?_; rintro e w7 ⟨J, ⟨rfl, rfl⟩, hs⟩; simp only [List.cons_append, List.nil_append] at hs; have HS7 := Lib.hid hs; clear hs HS6) | (refine (HS7.out.call1 M2.out).mono ?_; rintro e w8 ⟨J, ⟨rfl, rfl⟩, hs⟩; simp only [List.cons_append, List.nil_append] at hs; have HS8 := Lib.hid hs; clear hs HS7) | (refine (HS8.out.call1 M3.out).mono ?_; rintro e w9 ⟨J, ⟨rfl, rfl⟩, hs⟩; simp only [List.cons_append, List.nil_append] at hs; have HS9 := Lib.hid hs; clear hs HS8) | (refine (HS9.out.call1 M4.out).mono ?_; rintro e w10 ⟨J, ⟨rfl, rfl⟩, hs⟩; simp only [List.cons_append, List.nil_append] at hs; have HS10 := Lib.hid hs; clear hs HS9))
    | (go_at_call 45; refine (HS10.out.call1 C2.out).mono ?_; rintro e w20 ⟨J, ⟨rfl, rfl⟩, hs⟩; simp only [List.cons_append, List.nil_append] at hs; have HS20 := Lib.hid hs; clear hs HS10)
    | (refine wpl_loadS HS20.out 1 rfl rfl exT rfl ?_)
    | (refine wpl_storeS HS20.out 2 rfl rfl exT rfl fitsX' ?_; intro w23 hs; have HS23 := Lib.hid (show St _ _ _ (_ :: _ :: _ :: _ :: []) from hs.out); clear hs HS20))
  refine bp_cell HS23.out 2 exT rfl rfl rfl rfl rfl ⟨_, ⟨0, _, 0, [], _, [], rfl, rfl, fun h => absurd h HR.out.2, rfl⟩, ?_⟩
  rw [HR.out.1]
  exact (St.sel HS23.out [0] rfl).to fun P h => h.under fun P h => lsI_nil h
end Go.Proofs.YtbnhegipdfkdgaaDoor
