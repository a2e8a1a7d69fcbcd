/-
A statement by what it begins with, a block, and so all of statements by induction.
-/
import Derived.Test.YtbnhegipdfkdgaaDoorP31a
namespace Go.Proofs.YtbnhegipdfkdgaaDoor
open Go.ChangeShapes Go.WideShapes Go.ChangeAt Go.RowKit
set_option linter.unusedVariables false
set_option linter.unusedSimpArgs false

theorem Sx.S.at_mk (p k q m : Int) (nm : List UInt8) (ty : Sx.Ty) (es : List Sx.E) (bs cs : List Sx.S) (h : Bool) : Sx.S.at' p (.mk k q m nm ty es bs cs h) = .mk k p m nm ty es bs cs h := rfl
theorem branch_any (b : Nat) (L : List Lx.Tok) (hL : Sx.Ok L) (σ : Sx.R) (hB : ∀ τ, Sx.M L τ ≤ Sx.M L σ → CB b L τ) : Fn 60 #[.pointer (some ⟨b, 0, none⟩)] [rd b L σ] (SP b L (Sx.brn L σ)) := by
  cases h : Sx.sees L Sx.wElse (Sx.Bl L (Sx.X L 0 σ).2).2
  · exact branch_no b L hL σ hB h
  · exact branch_yes b L hL σ hB h
set_option maxHeartbeats 8000000 in
set_option maxRecDepth 100000 in
theorem stmt_let (b : Nat) (L : List Lx.Tok) (hL : Sx.Ok L) (σ : Sx.R) (he : σ.err = 0) (hB : ∀ τ, Sx.M L τ + 16 ≤ Sx.M L σ → CB b L τ) (hse : Sx.sees L Sx.wLet σ = true) : CS b L σ := by
  intro w P hP h0
  have HS := Lib.hid (St.start hP h0)
  have hat := HS.out.at'
  have hB' : ∀ τ, Sx.M L τ ≤ Sx.M L { σ with at' := σ.at' + 1 } → CB b L τ := fun τ h => hB τ (Nat.le_trans (Nat.add_le_add_right h 16) (Sx.M_next he hat))
  have C1 := Lib.hid (next_fn b L σ)
  rw [Sx.pk_tk he] at C1
  have M0 := Lib.hid (may_fn b L hL σ Sx.wLet (by decide))
  rw [Sx.may_is hse] at M0
  have hst : Sx.stm L σ = Sx.lett L { σ with at' := σ.at' + 1 } := by
    unfold Sx.stm
    simp only []
    rw [if_pos hse]
  rw [Sx.St_eq hL.ends hat he, hst]
  have CX := Lib.hid (let_fn b L hL { σ with at' := σ.at' + 1 })
  have hF1 := tokF1
  clear h0 hP hL hB hB' hat he hst hse
  go_enter Tryd.func50, Tryd.ntmps50
  go_wp2_with (first
    | (first | (refine wpl_alloc HS.out _ rfl stZ ?_; intro b1 w1 HS1; clear HS) | (refine wpl_alloc HS2.out _ rfl stZ ?_; intro b3 w3 HS3; clear HS2))
    | (go_at_call 17; refine (HS1.out.call1 C1.out).mono ?_; rintro e w2 ⟨J, ⟨rfl, rfl⟩, hs⟩; simp only [List.cons_append, List.nil_append] at hs; have HS2 := Lib.hid hs; clear hs; clear HS1)
    | (go_at_call 32; first | (refine (HS3.out.call1 M0.out).mono ?_; rintro e w4 ⟨J, ⟨rfl, rfl⟩, hs⟩; simp only [List.cons_append, List.nil_append] at hs; have HS4 := Lib.hid hs; clear hs HS3))
    | (go_at_call 58; refine (HS4.out.call1 CX.out).mono ?_; rintro e w20 ⟨J, ⟨k, p, m, nm, te, tl, tb, q1, q2, q3, l1, l2, l3, c1, c2, c3, es, bs, cs, hh, rfl, rfl, hx⟩, hs⟩; simp only [List.cons_append, List.nil_append] at hs; have HX := Lib.hid hx; have HS20 := Lib.hid hs; clear hs hx)
    | (first | (refine wpl_storeS HS20.out 4 rfl rfl stT rfl fitsS ?_; intro w21 hs; have HS21 := Lib.hid (show St _ _ _ (_ :: _ :: _ :: _ :: _ :: _ :: []) from hs.out); clear hs HS20) | (refine wpl_storeS HS22.out 5 rfl rfl stT rfl fitsS ?_; intro w23 hs; have HS23 := Lib.hid (show St _ _ _ (_ :: _ :: _ :: _ :: _ :: _ :: []) from hs.out); clear hs HS22))
    | (refine wpl_store HS21.out 4 rfl rfl intO (of_decide_eq_true rfl) rfl ?_; intro w22 hs; have HS22 := Lib.hid (show St _ _ _ (_ :: _ :: _ :: _ :: _ :: _ :: []) from hs.out); clear hs HS21)
    | (refine wpl_loadS HS22.out 4 rfl rfl stT rfl ?_))
  refine bp_cell HS23.out 5 stT rfl rfl rfl rfl rfl ⟨_, ⟨k, (Sx.tk L σ).pos, m, nm, te, tl, tb, _, _, _, _, _, _, _, _, _, es, bs, cs, hh, rfl, rfl, fun h => ?_⟩, St.sel HS23.out [0, 0, 0, 0] rfl⟩
  exact (congrArg (Sx.S.at' (Sx.tk L σ).pos) (HX.out h)).trans (Sx.S.at_mk _ _ _ _ _ _ _ _ _ _)
set_option maxHeartbeats 8000000 in
set_option maxRecDepth 100000 in
theorem stmt_var (b : Nat) (L : List Lx.Tok) (hL : Sx.Ok L) (σ : Sx.R) (he : σ.err = 0) (hB : ∀ τ, Sx.M L τ + 16 ≤ Sx.M L σ → CB b L τ) (hse : Sx.sees L Sx.wVar σ = true) : CS b L σ := by
  intro w P hP h0
  have HS := Lib.hid (St.start hP h0)
  have hat := HS.out.at'
  have hB' : ∀ τ, Sx.M L τ ≤ Sx.M L { σ with at' := σ.at' + 1 } → CB b L τ := fun τ h => hB τ (Nat.le_trans (Nat.add_le_add_right h 16) (Sx.M_next he hat))
  have C1 := Lib.hid (next_fn b L σ)
  rw [Sx.pk_tk he] at C1
  have N0 : Sx.sees L Sx.wLet σ = false := Sx.sees_two hse (by decide)
  have M0 := Lib.hid (may_fn b L hL σ Sx.wLet (by decide))
  rw [Sx.may_no N0] at M0
  have M1 := Lib.hid (may_fn b L hL σ Sx.wVar (by decide))
  rw [Sx.may_is hse] at M1
  have hst : Sx.stm L σ = Sx.dcl L { σ with at' := σ.at' + 1 } := by
    unfold Sx.stm
    simp only []
    rw [if_neg (by rw [N0]; exact Bool.false_ne_true), if_pos hse]
  rw [Sx.St_eq hL.ends hat he, hst]
  have CX := Lib.hid (declaration_fn b L hL { σ with at' := σ.at' + 1 })
  have hF1 := tokF1
  clear h0 hP hL hB hB' hat he hst hse N0
  go_enter Tryd.func50, Tryd.ntmps50
  go_wp2_with (first
    | (first | (refine wpl_alloc HS.out _ rfl stZ ?_; intro b1 w1 HS1; clear HS) | (refine wpl_alloc HS2.out _ rfl stZ ?_; intro b3 w3 HS3; clear HS2))
    | (go_at_call 17; refine (HS1.out.call1 C1.out).mono ?_; rintro e w2 ⟨J, ⟨rfl, rfl⟩, hs⟩; simp only [List.cons_append, List.nil_append] at hs; have HS2 := Lib.hid hs; clear hs; clear HS1)
    | (go_at_call 32; first | (refine (HS3.out.call1 M0.out).mono ?_; rintro e w4 ⟨J, ⟨rfl, rfl⟩, hs⟩; simp only [List.cons_append, List.nil_append] at hs; have HS4 := Lib.hid hs; clear hs HS3) | (refine (HS4.out.call1 M1.out).mono ?_; rintro e w5 ⟨J, ⟨rfl, rfl⟩, hs⟩; simp only [List.cons_append, List.nil_append] at hs; have HS5 := Lib.hid hs; clear hs HS4))
    | (go_at_call 59; refine (HS5.out.call1 CX.out).mono ?_; rintro e w20 ⟨J, ⟨k, p, m, nm, te, tl, tb, q1, q2, q3, l1, l2, l3, c1, c2, c3, es, bs, cs, hh, rfl, rfl, hx⟩, hs⟩; simp only [List.cons_append, List.nil_append] at hs; have HX := Lib.hid hx; have HS20 := Lib.hid hs; clear hs hx)
    | (first | (refine wpl_storeS HS20.out 4 rfl rfl stT rfl fitsS ?_; intro w21 hs; have HS21 := Lib.hid (show St _ _ _ (_ :: _ :: _ :: _ :: _ :: _ :: []) from hs.out); clear hs HS20) | (refine wpl_storeS HS22.out 5 rfl rfl stT rfl fitsS ?_; intro w23 hs; have HS23 := Lib.hid (show St _ _ _ (_ :: _ :: _ :: _ :: _ :: _ :: []) from hs.out); clear hs HS22))
    | (refine wpl_store HS21.out 4 rfl rfl intO (of_decide_eq_true rfl) rfl ?_; intro w22 hs; have HS22 := Lib.hid (show St _ _ _ (_ :: _ :: _ :: _ :: _ :: _ :: []) from hs.out); clear hs HS21)
    | (refine wpl_loadS HS22.out 4 rfl rfl stT rfl ?_))
  refine bp_cell HS23.out 5 stT rfl rfl rfl rfl rfl ⟨_, ⟨k, (Sx.tk L σ).pos, m, nm, te, tl, tb, _, _, _, _, _, _, _, _, _, es, bs, cs, hh, rfl, rfl, fun h => ?_⟩, St.sel HS23.out [0, 0, 0, 0] rfl⟩
  exact (congrArg (Sx.S.at' (Sx.tk L σ).pos) (HX.out h)).trans (Sx.S.at_mk _ _ _ _ _ _ _ _ _ _)
set_option maxHeartbeats 8000000 in
set_option maxRecDepth 100000 in
theorem stmt_if (b : Nat) (L : List Lx.Tok) (hL : Sx.Ok L) (σ : Sx.R) (he : σ.err = 0) (hB : ∀ τ, Sx.M L τ + 16 ≤ Sx.M L σ → CB b L τ) (hse : Sx.sees L Sx.wIf σ = true) : CS b L σ := by
  intro w P hP h0
  have HS := Lib.hid (St.start hP h0)
  have hat := HS.out.at'
  have hB' : ∀ τ, Sx.M L τ ≤ Sx.M L { σ with at' := σ.at' + 1 } → CB b L τ := fun τ h => hB τ (Nat.le_trans (Nat.add_le_add_right h 16) (Sx.M_next he hat))
  have C1 := Lib.hid (next_fn b L σ)
  rw [Sx.pk_tk he] at C1
  have N0 : Sx.sees L Sx.wLet σ = false := Sx.sees_two hse (by decide)
  have M0 := Lib.hid (may_fn b L hL σ Sx.wLet (by decide))
  rw [Sx.may_no N0] at M0
  have N1 : Sx.sees L Sx.wVar σ = false := Sx.sees_two hse (by decide)
  have M1 := Lib.hid (may_fn b L hL σ Sx.wVar (by decide))
  rw [Sx.may_no N1] at M1
  have M2 := Lib.hid (may_fn b L hL σ Sx.wIf (by decide))
  rw [Sx.may_is hse] at M2
  have hst : Sx.stm L σ = Sx.brn L { σ with at' := σ.at' + 1 } := by
    unfold Sx.stm
    simp only []
    rw [if_neg (by rw [N0]; exact Bool.false_ne_true), if_neg (by rw [N1]; exact Bool.false_ne_true), if_pos hse]
  rw [Sx.St_eq hL.ends hat he, hst]
  have CX := Lib.hid (branch_any b L hL { σ with at' := σ.at' + 1 } hB')
  have hF1 := tokF1
  clear h0 hP hL hB hB' hat he hst hse N0 N1
  go_enter Tryd.func50, Tryd.ntmps50
  go_wp2_with (first
    | (first | (refine wpl_alloc HS.out _ rfl stZ ?_; intro b1 w1 HS1; clear HS) | (refine wpl_alloc HS2.out _ rfl stZ ?_; intro b3 w3 HS3; clear HS2))
    | (go_at_call 17; refine (HS1.out.call1 C1.out).mono ?_; rintro e w2 ⟨J, ⟨rfl, rfl⟩, hs⟩; simp only [List.cons_append, List.nil_append] at hs; have HS2 := Lib.hid hs; clear hs; clear HS1)
    | (go_at_call 32; first | (refine (HS3.out.call1 M0.out).mono ?_; rintro e w4 ⟨J, ⟨rfl, rfl⟩, hs⟩; simp only [List.cons_append, List.nil_append] at hs; have HS4 := Lib.hid hs; clear hs HS3) | (refine (HS4.out.call1 M1.out).mono ?_; rintro e w5 ⟨J, ⟨rfl, rfl⟩, hs⟩; simp only [List.cons_append, List.nil_append] at hs; have HS5 := Lib.hid hs; clear hs HS4) | (refine (HS5.out.call1 M2.out).mono ?_; rintro e w6 ⟨J, ⟨rfl, rfl⟩, hs⟩; simp only [List.cons_append, List.nil_append] at hs; have HS6 := Lib.hid hs; clear hs HS5))
    | (go_at_call 60; refine (HS6.out.call1 CX.out).mono ?_; rintro e w20 ⟨J, ⟨k, p, m, nm, te, tl, tb, q1, q2, q3, l1, l2, l3, c1, c2, c3, es, bs, cs, hh, rfl, rfl, hx⟩, hs⟩; simp only [List.cons_append, List.nil_append] at hs; have HX := Lib.hid hx; have HS20 := Lib.hid hs; clear hs hx)
    | (first | (refine wpl_storeS HS20.out 4 rfl rfl stT rfl fitsS ?_; intro w21 hs; have HS21 := Lib.hid (show St _ _ _ (_ :: _ :: _ :: _ :: _ :: _ :: []) from hs.out); clear hs HS20) | (refine wpl_storeS HS22.out 5 rfl rfl stT rfl fitsS ?_; intro w23 hs; have HS23 := Lib.hid (show St _ _ _ (_ :: _ :: _ :: _ :: _ :: _ :: []) from hs.out); clear hs HS22))
    | (refine wpl_store HS21.out 4 rfl rfl intO (of_decide_eq_true rfl) rfl ?_; intro w22 hs; have HS22 := Lib.hid (show St _ _ _ (_ :: _ :: _ :: _ :: _ :: _ :: []) from hs.out); clear hs HS21)
    | (refine wpl_loadS HS22.out 4 rfl rfl stT rfl ?_))
  refine bp_cell HS23.out 5 stT rfl rfl rfl rfl rfl ⟨_, ⟨k, (Sx.tk L σ).pos, m, nm, te, tl, tb, _, _, _, _, _, _, _, _, _, es, bs, cs, hh, rfl, rfl, fun h => ?_⟩, St.sel HS23.out [0, 0, 0, 0] rfl⟩
  exact (congrArg (Sx.S.at' (Sx.tk L σ).pos) (HX.out h)).trans (Sx.S.at_mk _ _ _ _ _ _ _ _ _ _)
set_option maxHeartbeats 8000000 in
set_option maxRecDepth 100000 in
theorem stmt_for (b : Nat) (L : List Lx.Tok) (hL : Sx.Ok L) (σ : Sx.R) (he : σ.err = 0) (hB : ∀ τ, Sx.M L τ + 16 ≤ Sx.M L σ → CB b L τ) (hse : Sx.sees L Sx.wFor σ = true) : CS b L σ := by
  intro w P hP h0
  have HS := Lib.hid (St.start hP h0)
  have hat := HS.out.at'
  have hB' : ∀ τ, Sx.M L τ ≤ Sx.M L { σ with at' := σ.at' + 1 } → CB b L τ := fun τ h => hB τ (Nat.le_trans (Nat.add_le_add_right h 16) (Sx.M_next he hat))
  have C1 := Lib.hid (next_fn b L σ)
  rw [Sx.pk_tk he] at C1
  have N0 : Sx.sees L Sx.wLet σ = false := Sx.sees_two hse (by decide)
  have M0 := Lib.hid (may_fn b L hL σ Sx.wLet (by decide))
  rw [Sx.may_no N0] at M0
  have N1 : Sx.sees L Sx.wVar σ = false := Sx.sees_two hse (by decide)
  have M1 := Lib.hid (may_fn b L hL σ Sx.wVar (by decide))
  rw [Sx.may_no N1] at M1
  have N2 : Sx.sees L Sx.wIf σ = false := Sx.sees_two hse (by decide)
  have M2 := Lib.hid (may_fn b L hL σ Sx.wIf (by decide))
  rw [Sx.may_no N2] at M2
  have M3 := Lib.hid (may_fn b L hL σ Sx.wFor (by decide))
  rw [Sx.may_is hse] at M3
  have hst : Sx.stm L σ = Sx.lop L { σ with at' := σ.at' + 1 } := by
    unfold Sx.stm
    simp only []
    rw [if_neg (by rw [N0]; exact Bool.false_ne_true), if_neg (by rw [N1]; exact Bool.false_ne_true), if_neg (by rw [N2]; exact Bool.false_ne_true), if_pos hse]
  rw [Sx.St_eq hL.ends hat he, hst]
  have CX := Lib.hid (loop_fn b L hL { σ with at' := σ.at' + 1 } hB')
  have hF1 := tokF1
  clear h0 hP hL hB hB' hat he hst hse N0 N1 N2
  go_enter Tryd.func50, Tryd.ntmps50
  go_wp2_with (first
    | (first | (refine wpl_alloc HS.out _ rfl stZ ?_; intro b1 w1 HS1; clear HS) | (refine wpl_alloc HS2.out _ rfl stZ ?_; intro b3 w3 HS3; clear HS2))
    | (go_at_call 17; refine (HS1.out.call1 C1.out).mono ?_; rintro e w2 ⟨J, ⟨rfl, rfl⟩, hs⟩; simp only [List.cons_append, List.nil_append] at hs; have HS2 := Lib.hid hs; clear hs; clear HS1)
    | (go_at_call 32; first | (refine (HS3.out.call1 M0.out).mono ?_; rintro e w4 ⟨J, ⟨rfl, rfl⟩, hs⟩; simp only [List.cons_append, List.nil_append] at hs; have HS4 := Lib.hid hs; clear hs HS3) | (refine (HS4.out.call1 M1.out).mono ?_; rintro e w5 ⟨J, ⟨rfl, rfl⟩, hs⟩; simp only [List.cons_append, List.nil_append] at hs; have HS5 := Lib.hid hs; clear hs HS4) | (refine (HS5.out.call1 M2.out).mono ?_; rintro e w6 ⟨J, ⟨rfl, rfl⟩, hs⟩; simp only [List.cons_append, List.nil_append] at hs; have HS6 := Lib.hid hs; clear hs HS5) | (refine (HS6.out.call1 M3.out).mono ?_; rintro e w7 ⟨J, ⟨rfl, rfl⟩, hs⟩; simp only [List.cons_append, List.nil_append] at hs; have HS7 := Lib.hid hs; clear hs HS6))
    | (go_at_call 61; refine (HS7.out.call1 CX.out).mono ?_; rintro e w20 ⟨J, ⟨k, p, m, nm, te, tl, tb, q1, q2, q3, l1, l2, l3, c1, c2, c3, es, bs, cs, hh, rfl, rfl, hx⟩, hs⟩; simp only [List.cons_append, List.nil_append] at hs; have HX := Lib.hid hx; have HS20 := Lib.hid hs; clear hs hx)
    | (first | (refine wpl_storeS HS20.out 4 rfl rfl stT rfl fitsS ?_; intro w21 hs; have HS21 := Lib.hid (show St _ _ _ (_ :: _ :: _ :: _ :: _ :: _ :: []) from hs.out); clear hs HS20) | (refine wpl_storeS HS22.out 5 rfl rfl stT rfl fitsS ?_; intro w23 hs; have HS23 := Lib.hid (show St _ _ _ (_ :: _ :: _ :: _ :: _ :: _ :: []) from hs.out); clear hs HS22))
    | (refine wpl_store HS21.out 4 rfl rfl intO (of_decide_eq_true rfl) rfl ?_; intro w22 hs; have HS22 := Lib.hid (show St _ _ _ (_ :: _ :: _ :: _ :: _ :: _ :: []) from hs.out); clear hs HS21)
    | (refine wpl_loadS HS22.out 4 rfl rfl stT rfl ?_))
  refine bp_cell HS23.out 5 stT rfl rfl rfl rfl rfl ⟨_, ⟨k, (Sx.tk L σ).pos, m, nm, te, tl, tb, _, _, _, _, _, _, _, _, _, es, bs, cs, hh, rfl, rfl, fun h => ?_⟩, St.sel HS23.out [0, 0, 0, 0] rfl⟩
  exact (congrArg (Sx.S.at' (Sx.tk L σ).pos) (HX.out h)).trans (Sx.S.at_mk _ _ _ _ _ _ _ _ _ _)
set_option maxHeartbeats 8000000 in
set_option maxRecDepth 100000 in
theorem stmt_return (b : Nat) (L : List Lx.Tok) (hL : Sx.Ok L) (σ : Sx.R) (he : σ.err = 0) (hB : ∀ τ, Sx.M L τ + 16 ≤ Sx.M L σ → CB b L τ) (hse : Sx.sees L Sx.wRet σ = true) : CS b L σ := by
  intro w P hP h0
  have HS := Lib.hid (St.start hP h0)
  have hat := HS.out.at'
  have hB' : ∀ τ, Sx.M L τ ≤ Sx.M L { σ with at' := σ.at' + 1 } → CB b L τ := fun τ h => hB τ (Nat.le_trans (Nat.add_le_add_right h 16) (Sx.M_next he hat))
  have C1 := Lib.hid (next_fn b L σ)
  rw [Sx.pk_tk he] at C1
  have N0 : Sx.sees L Sx.wLet σ = false := Sx.sees_two hse (by decide)
  have M0 := Lib.hid (may_fn b L hL σ Sx.wLet (by decide))
  rw [Sx.may_no N0] at M0
  have N1 : Sx.sees L Sx.wVar σ = false := Sx.sees_two hse (by decide)
  have M1 := Lib.hid (may_fn b L hL σ Sx.wVar (by decide))
  rw [Sx.may_no N1] at M1
  have N2 : Sx.sees L Sx.wIf σ = false := Sx.sees_two hse (by decide)
  have M2 := Lib.hid (may_fn b L hL σ Sx.wIf (by decide))
  rw [Sx.may_no N2] at M2
  have N3 : Sx.sees L Sx.wFor σ = false := Sx.sees_two hse (by decide)
  have M3 := Lib.hid (may_fn b L hL σ Sx.wFor (by decide))
  rw [Sx.may_no N3] at M3
  have M4 := Lib.hid (may_fn b L hL σ Sx.wRet (by decide))
  rw [Sx.may_is hse] at M4
  have hst : Sx.stm L σ = Sx.ret L { σ with at' := σ.at' + 1 } := by
    unfold Sx.stm
    simp only []
    rw [if_neg (by rw [N0]; exact Bool.false_ne_true), if_neg (by rw [N1]; exact Bool.false_ne_true), if_neg (by rw [N2]; exact Bool.false_ne_true), if_neg (by rw [N3]; exact Bool.false_ne_true), if_pos hse]
  rw [Sx.St_eq hL.ends hat he, hst]
  have CX := Lib.hid (value_fn b L hL { σ with at' := σ.at' + 1 })
  have hF1 := tokF1
  clear h0 hP hL hB hB' hat he hst hse N0 N1 N2 N3
  go_enter Tryd.func50, Tryd.ntmps50
  go_wp2_with (first
    | (first | (refine wpl_alloc HS.out _ rfl stZ ?_; intro b1 w1 HS1; clear HS) | (refine wpl_alloc HS2.out _ rfl stZ ?_; intro b3 w3 HS3; clear HS2))
    | (go_at_call 17; refine (HS1.out.call1 C1.out).mono ?_; rintro e w2 ⟨J, ⟨rfl, rfl⟩, hs⟩; simp only [List.cons_append, List.nil_append] at hs; have HS2 := Lib.hid hs; clear hs; clear HS1)
    | (go_at_call 32; first | (refine (HS3.out.call1 M0.out).mono ?_; rintro e w4 ⟨J, ⟨rfl, rfl⟩, hs⟩; simp only [List.cons_append, List.nil_append] at hs; have HS4 := Lib.hid hs; clear hs HS3) | (refine (HS4.out.call1 M1.out).mono ?_; rintro e w5 ⟨J, ⟨rfl, rfl⟩, hs⟩; simp only [List.cons_append, List.nil_append] at hs; have HS5 := Lib.hid hs; clear hs HS4) | (refine (HS5.out.call1 M2.out).mono ?_; rintro e w6 ⟨J, ⟨rfl, rfl⟩, hs⟩; simp only [List.cons_append, List.nil_append] at hs; have HS6 := Lib.hid hs; clear hs HS5) | (refine (HS6.out.call1 M3.out).mono ?_; rintro e w7 ⟨J, ⟨rfl, rfl⟩, hs⟩; simp only [List.cons_append, List.nil_append] at hs; have HS7 := Lib.hid hs; clear hs HS6) | (refine (HS7.out.call1 M4.out).mono ?_; rintro e w8 ⟨J, ⟨rfl, rfl⟩, hs⟩; simp only [List.cons_append, List.nil_append] at hs; have HS8 := Lib.hid hs; clear hs HS7))
    | (go_at_call 62; refine (HS8.out.call1 CX.out).mono ?_; rintro e w20 ⟨J, ⟨k2, p2, n2, nm2, v2, es2, rfl, rfl, hx2, h12⟩, hs⟩; simp only [List.cons_append, List.nil_append] at hs; have HX2 := Lib.hid hx2; obtain ⟨q2, l2, cap2, rfl⟩ := hs.lsLen 1 rfl; have HS20 := Lib.hid hs; clear hs hx2)
    | (refine wpl_slice HS20.out rfl Tryd.underlying40 (exB _ _ _ _ _) ?_; intro b21 w21 HS21; clear HS20)
    | (first | (refine wpl_storeS HS21.out 3 rfl rfl stT rfl fitsS ?_; intro w22 hs; have HS22 := Lib.hid (show St _ _ _ (_ :: _ :: _ :: _ :: _ :: []) from hs.out); clear hs HS21) | (refine wpl_storeS HS23.out 4 rfl rfl stT rfl fitsS ?_; intro w24 hs; have HS24 := Lib.hid (show St _ _ _ (_ :: _ :: _ :: _ :: _ :: []) from hs.out); clear hs HS23))
    | (refine wpl_store HS22.out 3 rfl rfl intO (of_decide_eq_true rfl) rfl ?_; intro w23 hs; have HS23 := Lib.hid (show St _ _ _ (_ :: _ :: _ :: _ :: _ :: []) from hs.out); clear hs HS22)
    | (refine wpl_loadS HS23.out 3 rfl rfl stT rfl ?_))
  refine bp_cell HS24.out 4 stT rfl rfl rfl rfl rfl ⟨_, ⟨8, (Sx.tk L σ).pos, 0, [], 0, 0, 0, _, _, _, _, _, _, _, _, _, [.mk k2 p2 n2 nm2 es2], [], [], false, rfl, rfl, fun h => ?_⟩, (St.sel HS24.out [0, 0, 0] rfl).to fun P h => h.under fun P h => (lsI_one h).under fun P h => ssI_nil (ssI_nil h)⟩
  exact congrArg (fun z => Sx.S.mk 8 (Sx.tk L σ).pos 0 [] Sx.noTy [z] [] [] false) (HX2.out h)
set_option maxHeartbeats 8000000 in
set_option maxRecDepth 100000 in
theorem stmt_named (b : Nat) (L : List Lx.Tok) (hL : Sx.Ok L) (σ : Sx.R) (he : σ.err = 0) (hB : ∀ τ, Sx.M L τ + 16 ≤ Sx.M L σ → CB b L τ) (hno : ∀ s, s ∈ [Sx.wLet, Sx.wVar, Sx.wIf, Sx.wFor, Sx.wRet] → Sx.sees L s σ = false) : CS b L σ := by
  intro w P hP h0
  have HS := Lib.hid (St.start hP h0)
  have hat := HS.out.at'
  have hB' : ∀ τ, Sx.M L τ ≤ Sx.M L { σ with at' := σ.at' + 1 } → CB b L τ := fun τ h => hB τ (Nat.le_trans (Nat.add_le_add_right h 16) (Sx.M_next he hat))
  have C1 := Lib.hid (next_fn b L σ)
  rw [Sx.pk_tk he] at C1
  have N0 : Sx.sees L Sx.wLet σ = false := hno Sx.wLet (by decide)
  have M0 := Lib.hid (may_fn b L hL σ Sx.wLet (by decide))
  rw [Sx.may_no N0] at M0
  have N1 : Sx.sees L Sx.wVar σ = false := hno Sx.wVar (by decide)
  have M1 := Lib.hid (may_fn b L hL σ Sx.wVar (by decide))
  rw [Sx.may_no N1] at M1
  have N2 : Sx.sees L Sx.wIf σ = false := hno Sx.wIf (by decide)
  have M2 := Lib.hid (may_fn b L hL σ Sx.wIf (by decide))
  rw [Sx.may_no N2] at M2
  have N3 : Sx.sees L Sx.wFor σ = false := hno Sx.wFor (by decide)
  have M3 := Lib.hid (may_fn b L hL σ Sx.wFor (by decide))
  rw [Sx.may_no N3] at M3
  have N4 : Sx.sees L Sx.wRet σ = false := hno Sx.wRet (by decide)
  have M4 := Lib.hid (may_fn b L hL σ Sx.wRet (by decide))
  rw [Sx.may_no N4] at M4
  have hst : Sx.stm L σ = Sx.named L 0 σ := by
    unfold Sx.stm
    simp only []
    rw [if_neg (by rw [N0]; exact Bool.false_ne_true), if_neg (by rw [N1]; exact Bool.false_ne_true), if_neg (by rw [N2]; exact Bool.false_ne_true), if_neg (by rw [N3]; exact Bool.false_ne_true), if_neg (by rw [N4]; exact Bool.false_ne_true)]
  rw [Sx.St_eq hL.ends hat he, hst]
  have CX := Lib.hid (named_fn b L hL σ)
  have hF1 := tokF1
  clear h0 hP hL hB hB' hat he hst hno N0 N1 N2 N3 N4
  go_enter Tryd.func50, Tryd.ntmps50
  go_wp2_with (first
    | (first | (refine wpl_alloc HS.out _ rfl stZ ?_; intro b1 w1 HS1; clear HS) | (refine wpl_alloc HS2.out _ rfl stZ ?_; intro b3 w3 HS3; clear HS2))
    | (go_at_call 17; refine (HS1.out.call1 C1.out).mono ?_; rintro e w2 ⟨J, ⟨rfl, rfl⟩, hs⟩; simp only [List.cons_append, List.nil_append] at hs; have HS2 := Lib.hid hs; clear hs; clear HS1)
    | (go_at_call 32; first | (refine (HS3.out.call1 M0.out).mono ?_; rintro e w4 ⟨J, ⟨rfl, rfl⟩, hs⟩; simp only [List.cons_append, List.nil_append] at hs; have HS4 := Lib.hid hs; clear hs HS3) | (refine (HS4.out.call1 M1.out).mono ?_; rintro e w5 ⟨J, ⟨rfl, rfl⟩, hs⟩; simp only [List.cons_append, List.nil_append] at hs; have HS5 := Lib.hid hs; clear hs HS4) | (refine (HS5.out.call1 M2.out).mono ?_; rintro e w6 ⟨J, ⟨rfl, rfl⟩, hs⟩; simp only [List.cons_append, List.nil_append] at hs; have HS6 := Lib.hid hs; clear hs HS5) | (refine (HS6.out.call1 M3.out).mono ?_; rintro e w7 ⟨J, ⟨rfl, rfl⟩, hs⟩; simp only [List.cons_append, List.nil_append] at hs; have HS7 := Lib.hid hs; clear hs HS6) | (refine (HS7.out.call1 M4.out).mono ?_; rintro e w8 ⟨J, ⟨rfl, rfl⟩, hs⟩; simp only [List.cons_append, List.nil_append] at hs; have HS8 := Lib.hid hs; clear hs HS7))
    | (go_at_call 63; refine (HS8.out.call1 CX.out).mono ?_; rintro e w20 ⟨J, ⟨k, p, m, nm, te, tl, tb, q1, q2, q3, l1, l2, l3, c1, c2, c3, es, bs, cs, hh, rfl, rfl, hx⟩, hs⟩; simp only [List.cons_append, List.nil_append] at hs; have HX := Lib.hid hx; have HS20 := Lib.hid hs; clear hs hx)
    | (first | (refine wpl_storeS HS20.out 4 rfl rfl stT rfl fitsS ?_; intro w21 hs; have HS21 := Lib.hid (show St _ _ _ (_ :: _ :: _ :: _ :: _ :: _ :: []) from hs.out); clear hs HS20) | (refine wpl_storeS HS22.out 5 rfl rfl stT rfl fitsS ?_; intro w23 hs; have HS23 := Lib.hid (show St _ _ _ (_ :: _ :: _ :: _ :: _ :: _ :: []) from hs.out); clear hs HS22))
    | (refine wpl_store HS21.out 4 rfl rfl intO (of_decide_eq_true rfl) rfl ?_; intro w22 hs; have HS22 := Lib.hid (show St _ _ _ (_ :: _ :: _ :: _ :: _ :: _ :: []) from hs.out); clear hs HS21)
    | (refine wpl_loadS HS22.out 4 rfl rfl stT rfl ?_))
  refine bp_cell HS23.out 5 stT rfl rfl rfl rfl rfl ⟨_, ⟨k, (Sx.tk L σ).pos, m, nm, te, tl, tb, _, _, _, _, _, _, _, _, _, es, bs, cs, hh, rfl, rfl, fun h => ?_⟩, St.sel HS23.out [0, 0, 0, 0] rfl⟩
  exact (congrArg (Sx.S.at' (Sx.tk L σ).pos) (HX.out h)).trans (Sx.S.at_mk _ _ _ _ _ _ _ _ _ _)
theorem stmt_fn (b : Nat) (L : List Lx.Tok) (hL : Sx.Ok L) (σ : Sx.R) (he : σ.err = 0) (hB : ∀ τ, Sx.M L τ + 16 ≤ Sx.M L σ → CB b L τ) : CS b L σ := by
  by_cases h1 : Sx.sees L Sx.wLet σ = true
  · exact stmt_let b L hL σ he hB h1
  by_cases h2 : Sx.sees L Sx.wVar σ = true
  · exact stmt_var b L hL σ he hB h2
  by_cases h3 : Sx.sees L Sx.wIf σ = true
  · exact stmt_if b L hL σ he hB h3
  by_cases h4 : Sx.sees L Sx.wFor σ = true
  · exact stmt_for b L hL σ he hB h4
  by_cases h5 : Sx.sees L Sx.wRet σ = true
  · exact stmt_return b L hL σ he hB h5
  refine stmt_named b L hL σ he hB ?_
  intro s hs
  simp only [List.mem_cons, List.not_mem_nil, or_false] at hs
  rcases hs with rfl | rfl | rfl | rfl | rfl
  · simpa using h1
  · simpa using h2
  · simpa using h3
  · simpa using h4
  · simpa using h5
end Go.Proofs.YtbnhegipdfkdgaaDoor
