/-
if, for, and a statement that begins with a name.
A statement by what it begins with, a block, and so all of statements by induction.
-/
import Derived.Test.YtjfdcnggnldgdaaGreatDoorP24a
import Derived.Test.YtjfdcnggnldgdaaGreatDoorP31b
import Derived.Test.YtjfdcnggnldgdaaGreatDoorP07a
section
namespace Go.Proofs.YtjfdcnggnldgdaaGreatDoor
open Go.ChangeShapes Go.WideShapes Go.ChangeAt Go.RowKit
set_option linter.unusedVariables false
set_option linter.unusedSimpArgs false

theorem lsI_own1 {w : World} {I : List It} {P : Nat → Prop} {k p n : Int} {nm : List UInt8} {v v' : Value} {es : List Sx.E}
    (h : Sep w (ownI 55 5 v' 1 ([] ++ (exA k p n nm v).toList) :: lsI v es :: I) P) : Sep w (lsI v' [.mk k p n nm es] :: I) P :=
  lsI_close (n := 1) (xs := [] ++ (exA k p n nm v).toList) rfl (h.under fun P h => h.map fun A hA => elOn_one (exOn_of hA))
theorem St.nilOwn {X : Nat → Prop} {w0 w : World} {x : It} {I : List It} (h : St X w0 w (x :: I)) : St X w0 w (x :: ownI 55 5 (.slice none 0 0) 0 [] :: I) :=
  h.to fun P h => h.under fun P h => Sep.emp h ⟨World.ownsRow_nil _ _ _ _, fun g hg => by cases hg⟩
theorem Sx.le_Bl {L : List Lx.Tok} (hL : Sx.Ends L) (σ : Sx.R) : Sx.Le L σ (Sx.Bl L σ).2 := (Sx.le_stmts hL _).1 σ
set_option maxHeartbeats 8000000 in
set_option maxRecDepth 100000 in
theorem branch_no (b : Nat) (L : List Lx.Tok) (hL : Sx.Ok L) (σ : Sx.R) (hB : ∀ τ, Sx.M L τ ≤ Sx.M L σ → CB b L τ) (hel : Sx.sees L Sx.wElse (Sx.Bl L (Sx.X L 0 σ).2).2 = false) : Fn 214 #[.pointer (some ⟨b, 0, none⟩)] [rd b L σ] (SP b L (Sx.brn L σ)) := by
  intro w P hP h0
  have HS := Lib.hid (St.start hP h0)
  have hM1 := Sx.M_le (Sx.le_X hL.ends 0 σ)
  have hM2 := Sx.M_le (Sx.le_Bl hL.ends (Sx.X L 0 σ).2)
  have CX := Lib.hid (expr_any b L hL σ)
  have CB1 := Lib.hid (hB (Sx.X L 0 σ).2 hM1)
  have C3 := Lib.hid (may_fn b L hL (Sx.Bl L (Sx.X L 0 σ).2).2 Sx.wElse (by decide))
  unfold Sx.brn
  simp only []
  have hok := fun h => Sx.Le.ok (Sx.le_Bl hL.ends (Sx.X L 0 σ).2) h
  rw [Sx.may_no hel] at C3
  rw [if_neg (by rw [hel]; decide)]
  have HOK := Lib.hid hok
  clear h0 hP hL hB hM1 hM2 hel hok
  go_enter Tryz.func214, Tryz.ntmps214
  go_wp2_with (first
    | (first | (refine wpl_alloc HS.out _ rfl stZ ?_; intro b1 w1 HS1; clear HS) | (refine wpl_alloc HS3.out _ rfl stZ ?_; intro b4 w4 HS4; clear HS3))
    | (go_at_call 243; refine (HS1.out.call1 CX.out).mono ?_; rintro e w2 ⟨J, ⟨k2, p2, n2, nm2, v2, es2, rfl, rfl, hx2, h12⟩, hs⟩; simp only [List.cons_append, List.nil_append] at hs; have HX2 := Lib.hid hx2; obtain ⟨q2, l2, cap2, rfl⟩ := hs.lsLen 1 rfl; have HS2 := Lib.hid hs; clear hs hx2)
    | (refine wpl_slice HS2.out rfl Tryz.underlying51 (exB _ _ _ _ _) ?_; intro b3 w3 HS3; clear HS2)
    | (first | (refine wpl_storeS HS4.out 1 rfl rfl stT rfl fitsS ?_; intro w5 hs; have HS5 := Lib.hid (show St _ _ _ (_ :: _ :: _ :: _ :: _ :: []) from hs.out); clear hs HS4))
    | (go_at_call 124; (refine (HS5.out.call1 CB1.out).mono ?_; rintro e w6 ⟨J, ⟨q6, l6, c6, ss6, rfl, rfl, hx2⟩, hs⟩; simp only [List.cons_append, List.nil_append] at hs; have HX6 := Lib.hid hx2; have HS6 := Lib.hid hs; clear hs hx2 HS5))
    | (first | (refine wpl_store HS6.out 2 rfl rfl stmtsO (of_decide_eq_true rfl) rfl ?_; intro w7 hs; have HS7 := Lib.hid (show St _ _ _ (_ :: _ :: _ :: _ :: _ :: _ :: []) from hs.out); clear hs HS6) | (refine wpl_store HS8.out 2 rfl rfl boolO (of_decide_eq_true rfl) rfl ?_; intro w9 hs; have HS9 := Lib.hid (show St _ _ _ (_ :: _ :: _ :: _ :: _ :: _ :: []) from hs.out); clear hs HS8))
    | (go_at_call 121; refine (HS7.out.call1 C3.out).mono ?_; rintro e w8 ⟨J, ⟨rfl, rfl⟩, hs⟩; simp only [List.cons_append, List.nil_append] at hs; have HS8 := Lib.hid hs; clear hs; clear HS7)
    | (refine wpl_load HS9.out 2 rfl rfl boolO rfl ?_)
    | (refine wpl_loadS HS9.out 2 rfl rfl stT rfl ?_)
    | (refine wpl_storeS HS9.out 5 rfl rfl stT rfl fitsS ?_; intro w10 hs; have HS10 := Lib.hid (show St _ _ _ (_ :: _ :: _ :: _ :: _ :: _ :: []) from hs.out); clear hs HS9))
  refine bp_cell HS10.out 5 stT rfl rfl rfl rfl rfl ⟨_, ⟨5, 0, 0, [], 0, 0, 0, _, _, _, _, _, _, _, _, _, [.mk k2 p2 n2 nm2 es2], ss6, [], false, rfl, rfl, fun h => ?_⟩, (St.sel HS10.out [0, 2, 2, 0] rfl).to fun P h => h.under fun P h => (lsI_one h).under fun P h => h.under fun P h => ssI_nil h⟩
  simp only []
  rw [HX6.out h, HX2.out (HOK.out h)]
  rfl
set_option maxHeartbeats 8000000 in
set_option maxRecDepth 100000 in
theorem branch_yes (b : Nat) (L : List Lx.Tok) (hL : Sx.Ok L) (σ : Sx.R) (hB : ∀ τ, Sx.M L τ ≤ Sx.M L σ → CB b L τ) (hel : Sx.sees L Sx.wElse (Sx.Bl L (Sx.X L 0 σ).2).2 = true) : Fn 214 #[.pointer (some ⟨b, 0, none⟩)] [rd b L σ] (SP b L (Sx.brn L σ)) := by
  intro w P hP h0
  have HS := Lib.hid (St.start hP h0)
  have hM1 := Sx.M_le (Sx.le_X hL.ends 0 σ)
  have hM2 := Sx.M_le (Sx.le_Bl hL.ends (Sx.X L 0 σ).2)
  have CX := Lib.hid (expr_any b L hL σ)
  have CB1 := Lib.hid (hB (Sx.X L 0 σ).2 hM1)
  have C3 := Lib.hid (may_fn b L hL (Sx.Bl L (Sx.X L 0 σ).2).2 Sx.wElse (by decide))
  unfold Sx.brn
  simp only []
  have hok := fun h => Sx.Le.ok (Sx.le_Bl hL.ends (Sx.X L 0 σ).2) h
  rw [Sx.may_is hel] at C3
  rw [if_pos hel]
  have hat2 := (Sx.le_Bl hL.ends (Sx.X L 0 σ).2).2.2.1 (Sx.X_in hL.ends HS.out.at')
  have hM3 := Sx.M_next (Sx.sees_text hel).1 hat2
  have CB2 := Lib.hid (hB { (Sx.Bl L (Sx.X L 0 σ).2).2 with at' := (Sx.Bl L (Sx.X L 0 σ).2).2.at' + 1 } (Nat.le_trans (Nat.le_trans (Nat.le_add_right _ 16) hM3) (Nat.le_trans hM2 hM1)))
  have HE := Lib.hid (Sx.sees_text hel).1
  have HOK := Lib.hid hok
  clear h0 hP hL hB hM1 hM2 hM3 hat2 hel hok
  go_enter Tryz.func214, Tryz.ntmps214
  go_wp2_with (first
    | (first | (refine wpl_alloc HS.out _ rfl stZ ?_; intro b1 w1 HS1; clear HS) | (refine wpl_alloc HS3.out _ rfl stZ ?_; intro b4 w4 HS4; clear HS3))
    | (go_at_call 243; refine (HS1.out.call1 CX.out).mono ?_; rintro e w2 ⟨J, ⟨k2, p2, n2, nm2, v2, es2, rfl, rfl, hx2, h12⟩, hs⟩; simp only [List.cons_append, List.nil_append] at hs; have HX2 := Lib.hid hx2; obtain ⟨q2, l2, cap2, rfl⟩ := hs.lsLen 1 rfl; have HS2 := Lib.hid hs; clear hs hx2)
    | (refine wpl_slice HS2.out rfl Tryz.underlying51 (exB _ _ _ _ _) ?_; intro b3 w3 HS3; clear HS2)
    | (first | (refine wpl_storeS HS4.out 1 rfl rfl stT rfl fitsS ?_; intro w5 hs; have HS5 := Lib.hid (show St _ _ _ (_ :: _ :: _ :: _ :: _ :: []) from hs.out); clear hs HS4))
    | (go_at_call 124; first | (refine (HS5.out.call1 CB1.out).mono ?_; rintro e w6 ⟨J, ⟨q6, l6, c6, ss6, rfl, rfl, hx2⟩, hs⟩; simp only [List.cons_append, List.nil_append] at hs; have HX6 := Lib.hid hx2; have HS6 := Lib.hid hs; clear hs hx2 HS5) | (refine (HS9.out.call1 CB2.out).mono ?_; rintro e w10 ⟨J, ⟨q10, l10, c10, ss10, rfl, rfl, hx2⟩, hs⟩; simp only [List.cons_append, List.nil_append] at hs; have HX10 := Lib.hid hx2; have HS10 := Lib.hid hs; clear hs hx2 HS9))
    | (first | (refine wpl_store HS6.out 2 rfl rfl stmtsO (of_decide_eq_true rfl) rfl ?_; intro w7 hs; have HS7 := Lib.hid (show St _ _ _ (_ :: _ :: _ :: _ :: _ :: _ :: []) from hs.out); clear hs HS6) | (refine wpl_store HS8.out 2 rfl rfl boolO (of_decide_eq_true rfl) rfl ?_; intro w9 hs; have HS9 := Lib.hid (show St _ _ _ (_ :: _ :: _ :: _ :: _ :: _ :: []) from hs.out); clear hs HS8) | (refine wpl_store HS10.out 3 rfl rfl stmtsO (of_decide_eq_true rfl) rfl ?_; intro w11 hs; have HS11 := Lib.hid (show St _ _ _ (_ :: _ :: _ :: _ :: _ :: _ :: _ :: []) from hs.out); clear hs HS10))
    | (go_at_call 121; refine (HS7.out.call1 C3.out).mono ?_; rintro e w8 ⟨J, ⟨rfl, rfl⟩, hs⟩; simp only [List.cons_append, List.nil_append] at hs; have HS8 := Lib.hid hs; clear hs; clear HS7)
    | (refine wpl_load HS9.out 2 rfl rfl boolO rfl ?_)
    | (refine wpl_loadS HS11.out 3 rfl rfl stT rfl ?_)
    | (refine wpl_storeS HS11.out 6 rfl rfl stT rfl fitsS ?_; intro w12 hs; have HS12 := Lib.hid (show St _ _ _ (_ :: _ :: _ :: _ :: _ :: _ :: _ :: []) from hs.out); clear hs HS11))
  refine bp_cell HS12.out 6 stT rfl rfl rfl rfl rfl ⟨_, ⟨5, 0, 0, [], 0, 0, 0, _, _, _, _, _, _, _, _, _, [.mk k2 p2 n2 nm2 es2], ss6, ss10, true, rfl, rfl, fun h => ?_⟩, (St.sel HS12.out [0, 3, 3, 1, 0] rfl).to fun P h => h.under fun P h => (lsI_one h)⟩
  simp only []
  rw [HX10.out h, HX6.out HE.out, HX2.out (HOK.out HE.out)]
  rfl
set_option maxHeartbeats 8000000 in
set_option maxRecDepth 100000 in
theorem loop_fn (b : Nat) (L : List Lx.Tok) (hL : Sx.Ok L) (σ : Sx.R) (hB : ∀ τ, Sx.M L τ ≤ Sx.M L σ → CB b L τ) : Fn 215 #[.pointer (some ⟨b, 0, none⟩)] [rd b L σ] (SP b L (Sx.lop L σ)) := by
  intro w P hP h0
  have HS := Lib.hid (St.start hP h0)
  have C1 := Lib.hid (take_fn b L hL σ 1 (by decide))
  have hL1 := Sx.le_some hL.ends 1 (by decide) σ
  unfold Sx.lop
  simp only []
  generalize Sx.some L 1 σ = sm at C1 hL1 ⊢
  obtain ⟨t, τ⟩ := sm
  simp only [] at C1 hL1 ⊢
  have C2 := Lib.hid (want_fn b L hL τ [60] (by decide))
  have hL2 := hL1.trans (Sx.le_eat hL.ends [60] (by decide) τ)
  have CX := Lib.hid (expr_any b L hL (Sx.eat L [60] τ))
  have hL3 := hL2.trans (Sx.le_X hL.ends 0 (Sx.eat L [60] τ))
  have C3 := Lib.hid (want_fn b L hL (Sx.X L 0 (Sx.eat L [60] τ)).2 Sx.wMax (by decide))
  have hL4 := Sx.le_eat hL.ends Sx.wMax (by decide) (Sx.X L 0 (Sx.eat L [60] τ)).2
  have C4 := Lib.hid (take_fn b L hL (Sx.eat L Sx.wMax (Sx.X L 0 (Sx.eat L [60] τ)).2) 2 (by decide))
  have hL5 := hL4.trans (Sx.le_some hL.ends 2 (by decide) _)
  generalize Sx.some L 2 (Sx.eat L Sx.wMax (Sx.X L 0 (Sx.eat L [60] τ)).2) = su at C4 hL5 ⊢
  obtain ⟨u, ρ⟩ := su
  simp only [] at C4 hL5 ⊢
  have CB1 := Lib.hid (hB ρ (Sx.M_le (hL3.trans hL5)))
  have hok := fun h => Sx.Le.ok (hL5.trans (Sx.le_Bl hL.ends ρ)) h
  have HOK := Lib.hid hok
  have hF3 := tokF3
  have hF2 := tokF2
  clear h0 hP hL hB hL1 hL2 hL3 hL4 hL5 hok
  go_enter Tryz.func215, Tryz.ntmps215
  go_wp2_with (first
    | (first | (refine wpl_alloc HS.out _ rfl stZ ?_; intro b1 w1 HS1; clear HS) | (refine wpl_alloc HS2.out _ rfl stZ ?_; intro b3 w3 HS3; clear HS2))
    | (go_at_call 118; first | (refine (HS1.out.call1 C1.out).mono ?_; rintro e w2 ⟨J, ⟨rfl, rfl⟩, hs⟩; simp only [List.cons_append, List.nil_append] at hs; have HS2 := Lib.hid hs; clear hs HS1) | (refine (HS9.out.call1 C4.out).mono ?_; rintro e w10 ⟨J, ⟨rfl, rfl⟩, hs⟩; simp only [List.cons_append, List.nil_append] at hs; have HS10 := Lib.hid hs; clear hs HS9))
    | (first | (refine wpl_storeS HS3.out 1 rfl rfl stT rfl fitsS ?_; intro w4 hs; have HS4 := Lib.hid (show St _ _ _ (_ :: _ :: _ :: []) from hs.out); clear hs HS3) | (refine wpl_storeS HS13.out 5 rfl rfl stT rfl fitsS ?_; intro w14 hs; have HS14 := Lib.hid (show St _ _ _ (_ :: _ :: _ :: _ :: _ :: _ :: []) from hs.out); clear hs HS13))
    | (go_at_call 117; first | (refine (HS4.out.call1 C2.out).mono ?_; rintro e w5 ⟨J, ⟨rfl, rfl⟩, hs⟩; simp only [List.cons_append, List.nil_append] at hs; have HS5 := Lib.hid hs; clear hs HS4) | (refine (HS8.out.call1 C3.out).mono ?_; rintro e w9 ⟨J, ⟨rfl, rfl⟩, hs⟩; simp only [List.cons_append, List.nil_append] at hs; have HS9 := Lib.hid hs; clear hs HS8))
    | (go_at_call 243; refine (HS5.out.call1 CX.out).mono ?_; rintro e w6 ⟨J, ⟨k2, p2, n2, nm2, v2, es2, rfl, rfl, hx2, h12⟩, hs⟩; simp only [List.cons_append, List.nil_append] at hs; have HX2 := Lib.hid hx2; obtain ⟨q2, l2, cap2, rfl⟩ := hs.lsLen 1 rfl; have HS6 := Lib.hid hs; clear hs hx2)
    | (refine wpl_slice HS6.out rfl Tryz.underlying51 (exB _ _ _ _ _) ?_; intro b7 w7 HS7; clear HS6)
    | (first | (refine wpl_store HS7.out 3 rfl rfl exprsO (of_decide_eq_true rfl) rfl ?_; intro w8 hs; have HS8 := Lib.hid (show St _ _ _ (_ :: _ :: _ :: _ :: _ :: []) from hs.out); clear hs HS7) | (refine wpl_store HS10.out 3 rfl rfl intO (of_decide_eq_true rfl) rfl ?_; intro w11 hs; have HS11 := Lib.hid (show St _ _ _ (_ :: _ :: _ :: _ :: _ :: []) from hs.out); clear hs HS10) | (refine wpl_store HS12.out 4 rfl rfl stmtsO (of_decide_eq_true rfl) rfl ?_; intro w13 hs; have HS13 := Lib.hid (show St _ _ _ (_ :: _ :: _ :: _ :: _ :: _ :: []) from hs.out); clear hs HS12))
    | (go_at_call 124; (refine (HS11.out.call1 CB1.out).mono ?_; rintro e w12 ⟨J, ⟨q12, l12, c12, ss12, rfl, rfl, hx2⟩, hs⟩; simp only [List.cons_append, List.nil_append] at hs; have HX12 := Lib.hid hx2; have HS12 := Lib.hid hs; clear hs hx2 HS11))
    | (refine wpl_loadS HS13.out 4 rfl rfl stT rfl ?_))
  refine bp_cell HS14.out 5 stT rfl rfl rfl rfl rfl ⟨_, ⟨6, 0, u.num, t.text, 0, 0, 0, _, _, _, _, _, _, _, _, _, [.mk k2 p2 n2 nm2 es2], ss12, [], false, rfl, rfl, fun h => ?_⟩, (St.sel HS14.out [0, 1, 1, 0] rfl).to fun P h => h.under fun P h => (lsI_one h).under fun P h => h.under fun P h => ssI_nil h⟩
  simp only []
  rw [HX12.out h, HX2.out (HOK.out h)]
  rfl
set_option maxHeartbeats 8000000 in
set_option maxRecDepth 100000 in
theorem named_call (b : Nat) (L : List Lx.Tok) (hL : Sx.Ok L) (σ : Sx.R) (hs : Sx.sees L [40] (Sx.some L 1 σ).2 = true) : Fn 217 #[.pointer (some ⟨b, 0, none⟩)] [rd b L σ] (SP b L (Sx.named L 0 σ)) := by
  intro w P hP h0
  have HS := Lib.hid (St.start hP h0)
  have C1 := Lib.hid (take_fn b L hL σ 1 (by decide))
  have hat := (Sx.le_some hL.ends 1 (by decide) σ).2.2.1 HS.out.at'
  unfold Sx.named
  simp only []
  generalize Sx.some L 1 σ = sm at C1 hat hs ⊢
  obtain ⟨t, τ⟩ := sm
  simp only [] at C1 hat hs ⊢
  have C2 := Lib.hid (is_fn b L hL τ [40] (by decide))
  rw [hs] at C2
  rw [if_pos hs]
  have CX := Lib.hid (call_fn b L hL τ (fun ρ _ => expr_any b L hL ρ) t.kind t.pos t.num t.text)
  have hb : Sx.behind L (Sx.fuel L) t τ = Sx.Bh L t τ := rfl
  rw [hb, Sx.Bh_call hL.ends t hat hs]
  simp only []
  have C3 := Lib.hid (want_fn b L hL (Sx.unnest L [41] (Sx.Ar L 0 (Sx.nest L [40] τ)).2) [59] (by decide))
  clear h0 hP hL hat hs hb
  go_enter Tryz.func217, Tryz.ntmps217
  go_wp2_with (first
    | (first | (refine wpl_alloc HS.out _ rfl stZ ?_; intro b1 w1 HS1; clear HS) | (refine wpl_alloc HS2.out _ rfl tokZ ?_; intro b3 w3 HS3; clear HS2))
    | (go_at_call 118; refine (HS1.out.call1 C1.out).mono ?_; rintro e w2 ⟨J, ⟨rfl, rfl⟩, hs⟩; simp only [List.cons_append, List.nil_append] at hs; have HS2 := Lib.hid hs; clear hs; clear HS1)
    | (refine wpl_storeS HS3.out 1 rfl rfl tokT rfl (fitsT _ _ _ _) ?_; intro w4 hs; have HS4 := Lib.hid (show St _ _ _ (_ :: _ :: _ :: []) from hs.out); clear hs HS3)
    | (go_at_call 180; refine (HS4.out.call1 C2.out).mono ?_; rintro e w5 ⟨J, ⟨rfl, rfl⟩, hs⟩; simp only [List.cons_append, List.nil_append] at hs; have HS5 := Lib.hid hs; clear hs; clear HS4)
    | (refine wpl_loadS HS5.out 1 rfl rfl tokT rfl ?_)
    | (go_at_call 244; refine (HS5.out.call1 CX.out).mono ?_; rintro e w6 ⟨J, ⟨k2, p2, n2, nm2, v2, es2, rfl, rfl, hx2, h12⟩, hs⟩; simp only [List.cons_append, List.nil_append] at hs; have HX2 := Lib.hid hx2; obtain ⟨q2, l2, cap2, rfl⟩ := hs.lsLen 1 rfl; have HS6 := Lib.hid hs; clear hs hx2; clear HS5)
    | (refine wpl_slice HS6.out rfl Tryz.underlying51 (exB _ _ _ _ _) ?_; intro b7 w7 HS7; clear HS6)
    | (refine wpl_alloc HS7.out _ rfl stZ ?_; intro b8 w8 HS8; clear HS7)
    | (first | (refine wpl_storeS HS8.out 1 rfl rfl stT rfl fitsS ?_; intro w9 hs; have HS9 := Lib.hid (show St _ _ _ (_ :: _ :: _ :: _ :: _ :: _ :: []) from hs.out); clear hs HS8) | (refine wpl_storeS HS10.out 5 rfl rfl stT rfl fitsS ?_; intro w11 hs; have HS11 := Lib.hid (show St _ _ _ (_ :: _ :: _ :: _ :: _ :: _ :: []) from hs.out); clear hs HS10))
    | (go_at_call 117; refine (HS9.out.call1 C3.out).mono ?_; rintro e w10 ⟨J, ⟨rfl, rfl⟩, hs⟩; simp only [List.cons_append, List.nil_append] at hs; have HS10 := Lib.hid hs; clear hs; clear HS9)
    | (refine wpl_loadS HS10.out 1 rfl rfl stT rfl ?_))
  refine bp_cell HS11.out 5 stT rfl rfl rfl rfl rfl ⟨_, ⟨7, 0, 0, [], 0, 0, 0, _, _, _, _, _, _, _, _, _, [.mk k2 p2 n2 nm2 es2], [], [], false, rfl, rfl, fun h => ?_⟩, (St.sel HS11.out [0, 1, 1] rfl).to fun P h => h.under fun P h => (lsI_one h).under fun P h => ssI_nil (ssI_nil h)⟩
  exact congrArg (fun z => Sx.S.mk 7 0 0 [] Sx.noTy [z] [] [] false) (HX2.out (Sx.eat_ok h))
set_option maxHeartbeats 8000000 in
set_option maxRecDepth 100000 in
theorem named_store (b : Nat) (L : List Lx.Tok) (hL : Sx.Ok L) (σ : Sx.R) (hs : Sx.sees L [91] (Sx.some L 1 σ).2 = true) : Fn 217 #[.pointer (some ⟨b, 0, none⟩)] [rd b L σ] (SP b L (Sx.named L 0 σ)) := by
  intro w P hP h0
  have HS := Lib.hid (St.start hP h0)
  have C1 := Lib.hid (take_fn b L hL σ 1 (by decide))
  have hat := (Sx.le_some hL.ends 1 (by decide) σ).2.2.1 HS.out.at'
  unfold Sx.named
  simp only []
  generalize Sx.some L 1 σ = sm at C1 hat hs ⊢
  obtain ⟨t, τ⟩ := sm
  simp only [] at C1 hat hs ⊢
  have C2 := Lib.hid (is_fn b L hL τ [40] (by decide))
  have C4 := Lib.hid (is_fn b L hL τ [91] (by decide))
  have h40 : Sx.sees L [40] τ = false := Sx.sees_two hs (by decide)
  rw [hs] at C4
  rw [h40] at C2
  rw [if_neg (by rw [h40]; decide), if_pos hs]
  have hb : Sx.behind L (Sx.fuel L) t τ = Sx.Bh L t τ := rfl
  rw [hb, Sx.Bh_index hL.ends t hat hs]
  have CX := Lib.hid (index_fn b L hL τ (expr_any b L hL _))
  have C5 := Lib.hid (want_fn b L hL (Sx.unnest L [93] (Sx.X L 0 (Sx.nest L [91] τ)).2) [61] (by decide))
  have CV1 := Lib.hid (value_fn b L hL (Sx.eat L [61] (Sx.unnest L [93] (Sx.X L 0 (Sx.nest L [91] τ)).2)))
  have hok : (Sx.vl L (Sx.eat L [61] (Sx.unnest L [93] (Sx.X L 0 (Sx.nest L [91] τ)).2))).2.err = 0 → (Sx.unnest L [93] (Sx.X L 0 (Sx.nest L [91] τ)).2).err = 0 := fun h => Sx.eat_ok (Sx.Le.ok ((Sx.le_X hL.ends 0 _).trans (Sx.le_eat hL.ends [59] (by decide) _)) h)
  have HOK := Lib.hid hok
  clear h0 hP hL hat hs hb h40 hok
  go_enter Tryz.func217, Tryz.ntmps217
  go_wp2_with (first
    | (first | (refine wpl_alloc HS.out _ rfl stZ ?_; intro b1 w1 HS1; clear HS) | (refine wpl_alloc HS2.out _ rfl tokZ ?_; intro b3 w3 HS3; clear HS2) | (refine wpl_alloc HS5.out _ rfl stZ ?_; intro b6 w6 HS6; clear HS5))
    | (go_at_call 118; refine (HS1.out.call1 C1.out).mono ?_; rintro e w2 ⟨J, ⟨rfl, rfl⟩, hs⟩; simp only [List.cons_append, List.nil_append] at hs; have HS2 := Lib.hid hs; clear hs; clear HS1)
    | (first | (refine wpl_storeS HS3.out 1 rfl rfl tokT rfl (fitsT _ _ _ _) ?_; intro w4 hs; have HS4 := Lib.hid (show St _ _ _ (_ :: _ :: _ :: []) from hs.out); clear hs HS3) | (refine wpl_storeS HS6.out 1 rfl rfl stT rfl fitsS ?_; intro w7 hs; have HS7 := Lib.hid (show St _ _ _ (_ :: _ :: _ :: _ :: []) from hs.out); clear hs HS6))
    | (go_at_call 180; first | (refine (HS4.out.call1 C2.out).mono ?_; rintro e w5 ⟨J, ⟨rfl, rfl⟩, hs⟩; simp only [List.cons_append, List.nil_append] at hs; have HS5 := Lib.hid hs; clear hs HS4) | (refine (HS7.out.call1 C4.out).mono ?_; rintro e w8 ⟨J, ⟨rfl, rfl⟩, hs⟩; simp only [List.cons_append, List.nil_append] at hs; have HS8 := Lib.hid hs; clear hs HS7))
    | (refine wpl_load HS5.out 1 rfl rfl strO rfl ?_)
    | (first | (refine wpl_store HS8.out 1 rfl rfl intO (of_decide_eq_true rfl) rfl ?_; intro w9 hs; have HS9 := Lib.hid (show St _ _ _ (_ :: _ :: _ :: _ :: []) from hs.out); clear hs HS8) | (refine wpl_store HS11.out 3 rfl rfl exprsO (of_decide_eq_true rfl) rfl ?_; intro w12 hs; have HS12 := Lib.hid (show St _ _ _ (_ :: _ :: _ :: _ :: _ :: _ :: []) from hs.out); clear hs HS11))
    | (go_at_call 245; refine (HS9.out.call1 CX.out).mono ?_; rintro e w10 ⟨J, ⟨k2, p2, n2, nm2, v2, es2, rfl, rfl, hx2, h12⟩, hs⟩; simp only [List.cons_append, List.nil_append] at hs; have HX2 := Lib.hid hx2; obtain ⟨q2, l2, cap2, rfl⟩ := hs.lsLen 1 rfl; have HS10 := Lib.hid hs; clear hs hx2)
    | (refine wpl_slice HS10.out rfl Tryz.underlying51 (exB _ _ _ _ _) ?_; intro b11 w11 HS11; clear HS10)
    | (go_at_call 117; refine (HS12.out.call1 C5.out).mono ?_; rintro e w13 ⟨J, ⟨rfl, rfl⟩, hs⟩; simp only [List.cons_append, List.nil_append] at hs; have HS13 := Lib.hid hs; clear hs; clear HS12))
  refine wp_region_held_drew (S := fun _ => True) (by kernel_rfl) (trivial) (fun hHeld => ?_)
  refine tkH 0 ?_
  refine tkH 2 ?_
  refine wpAnyH_ready (rs := [1, 3]) (by kernel_rfl) (by simp) ?_
  refine AllReadyH.cons rfl (fun K hK => ?_) (AllReadyH.cons rfl (fun K hK => ?_) AllReadyH.nil)
  · (refine wp_load1 HS13.out.drew 3 rfl rfl exprsO rfl ?_)
    refine hK.out _ _ (trivial) (fun hHeld => ?_)
    clear hK K
    (try simp only [Act.put, List.setIfInBounds_toArray, List.set_cons_zero, List.set_cons_succ, List.getElem_toArray, List.getElem_cons_succ, List.getElem_cons_zero])
    refine wpAnyH_ready (rs := [3]) (by kernel_rfl) (by simp) ?_
    refine AllReadyH.cons rfl (fun K hK => ?_) AllReadyH.nil
    go_simp
    (go_at_call 216; refine (HS13.out.drew.call1 CV1.out).mono ?_; rintro e w30 ⟨J, ⟨k3, p3, n3, nm3, v3, es3, rfl, rfl, hx2, h12⟩, hs⟩; simp only [List.cons_append, List.nil_append] at hs; have HX3 := Lib.hid hx2; obtain ⟨q3, l3, cap3, rfl⟩ := hs.lsLen 1 rfl; have HS30 := Lib.hid hs; clear hs hx2)
    refine hK.out _ _ (trivial) (fun hHeld => ?_)
    clear hK K
    (try simp only [Act.put, List.setIfInBounds_toArray, List.set_cons_zero, List.set_cons_succ, List.getElem_toArray, List.getElem_cons_succ, List.getElem_cons_zero])
    refine wpAnyH_ready (rs := [4]) (by kernel_rfl) (by simp) ?_
    refine AllReadyH.cons rfl (fun K hK => ?_) AllReadyH.nil
    (refine wp_slice HS30.out rfl Tryz.underlying51 (exB _ _ _ _ _) ?_; intro b31 w31 hs; have HS31 := Lib.hid (show St _ _ _ (_ :: _ :: _ :: _ :: _ :: _ :: _ :: _ :: []) from hs.out); clear hs)
    refine hK.out _ _ (trivial) (fun hHeld => ?_)
    clear hK K
    (try simp only [Act.put, List.setIfInBounds_toArray, List.set_cons_zero, List.set_cons_succ, List.getElem_toArray, List.getElem_cons_succ, List.getElem_cons_zero])
    refine wpAnyH_ready (rs := [5]) (by kernel_rfl) (by simp) ?_
    refine AllReadyH.cons rfl (fun K hK => ?_) AllReadyH.nil
    (refine wp_append (HS31.out.mapAt 3 rfl row_own) 3 1 rfl rfl rfl Tryz.underlying51 exEl rfl (exOne rfl) (by decide) ?_; intro v32 w32 hs h32; obtain ⟨q32, cap32, rfl⟩ := hs.out.ownLen 3 rfl; have HS32 := Lib.hid (show St _ _ _ (_ :: _ :: _ :: _ :: _ :: _ :: _ :: _ :: []) from hs.out); clear hs)
    refine hK.out _ _ (trivial) (fun hHeld => ?_)
    clear hK K
    (try simp only [Act.put, List.setIfInBounds_toArray, List.set_cons_zero, List.set_cons_succ, List.getElem_toArray, List.getElem_cons_succ, List.getElem_cons_zero])
    refine tkH 6 ?_
    refine wpAnyH_ready (rs := [7]) (by kernel_rfl) (by simp) ?_
    refine AllReadyH.cons rfl (fun K hK => ?_) AllReadyH.nil
    (refine wp_store1 HS32.out 5 rfl rfl exprsO (of_decide_eq_true rfl) rfl ?_; intro w33 hs; have HS33 := Lib.hid (show St _ _ _ (_ :: _ :: _ :: _ :: _ :: _ :: _ :: _ :: []) from hs.out); clear hs)
    refine hK.out _ _ (trivial) (fun hHeld => ?_)
    clear hK K
    (try simp only [Act.put, List.setIfInBounds_toArray, List.set_cons_zero, List.set_cons_succ, List.getElem_toArray, List.getElem_cons_succ, List.getElem_cons_zero])
    refine wpAnyH_done (by kernel_rfl) ?_ _
    go_wp2_with (first
      | (refine wpl_loadS HS33.out 5 rfl rfl stT rfl ?_)
      | (refine wpl_storeS HS33.out 7 rfl rfl stT rfl fitsS ?_; intro w34 hs; have HS34 := Lib.hid (show St _ _ _ (_ :: _ :: _ :: _ :: _ :: _ :: _ :: _ :: []) from hs.out); clear hs HS33))
    refine bp_cell HS34.out 7 stT rfl rfl rfl rfl rfl ⟨_, ⟨4, 0, 0, t.text, 0, 0, 0, _, _, _, _, _, _, _, _, _, [.mk k2 p2 n2 nm2 es2, .mk k3 p3 n3 nm3 es3], [], [], false, rfl, rfl, fun h => ?_⟩, (St.sel HS34.out [0, 2, 2, 1] rfl).to fun P h => h.under fun P h => (lsI_two h).under fun P h => ssI_nil (ssI_nil h)⟩
    have h3 : (Sx.vl L (Sx.eat L [61] (Sx.unnest L [93] (Sx.X L 0 (Sx.nest L [91] τ)).2))).2.err = 0 := h
    have h4 := HX3.out h3
    have h2 := HX2.out (HOK.out h3)
    show Sx.S.mk 4 0 0 t.text Sx.noTy ([(Sx.X L 0 (Sx.nest L [91] τ)).1] ++ [(Sx.vl L (Sx.eat L [61] (Sx.unnest L [93] (Sx.X L 0 (Sx.nest L [91] τ)).2))).1]) [] [] false = _
    have h2' : (Sx.X L 0 (Sx.nest L [91] τ)).1 = .mk k2 p2 n2 nm2 es2 := h2
    rw [h4, h2']
    rfl
  · go_simp
    (go_at_call 216; refine (HS13.out.drew.call1 CV1.out).mono ?_; rintro e w30 ⟨J, ⟨k3, p3, n3, nm3, v3, es3, rfl, rfl, hx2, h12⟩, hs⟩; simp only [List.cons_append, List.nil_append] at hs; have HX3 := Lib.hid hx2; obtain ⟨q3, l3, cap3, rfl⟩ := hs.lsLen 1 rfl; have HS30 := Lib.hid hs; clear hs hx2)
    refine hK.out _ _ (trivial) (fun hHeld => ?_)
    clear hK K
    (try simp only [Act.put, List.setIfInBounds_toArray, List.set_cons_zero, List.set_cons_succ, List.getElem_toArray, List.getElem_cons_succ, List.getElem_cons_zero])
    refine wpAnyH_ready (rs := [1, 4]) (by kernel_rfl) (by simp) ?_
    refine AllReadyH.cons rfl (fun K hK => ?_) (AllReadyH.cons rfl (fun K hK => ?_) AllReadyH.nil)
    · (refine wp_load1 HS30.out 4 rfl rfl exprsO rfl ?_)
      refine hK.out _ _ (trivial) (fun hHeld => ?_)
      clear hK K
      (try simp only [Act.put, List.setIfInBounds_toArray, List.set_cons_zero, List.set_cons_succ, List.getElem_toArray, List.getElem_cons_succ, List.getElem_cons_zero])
      refine wpAnyH_ready (rs := [4]) (by kernel_rfl) (by simp) ?_
      refine AllReadyH.cons rfl (fun K hK => ?_) AllReadyH.nil
      (refine wp_slice HS30.out rfl Tryz.underlying51 (exB _ _ _ _ _) ?_; intro b31 w31 hs; have HS31 := Lib.hid (show St _ _ _ (_ :: _ :: _ :: _ :: _ :: _ :: _ :: _ :: []) from hs.out); clear hs)
      refine hK.out _ _ (trivial) (fun hHeld => ?_)
      clear hK K
      (try simp only [Act.put, List.setIfInBounds_toArray, List.set_cons_zero, List.set_cons_succ, List.getElem_toArray, List.getElem_cons_succ, List.getElem_cons_zero])
      refine wpAnyH_ready (rs := [5]) (by kernel_rfl) (by simp) ?_
      refine AllReadyH.cons rfl (fun K hK => ?_) AllReadyH.nil
      (refine wp_append (HS31.out.mapAt 3 rfl row_own) 3 1 rfl rfl rfl Tryz.underlying51 exEl rfl (exOne rfl) (by decide) ?_; intro v32 w32 hs h32; obtain ⟨q32, cap32, rfl⟩ := hs.out.ownLen 3 rfl; have HS32 := Lib.hid (show St _ _ _ (_ :: _ :: _ :: _ :: _ :: _ :: _ :: _ :: []) from hs.out); clear hs)
      refine hK.out _ _ (trivial) (fun hHeld => ?_)
      clear hK K
      (try simp only [Act.put, List.setIfInBounds_toArray, List.set_cons_zero, List.set_cons_succ, List.getElem_toArray, List.getElem_cons_succ, List.getElem_cons_zero])
      refine tkH 6 ?_
      refine wpAnyH_ready (rs := [7]) (by kernel_rfl) (by simp) ?_
      refine AllReadyH.cons rfl (fun K hK => ?_) AllReadyH.nil
      (refine wp_store1 HS32.out 5 rfl rfl exprsO (of_decide_eq_true rfl) rfl ?_; intro w33 hs; have HS33 := Lib.hid (show St _ _ _ (_ :: _ :: _ :: _ :: _ :: _ :: _ :: _ :: []) from hs.out); clear hs)
      refine hK.out _ _ (trivial) (fun hHeld => ?_)
      clear hK K
      (try simp only [Act.put, List.setIfInBounds_toArray, List.set_cons_zero, List.set_cons_succ, List.getElem_toArray, List.getElem_cons_succ, List.getElem_cons_zero])
      refine wpAnyH_done (by kernel_rfl) ?_ _
      go_wp2_with (first
        | (refine wpl_loadS HS33.out 5 rfl rfl stT rfl ?_)
        | (refine wpl_storeS HS33.out 7 rfl rfl stT rfl fitsS ?_; intro w34 hs; have HS34 := Lib.hid (show St _ _ _ (_ :: _ :: _ :: _ :: _ :: _ :: _ :: _ :: []) from hs.out); clear hs HS33))
      refine bp_cell HS34.out 7 stT rfl rfl rfl rfl rfl ⟨_, ⟨4, 0, 0, t.text, 0, 0, 0, _, _, _, _, _, _, _, _, _, [.mk k2 p2 n2 nm2 es2, .mk k3 p3 n3 nm3 es3], [], [], false, rfl, rfl, fun h => ?_⟩, (St.sel HS34.out [0, 2, 2, 1] rfl).to fun P h => h.under fun P h => (lsI_two h).under fun P h => ssI_nil (ssI_nil h)⟩
      have h3 : (Sx.vl L (Sx.eat L [61] (Sx.unnest L [93] (Sx.X L 0 (Sx.nest L [91] τ)).2))).2.err = 0 := h
      have h4 := HX3.out h3
      have h2 := HX2.out (HOK.out h3)
      show Sx.S.mk 4 0 0 t.text Sx.noTy ([(Sx.X L 0 (Sx.nest L [91] τ)).1] ++ [(Sx.vl L (Sx.eat L [61] (Sx.unnest L [93] (Sx.X L 0 (Sx.nest L [91] τ)).2))).1]) [] [] false = _
      have h2' : (Sx.X L 0 (Sx.nest L [91] τ)).1 = .mk k2 p2 n2 nm2 es2 := h2
      rw [h4, h2']
      rfl
    · (refine wp_slice HS30.out rfl Tryz.underlying51 (exB _ _ _ _ _) ?_; intro b31 w31 hs; have HS31 := Lib.hid (show St _ _ _ (_ :: _ :: _ :: _ :: _ :: _ :: _ :: _ :: []) from hs.out); clear hs)
      refine hK.out _ _ (trivial) (fun hHeld => ?_)
      clear hK K
      (try simp only [Act.put, List.setIfInBounds_toArray, List.set_cons_zero, List.set_cons_succ, List.getElem_toArray, List.getElem_cons_succ, List.getElem_cons_zero])
      refine wpAnyH_ready (rs := [1]) (by kernel_rfl) (by simp) ?_
      refine AllReadyH.cons rfl (fun K hK => ?_) AllReadyH.nil
      (refine wp_load1 HS31.out 5 rfl rfl exprsO rfl ?_)
      refine hK.out _ _ (trivial) (fun hHeld => ?_)
      clear hK K
      (try simp only [Act.put, List.setIfInBounds_toArray, List.set_cons_zero, List.set_cons_succ, List.getElem_toArray, List.getElem_cons_succ, List.getElem_cons_zero])
      refine wpAnyH_ready (rs := [5]) (by kernel_rfl) (by simp) ?_
      refine AllReadyH.cons rfl (fun K hK => ?_) AllReadyH.nil
      (refine wp_append (HS31.out.mapAt 3 rfl row_own) 3 1 rfl rfl rfl Tryz.underlying51 exEl rfl (exOne rfl) (by decide) ?_; intro v32 w32 hs h32; obtain ⟨q32, cap32, rfl⟩ := hs.out.ownLen 3 rfl; have HS32 := Lib.hid (show St _ _ _ (_ :: _ :: _ :: _ :: _ :: _ :: _ :: _ :: []) from hs.out); clear hs)
      refine hK.out _ _ (trivial) (fun hHeld => ?_)
      clear hK K
      (try simp only [Act.put, List.setIfInBounds_toArray, List.set_cons_zero, List.set_cons_succ, List.getElem_toArray, List.getElem_cons_succ, List.getElem_cons_zero])
      refine tkH 6 ?_
      refine wpAnyH_ready (rs := [7]) (by kernel_rfl) (by simp) ?_
      refine AllReadyH.cons rfl (fun K hK => ?_) AllReadyH.nil
      (refine wp_store1 HS32.out 5 rfl rfl exprsO (of_decide_eq_true rfl) rfl ?_; intro w33 hs; have HS33 := Lib.hid (show St _ _ _ (_ :: _ :: _ :: _ :: _ :: _ :: _ :: _ :: []) from hs.out); clear hs)
      refine hK.out _ _ (trivial) (fun hHeld => ?_)
      clear hK K
      (try simp only [Act.put, List.setIfInBounds_toArray, List.set_cons_zero, List.set_cons_succ, List.getElem_toArray, List.getElem_cons_succ, List.getElem_cons_zero])
      refine wpAnyH_done (by kernel_rfl) ?_ _
      go_wp2_with (first
        | (refine wpl_loadS HS33.out 5 rfl rfl stT rfl ?_)
        | (refine wpl_storeS HS33.out 7 rfl rfl stT rfl fitsS ?_; intro w34 hs; have HS34 := Lib.hid (show St _ _ _ (_ :: _ :: _ :: _ :: _ :: _ :: _ :: _ :: []) from hs.out); clear hs HS33))
      refine bp_cell HS34.out 7 stT rfl rfl rfl rfl rfl ⟨_, ⟨4, 0, 0, t.text, 0, 0, 0, _, _, _, _, _, _, _, _, _, [.mk k2 p2 n2 nm2 es2, .mk k3 p3 n3 nm3 es3], [], [], false, rfl, rfl, fun h => ?_⟩, (St.sel HS34.out [0, 2, 2, 1] rfl).to fun P h => h.under fun P h => (lsI_two h).under fun P h => ssI_nil (ssI_nil h)⟩
      have h3 : (Sx.vl L (Sx.eat L [61] (Sx.unnest L [93] (Sx.X L 0 (Sx.nest L [91] τ)).2))).2.err = 0 := h
      have h4 := HX3.out h3
      have h2 := HX2.out (HOK.out h3)
      show Sx.S.mk 4 0 0 t.text Sx.noTy ([(Sx.X L 0 (Sx.nest L [91] τ)).1] ++ [(Sx.vl L (Sx.eat L [61] (Sx.unnest L [93] (Sx.X L 0 (Sx.nest L [91] τ)).2))).1]) [] [] false = _
      have h2' : (Sx.X L 0 (Sx.nest L [91] τ)).1 = .mk k2 p2 n2 nm2 es2 := h2
      rw [h4, h2']
      rfl
set_option maxHeartbeats 8000000 in
set_option maxRecDepth 100000 in
theorem named_set (b : Nat) (L : List Lx.Tok) (hL : Sx.Ok L) (σ : Sx.R) (hs : Sx.sees L [40] (Sx.some L 1 σ).2 = false ∧ Sx.sees L [91] (Sx.some L 1 σ).2 = false) : Fn 217 #[.pointer (some ⟨b, 0, none⟩)] [rd b L σ] (SP b L (Sx.named L 0 σ)) := by
  intro w P hP h0
  have HS := Lib.hid (St.start hP h0)
  have C1 := Lib.hid (take_fn b L hL σ 1 (by decide))
  have hat := (Sx.le_some hL.ends 1 (by decide) σ).2.2.1 HS.out.at'
  unfold Sx.named
  simp only []
  generalize Sx.some L 1 σ = sm at C1 hat hs ⊢
  obtain ⟨t, τ⟩ := sm
  simp only [] at C1 hat hs ⊢
  have C2 := Lib.hid (is_fn b L hL τ [40] (by decide))
  have C4 := Lib.hid (is_fn b L hL τ [91] (by decide))
  rw [hs.2] at C4
  rw [hs.1] at C2
  rw [if_neg (by rw [hs.1]; decide), if_neg (by rw [hs.2]; decide)]
  have C5 := Lib.hid (want_fn b L hL τ [61] (by decide))
  have CV1 := Lib.hid (value_fn b L hL (Sx.eat L [61] τ))
  clear h0 hP hL hat hs
  go_enter Tryz.func217, Tryz.ntmps217
  go_wp2_with (first
    | (first | (refine wpl_alloc HS.out _ rfl stZ ?_; intro b1 w1 HS1; clear HS) | (refine wpl_alloc HS2.out _ rfl tokZ ?_; intro b3 w3 HS3; clear HS2) | (refine wpl_alloc HS5.out _ rfl stZ ?_; intro b6 w6 HS6; clear HS5))
    | (go_at_call 118; refine (HS1.out.call1 C1.out).mono ?_; rintro e w2 ⟨J, ⟨rfl, rfl⟩, hs⟩; simp only [List.cons_append, List.nil_append] at hs; have HS2 := Lib.hid hs; clear hs; clear HS1)
    | (first | (refine wpl_storeS HS3.out 1 rfl rfl tokT rfl (fitsT _ _ _ _) ?_; intro w4 hs; have HS4 := Lib.hid (show St _ _ _ (_ :: _ :: _ :: []) from hs.out); clear hs HS3) | (refine wpl_storeS HS6.out 1 rfl rfl stT rfl fitsS ?_; intro w7 hs; have HS7 := Lib.hid (show St _ _ _ (_ :: _ :: _ :: _ :: []) from hs.out); clear hs HS6))
    | (go_at_call 180; first | (refine (HS4.out.call1 C2.out).mono ?_; rintro e w5 ⟨J, ⟨rfl, rfl⟩, hs⟩; simp only [List.cons_append, List.nil_append] at hs; have HS5 := Lib.hid hs; clear hs HS4) | (refine (HS7.out.call1 C4.out).mono ?_; rintro e w8 ⟨J, ⟨rfl, rfl⟩, hs⟩; simp only [List.cons_append, List.nil_append] at hs; have HS8 := Lib.hid hs; clear hs HS7))
    | (refine wpl_load HS5.out 1 rfl rfl strO rfl ?_)
    | (go_at_call 117; refine (HS8.out.call1 C5.out).mono ?_; rintro e w13 ⟨J, ⟨rfl, rfl⟩, hs⟩; simp only [List.cons_append, List.nil_append] at hs; have HS13 := Lib.hid (hs.nilOwn); clear hs HS8))
  refine wp_region_held_drew (S := fun _ => True) (by kernel_rfl) (trivial) (fun hHeld => ?_)
  refine tkH 0 ?_
  refine tkH 2 ?_
  refine wpAnyH_ready (rs := [1, 3]) (by kernel_rfl) (by simp) ?_
  refine AllReadyH.cons rfl (fun K hK => ?_) (AllReadyH.cons rfl (fun K hK => ?_) AllReadyH.nil)
  · (refine wp_load1 HS13.out.drew 2 rfl rfl exprsO rfl ?_)
    refine hK.out _ _ (trivial) (fun hHeld => ?_)
    clear hK K
    (try simp only [Act.put, List.setIfInBounds_toArray, List.set_cons_zero, List.set_cons_succ, List.getElem_toArray, List.getElem_cons_succ, List.getElem_cons_zero])
    refine wpAnyH_ready (rs := [3]) (by kernel_rfl) (by simp) ?_
    refine AllReadyH.cons rfl (fun K hK => ?_) AllReadyH.nil
    go_simp
    (go_at_call 216; refine (HS13.out.drew.call1 CV1.out).mono ?_; rintro e w30 ⟨J, ⟨k3, p3, n3, nm3, v3, es3, rfl, rfl, hx2, h12⟩, hs⟩; simp only [List.cons_append, List.nil_append] at hs; have HX3 := Lib.hid hx2; obtain ⟨q3, l3, cap3, rfl⟩ := hs.lsLen 1 rfl; have HS30 := Lib.hid hs; clear hs hx2)
    refine hK.out _ _ (trivial) (fun hHeld => ?_)
    clear hK K
    (try simp only [Act.put, List.setIfInBounds_toArray, List.set_cons_zero, List.set_cons_succ, List.getElem_toArray, List.getElem_cons_succ, List.getElem_cons_zero])
    refine wpAnyH_ready (rs := [4]) (by kernel_rfl) (by simp) ?_
    refine AllReadyH.cons rfl (fun K hK => ?_) AllReadyH.nil
    (refine wp_slice HS30.out rfl Tryz.underlying51 (exB _ _ _ _ _) ?_; intro b31 w31 hs; have HS31 := Lib.hid (show St _ _ _ (_ :: _ :: _ :: _ :: _ :: _ :: _ :: []) from hs.out); clear hs)
    refine hK.out _ _ (trivial) (fun hHeld => ?_)
    clear hK K
    (try simp only [Act.put, List.setIfInBounds_toArray, List.set_cons_zero, List.set_cons_succ, List.getElem_toArray, List.getElem_cons_succ, List.getElem_cons_zero])
    refine wpAnyH_ready (rs := [5]) (by kernel_rfl) (by simp) ?_
    refine AllReadyH.cons rfl (fun K hK => ?_) AllReadyH.nil
    (refine wp_append HS31.out 3 1 rfl rfl rfl Tryz.underlying51 exEl rfl (exOne rfl) (by decide) ?_; intro v32 w32 hs h32; obtain ⟨q32, cap32, rfl⟩ := hs.out.ownLen 3 rfl; have HS32 := Lib.hid (show St _ _ _ (_ :: _ :: _ :: _ :: _ :: _ :: _ :: []) from hs.out); clear hs)
    refine hK.out _ _ (trivial) (fun hHeld => ?_)
    clear hK K
    (try simp only [Act.put, List.setIfInBounds_toArray, List.set_cons_zero, List.set_cons_succ, List.getElem_toArray, List.getElem_cons_succ, List.getElem_cons_zero])
    refine tkH 6 ?_
    refine wpAnyH_ready (rs := [7]) (by kernel_rfl) (by simp) ?_
    refine AllReadyH.cons rfl (fun K hK => ?_) AllReadyH.nil
    (refine wp_store1 HS32.out 4 rfl rfl exprsO (of_decide_eq_true rfl) rfl ?_; intro w33 hs; have HS33 := Lib.hid (show St _ _ _ (_ :: _ :: _ :: _ :: _ :: _ :: _ :: []) from hs.out); clear hs)
    refine hK.out _ _ (trivial) (fun hHeld => ?_)
    clear hK K
    (try simp only [Act.put, List.setIfInBounds_toArray, List.set_cons_zero, List.set_cons_succ, List.getElem_toArray, List.getElem_cons_succ, List.getElem_cons_zero])
    refine wpAnyH_done (by kernel_rfl) ?_ _
    go_wp2_with (first
      | (refine wpl_loadS HS33.out 4 rfl rfl stT rfl ?_)
      | (refine wpl_storeS HS33.out 6 rfl rfl stT rfl fitsS ?_; intro w34 hs; have HS34 := Lib.hid (show St _ _ _ (_ :: _ :: _ :: _ :: _ :: _ :: _ :: []) from hs.out); clear hs HS33))
    refine bp_cell HS34.out 6 stT rfl rfl rfl rfl rfl ⟨_, ⟨3, 0, 0, t.text, 0, 0, 0, _, _, _, _, _, _, _, _, _, [.mk k3 p3 n3 nm3 es3], [], [], false, rfl, rfl, fun h => ?_⟩, (St.sel HS34.out [0, 2, 1] rfl).to fun P h => h.under fun P h => (lsI_own1 h).under fun P h => ssI_nil (ssI_nil h)⟩
    exact congrArg (fun z => Sx.S.mk 3 0 0 t.text Sx.noTy [z] [] [] false) (HX3.out h)
  · go_simp
    (go_at_call 216; refine (HS13.out.drew.call1 CV1.out).mono ?_; rintro e w30 ⟨J, ⟨k3, p3, n3, nm3, v3, es3, rfl, rfl, hx2, h12⟩, hs⟩; simp only [List.cons_append, List.nil_append] at hs; have HX3 := Lib.hid hx2; obtain ⟨q3, l3, cap3, rfl⟩ := hs.lsLen 1 rfl; have HS30 := Lib.hid hs; clear hs hx2)
    refine hK.out _ _ (trivial) (fun hHeld => ?_)
    clear hK K
    (try simp only [Act.put, List.setIfInBounds_toArray, List.set_cons_zero, List.set_cons_succ, List.getElem_toArray, List.getElem_cons_succ, List.getElem_cons_zero])
    refine wpAnyH_ready (rs := [1, 4]) (by kernel_rfl) (by simp) ?_
    refine AllReadyH.cons rfl (fun K hK => ?_) (AllReadyH.cons rfl (fun K hK => ?_) AllReadyH.nil)
    · (refine wp_load1 HS30.out 3 rfl rfl exprsO rfl ?_)
      refine hK.out _ _ (trivial) (fun hHeld => ?_)
      clear hK K
      (try simp only [Act.put, List.setIfInBounds_toArray, List.set_cons_zero, List.set_cons_succ, List.getElem_toArray, List.getElem_cons_succ, List.getElem_cons_zero])
      refine wpAnyH_ready (rs := [4]) (by kernel_rfl) (by simp) ?_
      refine AllReadyH.cons rfl (fun K hK => ?_) AllReadyH.nil
      (refine wp_slice HS30.out rfl Tryz.underlying51 (exB _ _ _ _ _) ?_; intro b31 w31 hs; have HS31 := Lib.hid (show St _ _ _ (_ :: _ :: _ :: _ :: _ :: _ :: _ :: []) from hs.out); clear hs)
      refine hK.out _ _ (trivial) (fun hHeld => ?_)
      clear hK K
      (try simp only [Act.put, List.setIfInBounds_toArray, List.set_cons_zero, List.set_cons_succ, List.getElem_toArray, List.getElem_cons_succ, List.getElem_cons_zero])
      refine wpAnyH_ready (rs := [5]) (by kernel_rfl) (by simp) ?_
      refine AllReadyH.cons rfl (fun K hK => ?_) AllReadyH.nil
      (refine wp_append HS31.out 3 1 rfl rfl rfl Tryz.underlying51 exEl rfl (exOne rfl) (by decide) ?_; intro v32 w32 hs h32; obtain ⟨q32, cap32, rfl⟩ := hs.out.ownLen 3 rfl; have HS32 := Lib.hid (show St _ _ _ (_ :: _ :: _ :: _ :: _ :: _ :: _ :: []) from hs.out); clear hs)
      refine hK.out _ _ (trivial) (fun hHeld => ?_)
      clear hK K
      (try simp only [Act.put, List.setIfInBounds_toArray, List.set_cons_zero, List.set_cons_succ, List.getElem_toArray, List.getElem_cons_succ, List.getElem_cons_zero])
      refine tkH 6 ?_
      refine wpAnyH_ready (rs := [7]) (by kernel_rfl) (by simp) ?_
      refine AllReadyH.cons rfl (fun K hK => ?_) AllReadyH.nil
      (refine wp_store1 HS32.out 4 rfl rfl exprsO (of_decide_eq_true rfl) rfl ?_; intro w33 hs; have HS33 := Lib.hid (show St _ _ _ (_ :: _ :: _ :: _ :: _ :: _ :: _ :: []) from hs.out); clear hs)
      refine hK.out _ _ (trivial) (fun hHeld => ?_)
      clear hK K
      (try simp only [Act.put, List.setIfInBounds_toArray, List.set_cons_zero, List.set_cons_succ, List.getElem_toArray, List.getElem_cons_succ, List.getElem_cons_zero])
      refine wpAnyH_done (by kernel_rfl) ?_ _
      go_wp2_with (first
        | (refine wpl_loadS HS33.out 4 rfl rfl stT rfl ?_)
        | (refine wpl_storeS HS33.out 6 rfl rfl stT rfl fitsS ?_; intro w34 hs; have HS34 := Lib.hid (show St _ _ _ (_ :: _ :: _ :: _ :: _ :: _ :: _ :: []) from hs.out); clear hs HS33))
      refine bp_cell HS34.out 6 stT rfl rfl rfl rfl rfl ⟨_, ⟨3, 0, 0, t.text, 0, 0, 0, _, _, _, _, _, _, _, _, _, [.mk k3 p3 n3 nm3 es3], [], [], false, rfl, rfl, fun h => ?_⟩, (St.sel HS34.out [0, 2, 1] rfl).to fun P h => h.under fun P h => (lsI_own1 h).under fun P h => ssI_nil (ssI_nil h)⟩
      exact congrArg (fun z => Sx.S.mk 3 0 0 t.text Sx.noTy [z] [] [] false) (HX3.out h)
    · (refine wp_slice HS30.out rfl Tryz.underlying51 (exB _ _ _ _ _) ?_; intro b31 w31 hs; have HS31 := Lib.hid (show St _ _ _ (_ :: _ :: _ :: _ :: _ :: _ :: _ :: []) from hs.out); clear hs)
      refine hK.out _ _ (trivial) (fun hHeld => ?_)
      clear hK K
      (try simp only [Act.put, List.setIfInBounds_toArray, List.set_cons_zero, List.set_cons_succ, List.getElem_toArray, List.getElem_cons_succ, List.getElem_cons_zero])
      refine wpAnyH_ready (rs := [1]) (by kernel_rfl) (by simp) ?_
      refine AllReadyH.cons rfl (fun K hK => ?_) AllReadyH.nil
      (refine wp_load1 HS31.out 4 rfl rfl exprsO rfl ?_)
      refine hK.out _ _ (trivial) (fun hHeld => ?_)
      clear hK K
      (try simp only [Act.put, List.setIfInBounds_toArray, List.set_cons_zero, List.set_cons_succ, List.getElem_toArray, List.getElem_cons_succ, List.getElem_cons_zero])
      refine wpAnyH_ready (rs := [5]) (by kernel_rfl) (by simp) ?_
      refine AllReadyH.cons rfl (fun K hK => ?_) AllReadyH.nil
      (refine wp_append HS31.out 3 1 rfl rfl rfl Tryz.underlying51 exEl rfl (exOne rfl) (by decide) ?_; intro v32 w32 hs h32; obtain ⟨q32, cap32, rfl⟩ := hs.out.ownLen 3 rfl; have HS32 := Lib.hid (show St _ _ _ (_ :: _ :: _ :: _ :: _ :: _ :: _ :: []) from hs.out); clear hs)
      refine hK.out _ _ (trivial) (fun hHeld => ?_)
      clear hK K
      (try simp only [Act.put, List.setIfInBounds_toArray, List.set_cons_zero, List.set_cons_succ, List.getElem_toArray, List.getElem_cons_succ, List.getElem_cons_zero])
      refine tkH 6 ?_
      refine wpAnyH_ready (rs := [7]) (by kernel_rfl) (by simp) ?_
      refine AllReadyH.cons rfl (fun K hK => ?_) AllReadyH.nil
      (refine wp_store1 HS32.out 4 rfl rfl exprsO (of_decide_eq_true rfl) rfl ?_; intro w33 hs; have HS33 := Lib.hid (show St _ _ _ (_ :: _ :: _ :: _ :: _ :: _ :: _ :: []) from hs.out); clear hs)
      refine hK.out _ _ (trivial) (fun hHeld => ?_)
      clear hK K
      (try simp only [Act.put, List.setIfInBounds_toArray, List.set_cons_zero, List.set_cons_succ, List.getElem_toArray, List.getElem_cons_succ, List.getElem_cons_zero])
      refine wpAnyH_done (by kernel_rfl) ?_ _
      go_wp2_with (first
        | (refine wpl_loadS HS33.out 4 rfl rfl stT rfl ?_)
        | (refine wpl_storeS HS33.out 6 rfl rfl stT rfl fitsS ?_; intro w34 hs; have HS34 := Lib.hid (show St _ _ _ (_ :: _ :: _ :: _ :: _ :: _ :: _ :: []) from hs.out); clear hs HS33))
      refine bp_cell HS34.out 6 stT rfl rfl rfl rfl rfl ⟨_, ⟨3, 0, 0, t.text, 0, 0, 0, _, _, _, _, _, _, _, _, _, [.mk k3 p3 n3 nm3 es3], [], [], false, rfl, rfl, fun h => ?_⟩, (St.sel HS34.out [0, 2, 1] rfl).to fun P h => h.under fun P h => (lsI_own1 h).under fun P h => ssI_nil (ssI_nil h)⟩
      exact congrArg (fun z => Sx.S.mk 3 0 0 t.text Sx.noTy [z] [] [] false) (HX3.out h)
theorem named_fn (b : Nat) (L : List Lx.Tok) (hL : Sx.Ok L) (σ : Sx.R) : Fn 217 #[.pointer (some ⟨b, 0, none⟩)] [rd b L σ] (SP b L (Sx.named L 0 σ)) := by
  by_cases h1 : Sx.sees L [40] (Sx.some L 1 σ).2 = true
  · exact named_call b L hL σ h1
  by_cases h2 : Sx.sees L [91] (Sx.some L 1 σ).2 = true
  · exact named_store b L hL σ h2
  exact named_set b L hL σ ⟨by simpa using h1, by simpa using h2⟩
end Go.Proofs.YtjfdcnggnldgdaaGreatDoor
end
section
namespace Go.Proofs.YtjfdcnggnldgdaaGreatDoor
open Go.ChangeShapes Go.WideShapes Go.ChangeAt Go.RowKit
set_option linter.unusedVariables false
set_option linter.unusedSimpArgs false

theorem Sx.S.at_mk (p k q m : Int) (nm : List UInt8) (ty : Sx.Ty) (es : List Sx.E) (bs cs : List Sx.S) (h : Bool) : Sx.S.at' p (.mk k q m nm ty es bs cs h) = .mk k p m nm ty es bs cs h := rfl
theorem branch_any (b : Nat) (L : List Lx.Tok) (hL : Sx.Ok L) (σ : Sx.R) (hB : ∀ τ, Sx.M L τ ≤ Sx.M L σ → CB b L τ) : Fn 214 #[.pointer (some ⟨b, 0, none⟩)] [rd b L σ] (SP b L (Sx.brn L σ)) := by
  cases h : Sx.sees L Sx.wElse (Sx.Bl L (Sx.X L 0 σ).2).2
  · exact branch_no b L hL σ hB h
  · exact branch_yes b L hL σ hB h
set_option maxHeartbeats 8000000 in
set_option maxRecDepth 100000 in
theorem stmt_let (b : Nat) (L : List Lx.Tok) (hL : Sx.Ok L) (σ : Sx.R) (he : σ.err = 0) (hB : ∀ τ, Sx.M L τ + 16 ≤ Sx.M L σ → CB b L τ) (hse : Sx.sees L Sx.wLet σ = true) : CS b L σ := by
  intro w P hP h0
  have HS := Lib.hid (St.start hP h0)
  have hat := HS.out.at'
  have hB' : ∀ τ, Sx.M L τ ≤ Sx.M L { σ with at' := σ.at' + 1 } → CB b L τ := fun τ h => hB τ (Nat.le_trans (Nat.add_le_add_right h 16) (Sx.M_next he hat))
  have C1 := Lib.hid (next_fn b L σ)
  rw [Sx.pk_tk he] at C1
  have M0 := Lib.hid (may_fn b L hL σ Sx.wLet (by decide))
  rw [Sx.may_is hse] at M0
  have hst : Sx.stm L σ = Sx.lett L { σ with at' := σ.at' + 1 } := by
    unfold Sx.stm
    simp only []
    rw [if_pos hse]
  rw [Sx.St_eq hL.ends hat he, hst]
  have CX := Lib.hid (let_fn b L hL { σ with at' := σ.at' + 1 })
  have hF1 := tokF1
  clear h0 hP hL hB hB' hat he hst hse
  go_enter Tryz.func183, Tryz.ntmps183
  go_wp2_with (first
    | (first | (refine wpl_alloc HS.out _ rfl stZ ?_; intro b1 w1 HS1; clear HS) | (refine wpl_alloc HS2.out _ rfl stZ ?_; intro b3 w3 HS3; clear HS2))
    | (go_at_call 61; refine (HS1.out.call1 C1.out).mono ?_; rintro e w2 ⟨J, ⟨rfl, rfl⟩, hs⟩; simp only [List.cons_append, List.nil_append] at hs; have HS2 := Lib.hid hs; clear hs; clear HS1)
    | (go_at_call 121; first | (refine (HS3.out.call1 M0.out).mono ?_; rintro e w4 ⟨J, ⟨rfl, rfl⟩, hs⟩; simp only [List.cons_append, List.nil_append] at hs; have HS4 := Lib.hid hs; clear hs HS3))
    | (go_at_call 212; refine (HS4.out.call1 CX.out).mono ?_; rintro e w20 ⟨J, ⟨k, p, m, nm, te, tl, tb, q1, q2, q3, l1, l2, l3, c1, c2, c3, es, bs, cs, hh, rfl, rfl, hx⟩, hs⟩; simp only [List.cons_append, List.nil_append] at hs; have HX := Lib.hid hx; have HS20 := Lib.hid hs; clear hs hx)
    | (first | (refine wpl_storeS HS20.out 4 rfl rfl stT rfl fitsS ?_; intro w21 hs; have HS21 := Lib.hid (show St _ _ _ (_ :: _ :: _ :: _ :: _ :: _ :: []) from hs.out); clear hs HS20) | (refine wpl_storeS HS22.out 5 rfl rfl stT rfl fitsS ?_; intro w23 hs; have HS23 := Lib.hid (show St _ _ _ (_ :: _ :: _ :: _ :: _ :: _ :: []) from hs.out); clear hs HS22))
    | (refine wpl_store HS21.out 4 rfl rfl intO (of_decide_eq_true rfl) rfl ?_; intro w22 hs; have HS22 := Lib.hid (show St _ _ _ (_ :: _ :: _ :: _ :: _ :: _ :: []) from hs.out); clear hs HS21)
    | (refine wpl_loadS HS22.out 4 rfl rfl stT rfl ?_))
  refine bp_cell HS23.out 5 stT rfl rfl rfl rfl rfl ⟨_, ⟨k, (Sx.tk L σ).pos, m, nm, te, tl, tb, _, _, _, _, _, _, _, _, _, es, bs, cs, hh, rfl, rfl, fun h => ?_⟩, St.sel HS23.out [0, 0, 0, 0] rfl⟩
  exact (congrArg (Sx.S.at' (Sx.tk L σ).pos) (HX.out h)).trans (Sx.S.at_mk _ _ _ _ _ _ _ _ _ _)
set_option maxHeartbeats 8000000 in
set_option maxRecDepth 100000 in
theorem stmt_var (b : Nat) (L : List Lx.Tok) (hL : Sx.Ok L) (σ : Sx.R) (he : σ.err = 0) (hB : ∀ τ, Sx.M L τ + 16 ≤ Sx.M L σ → CB b L τ) (hse : Sx.sees L Sx.wVar σ = true) : CS b L σ := by
  intro w P hP h0
  have HS := Lib.hid (St.start hP h0)
  have hat := HS.out.at'
  have hB' : ∀ τ, Sx.M L τ ≤ Sx.M L { σ with at' := σ.at' + 1 } → CB b L τ := fun τ h => hB τ (Nat.le_trans (Nat.add_le_add_right h 16) (Sx.M_next he hat))
  have C1 := Lib.hid (next_fn b L σ)
  rw [Sx.pk_tk he] at C1
  have N0 : Sx.sees L Sx.wLet σ = false := Sx.sees_two hse (by decide)
  have M0 := Lib.hid (may_fn b L hL σ Sx.wLet (by decide))
  rw [Sx.may_no N0] at M0
  have M1 := Lib.hid (may_fn b L hL σ Sx.wVar (by decide))
  rw [Sx.may_is hse] at M1
  have hst : Sx.stm L σ = Sx.dcl L { σ with at' := σ.at' + 1 } := by
    unfold Sx.stm
    simp only []
    rw [if_neg (by rw [N0]; exact Bool.false_ne_true), if_pos hse]
  rw [Sx.St_eq hL.ends hat he, hst]
  have CX := Lib.hid (declaration_fn b L hL { σ with at' := σ.at' + 1 })
  have hF1 := tokF1
  clear h0 hP hL hB hB' hat he hst hse N0
  go_enter Tryz.func183, Tryz.ntmps183
  go_wp2_with (first
    | (first | (refine wpl_alloc HS.out _ rfl stZ ?_; intro b1 w1 HS1; clear HS) | (refine wpl_alloc HS2.out _ rfl stZ ?_; intro b3 w3 HS3; clear HS2))
    | (go_at_call 61; refine (HS1.out.call1 C1.out).mono ?_; rintro e w2 ⟨J, ⟨rfl, rfl⟩, hs⟩; simp only [List.cons_append, List.nil_append] at hs; have HS2 := Lib.hid hs; clear hs; clear HS1)
    | (go_at_call 121; first | (refine (HS3.out.call1 M0.out).mono ?_; rintro e w4 ⟨J, ⟨rfl, rfl⟩, hs⟩; simp only [List.cons_append, List.nil_append] at hs; have HS4 := Lib.hid hs; clear hs HS3) | (refine (HS4.out.call1 M1.out).mono ?_; rintro e w5 ⟨J, ⟨rfl, rfl⟩, hs⟩; simp only [List.cons_append, List.nil_append] at hs; have HS5 := Lib.hid hs; clear hs HS4))
    | (go_at_call 213; refine (HS5.out.call1 CX.out).mono ?_; rintro e w20 ⟨J, ⟨k, p, m, nm, te, tl, tb, q1, q2, q3, l1, l2, l3, c1, c2, c3, es, bs, cs, hh, rfl, rfl, hx⟩, hs⟩; simp only [List.cons_append, List.nil_append] at hs; have HX := Lib.hid hx; have HS20 := Lib.hid hs; clear hs hx)
    | (first | (refine wpl_storeS HS20.out 4 rfl rfl stT rfl fitsS ?_; intro w21 hs; have HS21 := Lib.hid (show St _ _ _ (_ :: _ :: _ :: _ :: _ :: _ :: []) from hs.out); clear hs HS20) | (refine wpl_storeS HS22.out 5 rfl rfl stT rfl fitsS ?_; intro w23 hs; have HS23 := Lib.hid (show St _ _ _ (_ :: _ :: _ :: _ :: _ :: _ :: []) from hs.out); clear hs HS22))
    | (refine wpl_store HS21.out 4 rfl rfl intO (of_decide_eq_true rfl) rfl ?_; intro w22 hs; have HS22 := Lib.hid (show St _ _ _ (_ :: _ :: _ :: _ :: _ :: _ :: []) from hs.out); clear hs HS21)
    | (refine wpl_loadS HS22.out 4 rfl rfl stT rfl ?_))
  refine bp_cell HS23.out 5 stT rfl rfl rfl rfl rfl ⟨_, ⟨k, (Sx.tk L σ).pos, m, nm, te, tl, tb, _, _, _, _, _, _, _, _, _, es, bs, cs, hh, rfl, rfl, fun h => ?_⟩, St.sel HS23.out [0, 0, 0, 0] rfl⟩
  exact (congrArg (Sx.S.at' (Sx.tk L σ).pos) (HX.out h)).trans (Sx.S.at_mk _ _ _ _ _ _ _ _ _ _)
set_option maxHeartbeats 8000000 in
set_option maxRecDepth 100000 in
theorem stmt_if (b : Nat) (L : List Lx.Tok) (hL : Sx.Ok L) (σ : Sx.R) (he : σ.err = 0) (hB : ∀ τ, Sx.M L τ + 16 ≤ Sx.M L σ → CB b L τ) (hse : Sx.sees L Sx.wIf σ = true) : CS b L σ := by
  intro w P hP h0
  have HS := Lib.hid (St.start hP h0)
  have hat := HS.out.at'
  have hB' : ∀ τ, Sx.M L τ ≤ Sx.M L { σ with at' := σ.at' + 1 } → CB b L τ := fun τ h => hB τ (Nat.le_trans (Nat.add_le_add_right h 16) (Sx.M_next he hat))
  have C1 := Lib.hid (next_fn b L σ)
  rw [Sx.pk_tk he] at C1
  have N0 : Sx.sees L Sx.wLet σ = false := Sx.sees_two hse (by decide)
  have M0 := Lib.hid (may_fn b L hL σ Sx.wLet (by decide))
  rw [Sx.may_no N0] at M0
  have N1 : Sx.sees L Sx.wVar σ = false := Sx.sees_two hse (by decide)
  have M1 := Lib.hid (may_fn b L hL σ Sx.wVar (by decide))
  rw [Sx.may_no N1] at M1
  have M2 := Lib.hid (may_fn b L hL σ Sx.wIf (by decide))
  rw [Sx.may_is hse] at M2
  have hst : Sx.stm L σ = Sx.brn L { σ with at' := σ.at' + 1 } := by
    unfold Sx.stm
    simp only []
    rw [if_neg (by rw [N0]; exact Bool.false_ne_true), if_neg (by rw [N1]; exact Bool.false_ne_true), if_pos hse]
  rw [Sx.St_eq hL.ends hat he, hst]
  have CX := Lib.hid (branch_any b L hL { σ with at' := σ.at' + 1 } hB')
  have hF1 := tokF1
  clear h0 hP hL hB hB' hat he hst hse N0 N1
  go_enter Tryz.func183, Tryz.ntmps183
  go_wp2_with (first
    | (first | (refine wpl_alloc HS.out _ rfl stZ ?_; intro b1 w1 HS1; clear HS) | (refine wpl_alloc HS2.out _ rfl stZ ?_; intro b3 w3 HS3; clear HS2))
    | (go_at_call 61; refine (HS1.out.call1 C1.out).mono ?_; rintro e w2 ⟨J, ⟨rfl, rfl⟩, hs⟩; simp only [List.cons_append, List.nil_append] at hs; have HS2 := Lib.hid hs; clear hs; clear HS1)
    | (go_at_call 121; first | (refine (HS3.out.call1 M0.out).mono ?_; rintro e w4 ⟨J, ⟨rfl, rfl⟩, hs⟩; simp only [List.cons_append, List.nil_append] at hs; have HS4 := Lib.hid hs; clear hs HS3) | (refine (HS4.out.call1 M1.out).mono ?_; rintro e w5 ⟨J, ⟨rfl, rfl⟩, hs⟩; simp only [List.cons_append, List.nil_append] at hs; have HS5 := Lib.hid hs; clear hs HS4) | (refine (HS5.out.call1 M2.out).mono ?_; rintro e w6 ⟨J, ⟨rfl, rfl⟩, hs⟩; simp only [List.cons_append, List.nil_append] at hs; have HS6 := Lib.hid hs; clear hs HS5))
    | (go_at_call 214; refine (HS6.out.call1 CX.out).mono ?_; rintro e w20 ⟨J, ⟨k, p, m, nm, te, tl, tb, q1, q2, q3, l1, l2, l3, c1, c2, c3, es, bs, cs, hh, rfl, rfl, hx⟩, hs⟩; simp only [List.cons_append, List.nil_append] at hs; have HX := Lib.hid hx; have HS20 := Lib.hid hs; clear hs hx)
    | (first | (refine wpl_storeS HS20.out 4 rfl rfl stT rfl fitsS ?_; intro w21 hs; have HS21 := Lib.hid (show St _ _ _ (_ :: _ :: _ :: _ :: _ :: _ :: []) from hs.out); clear hs HS20) | (refine wpl_storeS HS22.out 5 rfl rfl stT rfl fitsS ?_; intro w23 hs; have HS23 := Lib.hid (show St _ _ _ (_ :: _ :: _ :: _ :: _ :: _ :: []) from hs.out); clear hs HS22))
    | (refine wpl_store HS21.out 4 rfl rfl intO (of_decide_eq_true rfl) rfl ?_; intro w22 hs; have HS22 := Lib.hid (show St _ _ _ (_ :: _ :: _ :: _ :: _ :: _ :: []) from hs.out); clear hs HS21)
    | (refine wpl_loadS HS22.out 4 rfl rfl stT rfl ?_))
  refine bp_cell HS23.out 5 stT rfl rfl rfl rfl rfl ⟨_, ⟨k, (Sx.tk L σ).pos, m, nm, te, tl, tb, _, _, _, _, _, _, _, _, _, es, bs, cs, hh, rfl, rfl, fun h => ?_⟩, St.sel HS23.out [0, 0, 0, 0] rfl⟩
  exact (congrArg (Sx.S.at' (Sx.tk L σ).pos) (HX.out h)).trans (Sx.S.at_mk _ _ _ _ _ _ _ _ _ _)
set_option maxHeartbeats 8000000 in
set_option maxRecDepth 100000 in
theorem stmt_for (b : Nat) (L : List Lx.Tok) (hL : Sx.Ok L) (σ : Sx.R) (he : σ.err = 0) (hB : ∀ τ, Sx.M L τ + 16 ≤ Sx.M L σ → CB b L τ) (hse : Sx.sees L Sx.wFor σ = true) : CS b L σ := by
  intro w P hP h0
  have HS := Lib.hid (St.start hP h0)
  have hat := HS.out.at'
  have hB' : ∀ τ, Sx.M L τ ≤ Sx.M L { σ with at' := σ.at' + 1 } → CB b L τ := fun τ h => hB τ (Nat.le_trans (Nat.add_le_add_right h 16) (Sx.M_next he hat))
  have C1 := Lib.hid (next_fn b L σ)
  rw [Sx.pk_tk he] at C1
  have N0 : Sx.sees L Sx.wLet σ = false := Sx.sees_two hse (by decide)
  have M0 := Lib.hid (may_fn b L hL σ Sx.wLet (by decide))
  rw [Sx.may_no N0] at M0
  have N1 : Sx.sees L Sx.wVar σ = false := Sx.sees_two hse (by decide)
  have M1 := Lib.hid (may_fn b L hL σ Sx.wVar (by decide))
  rw [Sx.may_no N1] at M1
  have N2 : Sx.sees L Sx.wIf σ = false := Sx.sees_two hse (by decide)
  have M2 := Lib.hid (may_fn b L hL σ Sx.wIf (by decide))
  rw [Sx.may_no N2] at M2
  have M3 := Lib.hid (may_fn b L hL σ Sx.wFor (by decide))
  rw [Sx.may_is hse] at M3
  have hst : Sx.stm L σ = Sx.lop L { σ with at' := σ.at' + 1 } := by
    unfold Sx.stm
    simp only []
    rw [if_neg (by rw [N0]; exact Bool.false_ne_true), if_neg (by rw [N1]; exact Bool.false_ne_true), if_neg (by rw [N2]; exact Bool.false_ne_true), if_pos hse]
  rw [Sx.St_eq hL.ends hat he, hst]
  have CX := Lib.hid (loop_fn b L hL { σ with at' := σ.at' + 1 } hB')
  have hF1 := tokF1
  clear h0 hP hL hB hB' hat he hst hse N0 N1 N2
  go_enter Tryz.func183, Tryz.ntmps183
  go_wp2_with (first
    | (first | (refine wpl_alloc HS.out _ rfl stZ ?_; intro b1 w1 HS1; clear HS) | (refine wpl_alloc HS2.out _ rfl stZ ?_; intro b3 w3 HS3; clear HS2))
    | (go_at_call 61; refine (HS1.out.call1 C1.out).mono ?_; rintro e w2 ⟨J, ⟨rfl, rfl⟩, hs⟩; simp only [List.cons_append, List.nil_append] at hs; have HS2 := Lib.hid hs; clear hs; clear HS1)
    | (go_at_call 121; first | (refine (HS3.out.call1 M0.out).mono ?_; rintro e w4 ⟨J, ⟨rfl, rfl⟩, hs⟩; simp only [List.cons_append, List.nil_append] at hs; have HS4 := Lib.hid hs; clear hs HS3) | (refine (HS4.out.call1 M1.out).mono ?_; rintro e w5 ⟨J, ⟨rfl, rfl⟩, hs⟩; simp only [List.cons_append, List.nil_append] at hs; have HS5 := Lib.hid hs; clear hs HS4) | (refine (HS5.out.call1 M2.out).mono ?_; rintro e w6 ⟨J, ⟨rfl, rfl⟩, hs⟩; simp only [List.cons_append, List.nil_append] at hs; have HS6 := Lib.hid hs; clear hs HS5) | (refine (HS6.out.call1 M3.out).mono ?_; rintro e w7 ⟨J, ⟨rfl, rfl⟩, hs⟩; simp only [List.cons_append, List.nil_append] at hs; have HS7 := Lib.hid hs; clear hs HS6))
    | (go_at_call 215; refine (HS7.out.call1 CX.out).mono ?_; rintro e w20 ⟨J, ⟨k, p, m, nm, te, tl, tb, q1, q2, q3, l1, l2, l3, c1, c2, c3, es, bs, cs, hh, rfl, rfl, hx⟩, hs⟩; simp only [List.cons_append, List.nil_append] at hs; have HX := Lib.hid hx; have HS20 := Lib.hid hs; clear hs hx)
    | (first | (refine wpl_storeS HS20.out 4 rfl rfl stT rfl fitsS ?_; intro w21 hs; have HS21 := Lib.hid (show St _ _ _ (_ :: _ :: _ :: _ :: _ :: _ :: []) from hs.out); clear hs HS20) | (refine wpl_storeS HS22.out 5 rfl rfl stT rfl fitsS ?_; intro w23 hs; have HS23 := Lib.hid (show St _ _ _ (_ :: _ :: _ :: _ :: _ :: _ :: []) from hs.out); clear hs HS22))
    | (refine wpl_store HS21.out 4 rfl rfl intO (of_decide_eq_true rfl) rfl ?_; intro w22 hs; have HS22 := Lib.hid (show St _ _ _ (_ :: _ :: _ :: _ :: _ :: _ :: []) from hs.out); clear hs HS21)
    | (refine wpl_loadS HS22.out 4 rfl rfl stT rfl ?_))
  refine bp_cell HS23.out 5 stT rfl rfl rfl rfl rfl ⟨_, ⟨k, (Sx.tk L σ).pos, m, nm, te, tl, tb, _, _, _, _, _, _, _, _, _, es, bs, cs, hh, rfl, rfl, fun h => ?_⟩, St.sel HS23.out [0, 0, 0, 0] rfl⟩
  exact (congrArg (Sx.S.at' (Sx.tk L σ).pos) (HX.out h)).trans (Sx.S.at_mk _ _ _ _ _ _ _ _ _ _)
set_option maxHeartbeats 8000000 in
set_option maxRecDepth 100000 in
theorem stmt_return (b : Nat) (L : List Lx.Tok) (hL : Sx.Ok L) (σ : Sx.R) (he : σ.err = 0) (hB : ∀ τ, Sx.M L τ + 16 ≤ Sx.M L σ → CB b L τ) (hse : Sx.sees L Sx.wRet σ = true) : CS b L σ := by
  intro w P hP h0
  have HS := Lib.hid (St.start hP h0)
  have hat := HS.out.at'
  have hB' : ∀ τ, Sx.M L τ ≤ Sx.M L { σ with at' := σ.at' + 1 } → CB b L τ := fun τ h => hB τ (Nat.le_trans (Nat.add_le_add_right h 16) (Sx.M_next he hat))
  have C1 := Lib.hid (next_fn b L σ)
  rw [Sx.pk_tk he] at C1
  have N0 : Sx.sees L Sx.wLet σ = false := Sx.sees_two hse (by decide)
  have M0 := Lib.hid (may_fn b L hL σ Sx.wLet (by decide))
  rw [Sx.may_no N0] at M0
  have N1 : Sx.sees L Sx.wVar σ = false := Sx.sees_two hse (by decide)
  have M1 := Lib.hid (may_fn b L hL σ Sx.wVar (by decide))
  rw [Sx.may_no N1] at M1
  have N2 : Sx.sees L Sx.wIf σ = false := Sx.sees_two hse (by decide)
  have M2 := Lib.hid (may_fn b L hL σ Sx.wIf (by decide))
  rw [Sx.may_no N2] at M2
  have N3 : Sx.sees L Sx.wFor σ = false := Sx.sees_two hse (by decide)
  have M3 := Lib.hid (may_fn b L hL σ Sx.wFor (by decide))
  rw [Sx.may_no N3] at M3
  have M4 := Lib.hid (may_fn b L hL σ Sx.wRet (by decide))
  rw [Sx.may_is hse] at M4
  have hst : Sx.stm L σ = Sx.ret L { σ with at' := σ.at' + 1 } := by
    unfold Sx.stm
    simp only []
    rw [if_neg (by rw [N0]; exact Bool.false_ne_true), if_neg (by rw [N1]; exact Bool.false_ne_true), if_neg (by rw [N2]; exact Bool.false_ne_true), if_neg (by rw [N3]; exact Bool.false_ne_true), if_pos hse]
  rw [Sx.St_eq hL.ends hat he, hst]
  have CX := Lib.hid (value_fn b L hL { σ with at' := σ.at' + 1 })
  have hF1 := tokF1
  clear h0 hP hL hB hB' hat he hst hse N0 N1 N2 N3
  go_enter Tryz.func183, Tryz.ntmps183
  go_wp2_with (first
    | (first | (refine wpl_alloc HS.out _ rfl stZ ?_; intro b1 w1 HS1; clear HS) | (refine wpl_alloc HS2.out _ rfl stZ ?_; intro b3 w3 HS3; clear HS2))
    | (go_at_call 61; refine (HS1.out.call1 C1.out).mono ?_; rintro e w2 ⟨J, ⟨rfl, rfl⟩, hs⟩; simp only [List.cons_append, List.nil_append] at hs; have HS2 := Lib.hid hs; clear hs; clear HS1)
    | (go_at_call 121; first | (refine (HS3.out.call1 M0.out).mono ?_; rintro e w4 ⟨J, ⟨rfl, rfl⟩, hs⟩; simp only [List.cons_append, List.nil_append] at hs; have HS4 := Lib.hid hs; clear hs HS3) | (refine (HS4.out.call1 M1.out).mono ?_; rintro e w5 ⟨J, ⟨rfl, rfl⟩, hs⟩; simp only [List.cons_append, List.nil_append] at hs; have HS5 := Lib.hid hs; clear hs HS4) | (refine (HS5.out.call1 M2.out).mono ?_; rintro e w6 ⟨J, ⟨rfl, rfl⟩, hs⟩; simp only [List.cons_append, List.nil_append] at hs; have HS6 := Lib.hid hs; clear hs HS5) | (refine (HS6.out.call1 M3.out).mono ?_; rintro e w7 ⟨J, ⟨rfl, rfl⟩, hs⟩; simp only [List.cons_append, List.nil_append] at hs; have HS7 := Lib.hid hs; clear hs HS6) | (refine (HS7.out.call1 M4.out).mono ?_; rintro e w8 ⟨J, ⟨rfl, rfl⟩, hs⟩; simp only [List.cons_append, List.nil_append] at hs; have HS8 := Lib.hid hs; clear hs HS7))
    | (go_at_call 216; refine (HS8.out.call1 CX.out).mono ?_; rintro e w20 ⟨J, ⟨k2, p2, n2, nm2, v2, es2, rfl, rfl, hx2, h12⟩, hs⟩; simp only [List.cons_append, List.nil_append] at hs; have HX2 := Lib.hid hx2; obtain ⟨q2, l2, cap2, rfl⟩ := hs.lsLen 1 rfl; have HS20 := Lib.hid hs; clear hs hx2)
    | (refine wpl_slice HS20.out rfl Tryz.underlying51 (exB _ _ _ _ _) ?_; intro b21 w21 HS21; clear HS20)
    | (first | (refine wpl_storeS HS21.out 3 rfl rfl stT rfl fitsS ?_; intro w22 hs; have HS22 := Lib.hid (show St _ _ _ (_ :: _ :: _ :: _ :: _ :: []) from hs.out); clear hs HS21) | (refine wpl_storeS HS23.out 4 rfl rfl stT rfl fitsS ?_; intro w24 hs; have HS24 := Lib.hid (show St _ _ _ (_ :: _ :: _ :: _ :: _ :: []) from hs.out); clear hs HS23))
    | (refine wpl_store HS22.out 3 rfl rfl intO (of_decide_eq_true rfl) rfl ?_; intro w23 hs; have HS23 := Lib.hid (show St _ _ _ (_ :: _ :: _ :: _ :: _ :: []) from hs.out); clear hs HS22)
    | (refine wpl_loadS HS23.out 3 rfl rfl stT rfl ?_))
  refine bp_cell HS24.out 4 stT rfl rfl rfl rfl rfl ⟨_, ⟨8, (Sx.tk L σ).pos, 0, [], 0, 0, 0, _, _, _, _, _, _, _, _, _, [.mk k2 p2 n2 nm2 es2], [], [], false, rfl, rfl, fun h => ?_⟩, (St.sel HS24.out [0, 0, 0] rfl).to fun P h => h.under fun P h => (lsI_one h).under fun P h => ssI_nil (ssI_nil h)⟩
  exact congrArg (fun z => Sx.S.mk 8 (Sx.tk L σ).pos 0 [] Sx.noTy [z] [] [] false) (HX2.out h)
set_option maxHeartbeats 8000000 in
set_option maxRecDepth 100000 in
theorem stmt_named (b : Nat) (L : List Lx.Tok) (hL : Sx.Ok L) (σ : Sx.R) (he : σ.err = 0) (hB : ∀ τ, Sx.M L τ + 16 ≤ Sx.M L σ → CB b L τ) (hno : ∀ s, s ∈ [Sx.wLet, Sx.wVar, Sx.wIf, Sx.wFor, Sx.wRet] → Sx.sees L s σ = false) : CS b L σ := by
  intro w P hP h0
  have HS := Lib.hid (St.start hP h0)
  have hat := HS.out.at'
  have hB' : ∀ τ, Sx.M L τ ≤ Sx.M L { σ with at' := σ.at' + 1 } → CB b L τ := fun τ h => hB τ (Nat.le_trans (Nat.add_le_add_right h 16) (Sx.M_next he hat))
  have C1 := Lib.hid (next_fn b L σ)
  rw [Sx.pk_tk he] at C1
  have N0 : Sx.sees L Sx.wLet σ = false := hno Sx.wLet (by decide)
  have M0 := Lib.hid (may_fn b L hL σ Sx.wLet (by decide))
  rw [Sx.may_no N0] at M0
  have N1 : Sx.sees L Sx.wVar σ = false := hno Sx.wVar (by decide)
  have M1 := Lib.hid (may_fn b L hL σ Sx.wVar (by decide))
  rw [Sx.may_no N1] at M1
  have N2 : Sx.sees L Sx.wIf σ = false := hno Sx.wIf (by decide)
  have M2 := Lib.hid (may_fn b L hL σ Sx.wIf (by decide))
  rw [Sx.may_no N2] at M2
  have N3 : Sx.sees L Sx.wFor σ = false := hno Sx.wFor (by decide)
  have M3 := Lib.hid (may_fn b L hL σ Sx.wFor (by decide))
  rw [Sx.may_no N3] at M3
  have N4 : Sx.sees L Sx.wRet σ = false := hno Sx.wRet (by decide)
  have M4 := Lib.hid (may_fn b L hL σ Sx.wRet (by decide))
  rw [Sx.may_no N4] at M4
  have hst : Sx.stm L σ = Sx.named L 0 σ := by
    unfold Sx.stm
    simp only []
    rw [if_neg (by rw [N0]; exact Bool.false_ne_true), if_neg (by rw [N1]; exact Bool.false_ne_true), if_neg (by rw [N2]; exact Bool.false_ne_true), if_neg (by rw [N3]; exact Bool.false_ne_true), if_neg (by rw [N4]; exact Bool.false_ne_true)]
  rw [Sx.St_eq hL.ends hat he, hst]
  have CX := Lib.hid (named_fn b L hL σ)
  have hF1 := tokF1
  clear h0 hP hL hB hB' hat he hst hno N0 N1 N2 N3 N4
  go_enter Tryz.func183, Tryz.ntmps183
  go_wp2_with (first
    | (first | (refine wpl_alloc HS.out _ rfl stZ ?_; intro b1 w1 HS1; clear HS) | (refine wpl_alloc HS2.out _ rfl stZ ?_; intro b3 w3 HS3; clear HS2))
    | (go_at_call 61; refine (HS1.out.call1 C1.out).mono ?_; rintro e w2 ⟨J, ⟨rfl, rfl⟩, hs⟩; simp only [List.cons_append, List.nil_append] at hs; have HS2 := Lib.hid hs; clear hs; clear HS1)
    | (go_at_call 121; first | (refine (HS3.out.call1 M0.out).mono ?_; rintro e w4 ⟨J, ⟨rfl, rfl⟩, hs⟩; simp only [List.cons_append, List.nil_append] at hs; have HS4 := Lib.hid hs; clear hs HS3) | (refine (HS4.out.call1 M1.out).mono ?_; rintro e w5 ⟨J, ⟨rfl, rfl⟩, hs⟩; simp only [List.cons_append, List.nil_append] at hs; have HS5 := Lib.hid hs; clear hs HS4) | (refine (HS5.out.call1 M2.out).mono ?_; rintro e w6 ⟨J, ⟨rfl, rfl⟩, hs⟩; simp only [List.cons_append, List.nil_append] at hs; have HS6 := Lib.hid hs; clear hs HS5) | (refine (HS6.out.call1 M3.out).mono ?_; rintro e w7 ⟨J, ⟨rfl, rfl⟩, hs⟩; simp only [List.cons_append, List.nil_append] at hs; have HS7 := Lib.hid hs; clear hs HS6) | (refine (HS7.out.call1 M4.out).mono ?_; rintro e w8 ⟨J, ⟨rfl, rfl⟩, hs⟩; simp only [List.cons_append, List.nil_append] at hs; have HS8 := Lib.hid hs; clear hs HS7))
    | (go_at_call 217; refine (HS8.out.call1 CX.out).mono ?_; rintro e w20 ⟨J, ⟨k, p, m, nm, te, tl, tb, q1, q2, q3, l1, l2, l3, c1, c2, c3, es, bs, cs, hh, rfl, rfl, hx⟩, hs⟩; simp only [List.cons_append, List.nil_append] at hs; have HX := Lib.hid hx; have HS20 := Lib.hid hs; clear hs hx)
    | (first | (refine wpl_storeS HS20.out 4 rfl rfl stT rfl fitsS ?_; intro w21 hs; have HS21 := Lib.hid (show St _ _ _ (_ :: _ :: _ :: _ :: _ :: _ :: []) from hs.out); clear hs HS20) | (refine wpl_storeS HS22.out 5 rfl rfl stT rfl fitsS ?_; intro w23 hs; have HS23 := Lib.hid (show St _ _ _ (_ :: _ :: _ :: _ :: _ :: _ :: []) from hs.out); clear hs HS22))
    | (refine wpl_store HS21.out 4 rfl rfl intO (of_decide_eq_true rfl) rfl ?_; intro w22 hs; have HS22 := Lib.hid (show St _ _ _ (_ :: _ :: _ :: _ :: _ :: _ :: []) from hs.out); clear hs HS21)
    | (refine wpl_loadS HS22.out 4 rfl rfl stT rfl ?_))
  refine bp_cell HS23.out 5 stT rfl rfl rfl rfl rfl ⟨_, ⟨k, (Sx.tk L σ).pos, m, nm, te, tl, tb, _, _, _, _, _, _, _, _, _, es, bs, cs, hh, rfl, rfl, fun h => ?_⟩, St.sel HS23.out [0, 0, 0, 0] rfl⟩
  exact (congrArg (Sx.S.at' (Sx.tk L σ).pos) (HX.out h)).trans (Sx.S.at_mk _ _ _ _ _ _ _ _ _ _)
theorem stmt_fn (b : Nat) (L : List Lx.Tok) (hL : Sx.Ok L) (σ : Sx.R) (he : σ.err = 0) (hB : ∀ τ, Sx.M L τ + 16 ≤ Sx.M L σ → CB b L τ) : CS b L σ := by
  by_cases h1 : Sx.sees L Sx.wLet σ = true
  · exact stmt_let b L hL σ he hB h1
  by_cases h2 : Sx.sees L Sx.wVar σ = true
  · exact stmt_var b L hL σ he hB h2
  by_cases h3 : Sx.sees L Sx.wIf σ = true
  · exact stmt_if b L hL σ he hB h3
  by_cases h4 : Sx.sees L Sx.wFor σ = true
  · exact stmt_for b L hL σ he hB h4
  by_cases h5 : Sx.sees L Sx.wRet σ = true
  · exact stmt_return b L hL σ he hB h5
  refine stmt_named b L hL σ he hB ?_
  intro s hs
  simp only [List.mem_cons, List.not_mem_nil, or_false] at hs
  rcases hs with rfl | rfl | rfl | rfl | rfl
  · simpa using h1
  · simpa using h2
  · simpa using h3
  · simpa using h4
  · simpa using h5
end Go.Proofs.YtjfdcnggnldgdaaGreatDoor
end
