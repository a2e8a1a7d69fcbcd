/-
The document's reader: a function with parameters (with a result).
The document's reader: a function with parameters (without a result).
The document's Parse: what it makes of any text.
-/
import Derived.Test.YtjfdcnggnldgdaaGreatDoorP24a
import Derived.Test.YtjfdcnggnldgdaaGreatDoorP41a
import Derived.BigQuiet
import Derived.Test.YtjfdcnggnldgdaaGreatDoorP38a
import Derived.Test.YtjfdcnggnldgdaaGreatDoorP39a
section
namespace Go.Proofs.YtjfdcnggnldgdaaGreatDoor
open Go.ChangeShapes Go.WideShapes Go.ChangeAt Go.RowKit
set_option linter.unusedVariables false
set_option linter.unusedSimpArgs false

set_option maxHeartbeats 8000000 in
set_option maxRecDepth 100000 in
theorem rfunction_some_has (b : Nat) (L : List Lx.Tok) (hL : Sx.Ok L) (σ : Sx.R) (h1 : Sx.sees L [41] (Sx.eat L [40] (Sx.some L 1 (Sx.eat L Sx.wFn σ)).2) = false) (h2 : Sx.sees L [58] (Sx.eat L [41] (Sx.plist L (Sx.eat L [40] (Sx.some L 1 (Sx.eat L Sx.wFn σ)).2)).2) = true) : Fn 34 #[.pointer (some ⟨b, 0, none⟩)] [rr b L σ] (rFNP b L (Sx.function L σ)) := by
  intro w P hP h0
  have HS := Lib.hid (St.start hP h0)
  have hat := HS.out.rat
  have C1 := Lib.hid (reat_fn b L hL σ Sx.wFn (by decide))
  have C2 := Lib.hid (rsome_fn b L hL (Sx.eat L Sx.wFn σ) 1 (by decide))
  have hin : (Sx.eat L [40] (Sx.some L 1 (Sx.eat L Sx.wFn σ)).2).at' < L.length := (((Sx.le_eat hL.ends Sx.wFn (by decide) σ).trans (Sx.le_some hL.ends 1 (by decide) _)).trans (Sx.le_eat hL.ends [40] (by decide) _)).2.2.1 hat
  unfold Sx.function
  simp only []
  generalize Sx.some L 1 (Sx.eat L Sx.wFn σ) = sm at C2 h1 h2 hin ⊢
  obtain ⟨t, τ⟩ := sm
  simp only [] at C2 h1 h2 hin ⊢
  have C3 := Lib.hid (reat_fn b L hL τ [40] (by decide))
  have C4 := Lib.hid (rsees_fn b L (Sx.eat L [40] τ) [41])
  rw [h1] at C4
  have CX := Lib.hid (rparam_fn b L hL (Sx.eat L [40] τ))
  have hpl : Sx.plist L (Sx.eat L [40] τ) = ((Sx.param L (Sx.eat L [40] τ)).1 :: (Sx.Ps L (Sx.param L (Sx.eat L [40] τ)).2).1, (Sx.Ps L (Sx.param L (Sx.eat L [40] τ)).2).2) := by
    unfold Sx.plist; rw [if_neg (by rw [h1]; decide)]; rfl
  rw [hpl] at h2 ⊢
  simp only [] at h2 ⊢
  have hpat := fun h => Sx.param_at hL.ends hin (L := L) h
  clear hpl h1 hin
  generalize Sx.param L (Sx.eat L [40] τ) = y0 at CX h2 hpat ⊢
  have C5 := Lib.hid (reat_fn b L hL (Sx.Ps L y0.2).2 [41] (by decide))
  have C6 := Lib.hid (rmay_fn b L hL (Sx.eat L [41] (Sx.Ps L y0.2).2) [58] (by decide))
  rw [Sx.may_is h2] at C6 ⊢
  have C7 := Lib.hid (rlabel_fn b L hL { (Sx.eat L [41] (Sx.Ps L y0.2).2) with at' := (Sx.eat L [41] (Sx.Ps L y0.2).2).at' + 1 })
  have C8 := Lib.hid (rkind_fn b L hL (Sx.label L { (Sx.eat L [41] (Sx.Ps L y0.2).2) with at' := (Sx.eat L [41] (Sx.Ps L y0.2).2).at' + 1 }).2 true (Sx.label L { (Sx.eat L [41] (Sx.Ps L y0.2).2) with at' := (Sx.eat L [41] (Sx.Ps L y0.2).2).at' + 1 }).1)
  have hres : Sx.res L (true, { (Sx.eat L [41] (Sx.Ps L y0.2).2) with at' := (Sx.eat L [41] (Sx.Ps L y0.2).2).at' + 1 }) = (Sx.type L true (Sx.label L { (Sx.eat L [41] (Sx.Ps L y0.2).2) with at' := (Sx.eat L [41] (Sx.Ps L y0.2).2).at' + 1 }).1 (Sx.label L { (Sx.eat L [41] (Sx.Ps L y0.2).2) with at' := (Sx.eat L [41] (Sx.Ps L y0.2).2).at' + 1 }).2) := rfl
  rw [hres]
  simp only [Sx.Bl_def]
  have CB := Lib.hid (rblock_any b L hL (Sx.type L true (Sx.label L { (Sx.eat L [41] (Sx.Ps L y0.2).2) with at' := (Sx.eat L [41] (Sx.Ps L y0.2).2).at' + 1 }).1 (Sx.label L { (Sx.eat L [41] (Sx.Ps L y0.2).2) with at' := (Sx.eat L [41] (Sx.Ps L y0.2).2).at' + 1 }).2).2)
  have HOK := Lib.hid (fun h => Sx.Le.ok (Sx.le_Bl hL.ends (Sx.type L true (Sx.label L { (Sx.eat L [41] (Sx.Ps L y0.2).2) with at' := (Sx.eat L [41] (Sx.Ps L y0.2).2).at' + 1 }).1 (Sx.label L { (Sx.eat L [41] (Sx.Ps L y0.2).2) with at' := (Sx.eat L [41] (Sx.Ps L y0.2).2).at' + 1 }).2).2) h)
  clear hres
  have hz0 : ([] : List Sx.Pa).length < nMax := by unfold nMax; decide
  have HPA := Lib.hid (show y0.2.err = 0 → 1 ≤ y0.2.at' from fun h => by have := hpat h; omega)
  have HL := Lib.hid hL
  clear h0 hP hL hat h2 hpat
  go_enter Tryz.func34, Tryz.ntmps34
  go_wp2_with (first
    | (refine wpl_alloc HS.out _ rfl fnZ ?_; intro b_r w1 HS1; clear HS)
    | (refine wpl_alloc HS1.out _ rfl fnZ ?_; intro b_s w2 HS2; clear HS1)
    | (go_at_call 65; refine (HS2.out.call1 C1.out).mono ?_; rintro e w3 ⟨J, ⟨rfl, rfl⟩, hs⟩; simp only [List.cons_append, List.nil_append] at hs; have HS3 := Lib.hid hs; clear hs HS2)
    | (go_at_call 66; refine (HS3.out.call1 C2.out).mono ?_; rintro e w4 ⟨J, ⟨rfl, rfl⟩, hs⟩; simp only [List.cons_append, List.nil_append] at hs; have HS4 := Lib.hid hs; clear hs HS3)
    | (refine wpl_alloc HS4.out _ rfl tokZ ?_; intro b_n w5 HS5; clear HS4)
    | (refine wpl_storeS HS5.out 1 rfl rfl tokT rfl (fitsT _ _ _ _) ?_; intro w6 hs; have HS6 := Lib.hid (show St _ _ _ (_ :: _ :: _ :: _ :: []) from hs.out); clear hs HS5)
    | (refine wpl_load HS6.out 1 rfl rfl intO rfl ?_)
    | (refine wpl_store HS6.out 2 rfl rfl intO (of_decide_eq_true rfl) rfl ?_; intro w7 hs; have HS7 := Lib.hid (show St _ _ _ (_ :: _ :: _ :: _ :: []) from hs.out); clear hs HS6)
    | (refine wpl_load HS7.out 1 rfl rfl strO rfl ?_)
    | (refine wpl_store HS7.out 2 rfl rfl strO (of_decide_eq_true rfl) rfl ?_; intro w8 hs; have HS8 := Lib.hid (show St _ _ _ (_ :: _ :: _ :: _ :: []) from hs.out); clear hs HS7)
    | (go_at_call 65; refine (HS8.out.call1 C3.out).mono ?_; rintro e w9 ⟨J, ⟨rfl, rfl⟩, hs⟩; simp only [List.cons_append, List.nil_append] at hs; have HS9 := Lib.hid hs; clear hs HS8)
    | (go_at_call 67; refine (HS9.out.call1 C4.out).mono ?_; rintro e w10 ⟨J, ⟨rfl, rfl⟩, hs⟩; simp only [List.cons_append, List.nil_append] at hs; have HS10 := Lib.hid hs; clear hs HS9; have HS11 := Lib.hid (HS10.out.to fun P h => h.under fun P h => psI_nil h); clear HS10))
  refine wp_region_heldL (S := fun w' => w'.cell? ⟨b_s, 2, none⟩ = some (.slice none 0 0)) 7 (by kernel_rfl) (HS11.out.drew.cell 3 rfl 2) (fun hHeld => ?_)
  refine tkL 0 ?_
  refine tkL 1 ?_
  refine tkL 2 ?_
  refine wpAnyL_one (i := 3) (by kernel_rfl) rfl (fun K hK => ?_)
  go_simp
  (go_at_call 68; refine (HS11.out.drew.call1 CX.out).mono ?_; rintro e w12 ⟨J, ⟨rfl, rfl⟩, hs⟩; simp only [List.cons_append, List.nil_append] at hs; have HS12 := Lib.hid hs; clear hs HS11)
  refine hK.out _ _ (HS12.out.cell 3 rfl 2) (fun hHeld => ?_)
  clear hK K
  (try simp only [Act.put, List.setIfInBounds_toArray, List.set_cons_zero, List.set_cons_succ, List.getElem_toArray, List.getElem_cons_succ, List.getElem_cons_zero])
  refine wpAnyL_one (i := 4) (by kernel_rfl) rfl (fun K hK => ?_)
  (refine wp_slice HS12.out rfl Tryz.underlying45 (paB _ _ _ _ _ _) ?_; intro b_a w13 hs; have HS13 := Lib.hid (show St _ _ _ (_ :: _ :: _ :: _ :: _ :: _ :: []) from hs.out); clear hs HS12)
  refine hK.out _ _ (HS13.out.cell 4 rfl 2) (fun hHeld => ?_)
  clear hK K
  (try simp only [Act.put, List.setIfInBounds_toArray, List.set_cons_zero, List.set_cons_succ, List.getElem_toArray, List.getElem_cons_succ, List.getElem_cons_zero])
  refine wpAnyL_one (i := 5) (by kernel_rfl) rfl (fun K hK => ?_)
  (refine wp_appP HS13.out 0 rfl rfl Tryz.underlying45 hz0 ?_; intro q_a c_a w14 hs; have HS14 := Lib.hid (show St _ _ _ (_ :: _ :: _ :: _ :: _ :: []) from hs.out); clear hs HS13)
  refine hK.out _ _ (HS14.out.cell 3 rfl 2) (fun hHeld => ?_)
  clear hK K
  (try simp only [Act.put, List.setIfInBounds_toArray, List.set_cons_zero, List.set_cons_succ, List.getElem_toArray, List.getElem_cons_succ, List.getElem_cons_zero])
  refine tkL 6 ?_
  refine wpAnyL_last (by kernel_rfl) rfl (by kernel_rfl) (fun K hK => ?_)
  (refine wp_store1 HS14.out 3 rfl rfl paramsO (of_decide_eq_true rfl) rfl ?_; intro w15 hs; have HS15 := Lib.hid (show St _ _ _ (_ :: _ :: _ :: _ :: _ :: []) from hs.out); clear hs HS14)
  refine hK.out _ _ ?_
  clear hK K
  have HI := Lib.hid (show St P w w15 [rr b L y0.2, psI (.slice q_a 1 c_a) [y0.1], .row b_s 50 (fnA t.pos t.text (.slice q_a 1 c_a) false 0 0 0 (.slice none 0 0)), .row b_r 50 (fnA 0 [] (.slice none 0 0) false 0 0 0 (.slice none 0 0))] from HS15.out.sel [0, 0, 1, 1] rfl)
  obtain ⟨N, hN⟩ : ∃ N : Nat, N = 65538 := ⟨_, rfl⟩
  have HNN := Lib.hid hN
  clear hN HS15 CX
  (try simp only [Act.put, List.setIfInBounds_toArray, List.set_cons_zero, List.set_cons_succ, List.getElem_toArray, List.getElem_cons_succ, List.getElem_cons_zero])
  go_wp2_with (first | fail)
  go_loopw [] (fun wr => ∃ (k : Nat) (q : Option Addr) (c : Nat) (ps : List Sx.Pa) (ρ : Sx.R), k ≤ N ∧ Hid (ps.length = k ∧ St P w wr [rr b L ρ, psI (.slice q k c) ps, .row b_s 50 (fnA t.pos t.text (.slice q k c) false 0 0 0 (.slice none 0 0)), .row b_r 50 (fnA 0 [] (.slice none 0 0) false 0 0 0 (.slice none 0 0))] ∧ (ρ.err = 0 → k ≤ ρ.at') ∧ (Sx.Ps L y0.2).2 = (Sx.Ps L ρ).2 ∧ y0.1 :: (Sx.Ps L y0.2).1 = ps ++ (Sx.Ps L ρ).1)) (fun wr => N + 1 - pLen b_s wr)
  case atStart =>
    refine ⟨1, q_a, c_a, [y0.1], y0.2, by have := HNN.out; omega, Lib.hid ⟨rfl, HI.out, HPA.out, rfl, rfl⟩⟩
  case round =>
    obtain ⟨k, q, c, ps, ρ, hk, HK⟩ := hrel
    have HST := Lib.hid HK.out.2.1
    have hat := HST.out.rat
    have C17 := Lib.hid (rmay_fn b L HL.out ρ [44] (by decide))
    by_cases hs : Sx.sees L [44] ρ = true
    · rw [Sx.may_is hs] at C17
      obtain ⟨he, htx⟩ := Sx.sees_text hs
      have hPs := Sx.Ps_go HL.out.ends hat hs
      rw [Sx.eat_is hs] at hPs
      have hin := (Sx.le_next HL.out.ends he (Sx.text_kind (by rw [htx]; decide))).2.2.1 hat
      have CY := Lib.hid (rparam_fn b L HL.out { ρ with at' := ρ.at' + 1 })
      have hkn : k < 65538 := by
        have h1 := HK.out.2.2.1 he
        have h2 := HL.out.len
        omega
      have hlen := HK.out.1
      have hnm : ps.length < nMax := by rw [hlen]; unfold nMax; omega
      have hXat : (Sx.param L { ρ with at' := ρ.at' + 1 }).2.err = 0 → k + 1 ≤ (Sx.param L { ρ with at' := ρ.at' + 1 }).2.at' := fun h => by
        have h1 := Sx.param_at HL.out.ends hin h
        have h3 : ρ.at' + 1 + 1 ≤ (Sx.param L { ρ with at' := ρ.at' + 1 }).2.at' := h1
        have h2 := HK.out.2.2.1 he
        omega
      have HQ := Lib.hid (And.intro hPs (And.intro hXat (And.intro hkn (And.intro hlen HK.out.2.2.2))))
      have HMS := Lib.hid (HST.out.pLen 2 rfl rfl)
      clear hs he htx hPs hin hkn hlen hXat hat hk HK HI
      go_wp2_with (first
        | (go_at_call 69; refine (HST.out.call1 C17.out).mono ?_; rintro e w70 ⟨J, ⟨rfl, rfl⟩, hs⟩; simp only [List.cons_append, List.nil_append] at hs; have HS70 := Lib.hid (show St _ _ _ [_, psI (.slice q k c) ps, _, _] from hs); clear hs))
      refine wp_region_heldL (S := fun w' => w'.cell? ⟨b_s, 2, none⟩ = some (.slice q k c)) 7 (by kernel_rfl) (HS70.out.drew.cell 2 rfl 2) (fun hHeld => ?_)
      refine tkL 0 ?_
      refine tkL 1 ?_
      refine tkL 2 ?_
      refine wpAnyL_one (i := 3) (by kernel_rfl) rfl (fun K hK => ?_)
      go_simp
      (go_at_call 68; refine (HS70.out.drew.call1 CY.out).mono ?_; rintro e w71 ⟨J, ⟨rfl, rfl⟩, hs⟩; simp only [List.cons_append, List.nil_append] at hs; have HS71 := Lib.hid hs; clear hs HS70)
      refine hK.out _ _ (HS71.out.cell 2 rfl 2) (fun hHeld => ?_)
      clear hK K
      (try simp only [Act.put, List.setIfInBounds_toArray, List.set_cons_zero, List.set_cons_succ, List.getElem_toArray, List.getElem_cons_succ, List.getElem_cons_zero])
      refine wpAnyL_one (i := 4) (by kernel_rfl) rfl (fun K hK => ?_)
      (refine wp_slice HS71.out rfl Tryz.underlying45 (paB _ _ _ _ _ _) ?_; intro b_b w72 hs; have HS72 := Lib.hid (show St _ _ _ (_ :: _ :: _ :: _ :: _ :: []) from hs.out); clear hs HS71)
      refine hK.out _ _ (HS72.out.cell 3 rfl 2) (fun hHeld => ?_)
      clear hK K
      (try simp only [Act.put, List.setIfInBounds_toArray, List.set_cons_zero, List.set_cons_succ, List.getElem_toArray, List.getElem_cons_succ, List.getElem_cons_zero])
      refine wpAnyL_one (i := 5) (by kernel_rfl) rfl (fun K hK => ?_)
      (refine wp_appP HS72.out 0 rfl rfl Tryz.underlying45 hnm ?_; intro q_b c_b w73 hs; have HS73 := Lib.hid (show St _ _ _ (_ :: _ :: _ :: _ :: []) from hs.out); clear hs HS72)
      refine hK.out _ _ (HS73.out.cell 2 rfl 2) (fun hHeld => ?_)
      clear hK K
      (try simp only [Act.put, List.setIfInBounds_toArray, List.set_cons_zero, List.set_cons_succ, List.getElem_toArray, List.getElem_cons_succ, List.getElem_cons_zero])
      refine tkL 6 ?_
      refine wpAnyL_last (by kernel_rfl) rfl (by kernel_rfl) (fun K hK => ?_)
      (refine wp_store1 HS73.out 2 rfl rfl paramsO (of_decide_eq_true rfl) rfl ?_; intro w74 hs; have HS74 := Lib.hid (show St _ _ _ (_ :: _ :: _ :: _ :: []) from hs.out); clear hs HS73)
      refine hK.out _ _ ?_
      clear hK K
      (try simp only [Act.put, List.setIfInBounds_toArray, List.set_cons_zero, List.set_cons_succ, List.getElem_toArray, List.getElem_cons_succ, List.getElem_cons_zero])
      refine ⟨⟨_, _, _, _, _, _, _, _, _, ?rel, rfl⟩, ?measure⟩
      case rel =>
        refine ⟨k + 1, q_b, c_b, ps ++ [(Sx.param L { ρ with at' := ρ.at' + 1 }).1], (Sx.param L { ρ with at' := ρ.at' + 1 }).2, ?_, Lib.hid ⟨?_, ?_, HQ.out.2.1, ?_, ?_⟩⟩
        · have := HQ.out.2.2.1; have := HNN.out; omega
        · rw [List.length_append, HQ.out.2.2.2.1]; rfl
        · have h9 := HS74.out
          rw [HQ.out.2.2.2.1] at h9
          exact h9
        · rw [HQ.out.2.2.2.2.1, HQ.out.1]
        · rw [HQ.out.2.2.2.2.2, HQ.out.1, List.append_assoc]
          rfl
      case measure =>
        show N + 1 - pLen b_s w74 < N + 1 - pLen b_s wr
        rw [HS74.out.pLen 2 rfl rfl, HMS.out, HQ.out.2.2.2.1]
        have := HQ.out.2.2.1
        have := HNN.out
        omega
    · have hs' : Sx.sees L [44] ρ = false := by simpa using hs
      rw [Sx.may_no hs'] at C17
      have hPs := Sx.Ps_stop HL.out.ends hat hs'
      have hEq : (Sx.Ps L y0.2).2 = ρ := by rw [HK.out.2.2.2.1, hPs]
      have hval : y0.1 :: (Sx.Ps L y0.2).1 = ps := by rw [HK.out.2.2.2.2, hPs, List.append_nil]
      have HV := Lib.hid hval
      clear hs hs' hPs hval hat hk HK HI
      subst hEq
      go_wp2_with (first
        | (go_at_call 69; refine (HST.out.call1 C17.out).mono ?_; rintro e w40 ⟨J, ⟨rfl, rfl⟩, hs⟩; simp only [List.cons_append, List.nil_append] at hs; have HS40 := Lib.hid hs; clear hs HST C17)
        | (go_at_call 65; refine (HS40.out.call1 C5.out).mono ?_; rintro e w41 ⟨J, ⟨rfl, rfl⟩, hs⟩; simp only [List.cons_append, List.nil_append] at hs; have HS41 := Lib.hid hs; clear hs HS40)
        | (go_at_call 69; refine (HS41.out.call1 C6.out).mono ?_; rintro e w42 ⟨J, ⟨rfl, rfl⟩, hs⟩; simp only [List.cons_append, List.nil_append] at hs; have HS42 := Lib.hid hs; clear hs HS41)
        | (refine wpl_store HS42.out 2 rfl rfl boolO (of_decide_eq_true rfl) rfl ?_; intro w43 hs; have HS43 := Lib.hid (show St _ _ _ (_ :: _ :: _ :: _ :: []) from hs.out); clear hs HS42)
        | (go_at_call 70; refine (HS43.out.call1 C7.out).mono ?_; rintro e w44 ⟨J, ⟨rfl, rfl⟩, hs⟩; simp only [List.cons_append, List.nil_append] at hs; have HS44 := Lib.hid hs; clear hs HS43)
        | (go_at_call 71; refine (HS44.out.call1 C8.out).mono ?_; rintro e w45 ⟨J, ⟨rfl, rfl⟩, hs⟩; simp only [List.cons_append, List.nil_append] at hs; have HS45 := Lib.hid hs; clear hs HS44)
        | (refine wpl_storeMid HS45.out 2 rfl rfl tyT (fits3i _ _ _) (of_decide_eq_true rfl) ?_; intro w46 hs; have HS46 := Lib.hid (show St _ _ _ (_ :: _ :: _ :: _ :: []) from hs.out); clear hs HS45)
        | (go_at_call 72; refine (HS46.out.call1 CB.out).mono ?_; rintro e w47 ⟨J, ⟨q_B, l_B, c_B, ss_B, rfl, rfl, hx_B⟩, hs⟩; simp only [List.cons_append, List.nil_append] at hs; have HS47 := Lib.hid hs; clear hs HS46; have HX_B := Lib.hid hx_B; clear hx_B)
        | (refine wpl_store HS47.out 3 rfl rfl stmtsO (of_decide_eq_true rfl) rfl ?_; intro w48 hs; have HS48 := Lib.hid (show St _ _ _ (_ :: _ :: _ :: _ :: _ :: []) from hs.out); clear hs HS47)
        | (refine wpl_loadS HS48.out 3 rfl rfl fnT rfl ?_)
        | (refine wpl_storeS HS48.out 4 rfl rfl fnT rfl fitsF ?_; intro w49 hs; have HS49 := Lib.hid (show St _ _ _ (_ :: _ :: _ :: _ :: _ :: []) from hs.out); clear hs HS48))
      refine bp_cell HS49.out 4 fnT rfl rfl rfl rfl rfl ⟨_, ⟨t.pos, t.text, true, _, _, _, _, _, _, _, _, _, ps, ss_B, rfl, rfl, fun h => ?_⟩, HS49.out.sel [0, 1, 0] rfl⟩
      rw [← HX_B.out h, ← HV.out]
end Go.Proofs.YtjfdcnggnldgdaaGreatDoor
end
section
namespace Go.Proofs.YtjfdcnggnldgdaaGreatDoor
open Go.ChangeShapes Go.WideShapes Go.ChangeAt Go.RowKit
set_option linter.unusedVariables false
set_option linter.unusedSimpArgs false

set_option maxHeartbeats 8000000 in
set_option maxRecDepth 100000 in
theorem rfunction_some_no (b : Nat) (L : List Lx.Tok) (hL : Sx.Ok L) (σ : Sx.R) (h1 : Sx.sees L [41] (Sx.eat L [40] (Sx.some L 1 (Sx.eat L Sx.wFn σ)).2) = false) (h2 : Sx.sees L [58] (Sx.eat L [41] (Sx.plist L (Sx.eat L [40] (Sx.some L 1 (Sx.eat L Sx.wFn σ)).2)).2) = false) : Fn 34 #[.pointer (some ⟨b, 0, none⟩)] [rr b L σ] (rFNP b L (Sx.function L σ)) := by
  intro w P hP h0
  have HS := Lib.hid (St.start hP h0)
  have hat := HS.out.rat
  have C1 := Lib.hid (reat_fn b L hL σ Sx.wFn (by decide))
  have C2 := Lib.hid (rsome_fn b L hL (Sx.eat L Sx.wFn σ) 1 (by decide))
  have hin : (Sx.eat L [40] (Sx.some L 1 (Sx.eat L Sx.wFn σ)).2).at' < L.length := (((Sx.le_eat hL.ends Sx.wFn (by decide) σ).trans (Sx.le_some hL.ends 1 (by decide) _)).trans (Sx.le_eat hL.ends [40] (by decide) _)).2.2.1 hat
  unfold Sx.function
  simp only []
  generalize Sx.some L 1 (Sx.eat L Sx.wFn σ) = sm at C2 h1 h2 hin ⊢
  obtain ⟨t, τ⟩ := sm
  simp only [] at C2 h1 h2 hin ⊢
  have C3 := Lib.hid (reat_fn b L hL τ [40] (by decide))
  have C4 := Lib.hid (rsees_fn b L (Sx.eat L [40] τ) [41])
  rw [h1] at C4
  have CX := Lib.hid (rparam_fn b L hL (Sx.eat L [40] τ))
  have hpl : Sx.plist L (Sx.eat L [40] τ) = ((Sx.param L (Sx.eat L [40] τ)).1 :: (Sx.Ps L (Sx.param L (Sx.eat L [40] τ)).2).1, (Sx.Ps L (Sx.param L (Sx.eat L [40] τ)).2).2) := by
    unfold Sx.plist; rw [if_neg (by rw [h1]; decide)]; rfl
  rw [hpl] at h2 ⊢
  simp only [] at h2 ⊢
  have hpat := fun h => Sx.param_at hL.ends hin (L := L) h
  clear hpl h1 hin
  generalize Sx.param L (Sx.eat L [40] τ) = y0 at CX h2 hpat ⊢
  have C5 := Lib.hid (reat_fn b L hL (Sx.Ps L y0.2).2 [41] (by decide))
  have C6 := Lib.hid (rmay_fn b L hL (Sx.eat L [41] (Sx.Ps L y0.2).2) [58] (by decide))
  rw [Sx.may_no h2] at C6 ⊢
  have hres : Sx.res L (false, (Sx.eat L [41] (Sx.Ps L y0.2).2)) = (Sx.noTy, (Sx.eat L [41] (Sx.Ps L y0.2).2)) := rfl
  rw [hres]
  simp only [Sx.Bl_def]
  have CB := Lib.hid (rblock_any b L hL (Sx.eat L [41] (Sx.Ps L y0.2).2))
  have HOK := Lib.hid (fun h => Sx.Le.ok (Sx.le_Bl hL.ends (Sx.eat L [41] (Sx.Ps L y0.2).2)) h)
  clear hres
  have hz0 : ([] : List Sx.Pa).length < nMax := by unfold nMax; decide
  have HPA := Lib.hid (show y0.2.err = 0 → 1 ≤ y0.2.at' from fun h => by have := hpat h; omega)
  have HL := Lib.hid hL
  clear h0 hP hL hat h2 hpat
  go_enter Tryz.func34, Tryz.ntmps34
  go_wp2_with (first
    | (refine wpl_alloc HS.out _ rfl fnZ ?_; intro b_r w1 HS1; clear HS)
    | (refine wpl_alloc HS1.out _ rfl fnZ ?_; intro b_s w2 HS2; clear HS1)
    | (go_at_call 65; refine (HS2.out.call1 C1.out).mono ?_; rintro e w3 ⟨J, ⟨rfl, rfl⟩, hs⟩; simp only [List.cons_append, List.nil_append] at hs; have HS3 := Lib.hid hs; clear hs HS2)
    | (go_at_call 66; refine (HS3.out.call1 C2.out).mono ?_; rintro e w4 ⟨J, ⟨rfl, rfl⟩, hs⟩; simp only [List.cons_append, List.nil_append] at hs; have HS4 := Lib.hid hs; clear hs HS3)
    | (refine wpl_alloc HS4.out _ rfl tokZ ?_; intro b_n w5 HS5; clear HS4)
    | (refine wpl_storeS HS5.out 1 rfl rfl tokT rfl (fitsT _ _ _ _) ?_; intro w6 hs; have HS6 := Lib.hid (show St _ _ _ (_ :: _ :: _ :: _ :: []) from hs.out); clear hs HS5)
    | (refine wpl_load HS6.out 1 rfl rfl intO rfl ?_)
    | (refine wpl_store HS6.out 2 rfl rfl intO (of_decide_eq_true rfl) rfl ?_; intro w7 hs; have HS7 := Lib.hid (show St _ _ _ (_ :: _ :: _ :: _ :: []) from hs.out); clear hs HS6)
    | (refine wpl_load HS7.out 1 rfl rfl strO rfl ?_)
    | (refine wpl_store HS7.out 2 rfl rfl strO (of_decide_eq_true rfl) rfl ?_; intro w8 hs; have HS8 := Lib.hid (show St _ _ _ (_ :: _ :: _ :: _ :: []) from hs.out); clear hs HS7)
    | (go_at_call 65; refine (HS8.out.call1 C3.out).mono ?_; rintro e w9 ⟨J, ⟨rfl, rfl⟩, hs⟩; simp only [List.cons_append, List.nil_append] at hs; have HS9 := Lib.hid hs; clear hs HS8)
    | (go_at_call 67; refine (HS9.out.call1 C4.out).mono ?_; rintro e w10 ⟨J, ⟨rfl, rfl⟩, hs⟩; simp only [List.cons_append, List.nil_append] at hs; have HS10 := Lib.hid hs; clear hs HS9; have HS11 := Lib.hid (HS10.out.to fun P h => h.under fun P h => psI_nil h); clear HS10))
  refine wp_region_heldL (S := fun w' => w'.cell? ⟨b_s, 2, none⟩ = some (.slice none 0 0)) 7 (by kernel_rfl) (HS11.out.drew.cell 3 rfl 2) (fun hHeld => ?_)
  refine tkL 0 ?_
  refine tkL 1 ?_
  refine tkL 2 ?_
  refine wpAnyL_one (i := 3) (by kernel_rfl) rfl (fun K hK => ?_)
  go_simp
  (go_at_call 68; refine (HS11.out.drew.call1 CX.out).mono ?_; rintro e w12 ⟨J, ⟨rfl, rfl⟩, hs⟩; simp only [List.cons_append, List.nil_append] at hs; have HS12 := Lib.hid hs; clear hs HS11)
  refine hK.out _ _ (HS12.out.cell 3 rfl 2) (fun hHeld => ?_)
  clear hK K
  (try simp only [Act.put, List.setIfInBounds_toArray, List.set_cons_zero, List.set_cons_succ, List.getElem_toArray, List.getElem_cons_succ, List.getElem_cons_zero])
  refine wpAnyL_one (i := 4) (by kernel_rfl) rfl (fun K hK => ?_)
  (refine wp_slice HS12.out rfl Tryz.underlying45 (paB _ _ _ _ _ _) ?_; intro b_a w13 hs; have HS13 := Lib.hid (show St _ _ _ (_ :: _ :: _ :: _ :: _ :: _ :: []) from hs.out); clear hs HS12)
  refine hK.out _ _ (HS13.out.cell 4 rfl 2) (fun hHeld => ?_)
  clear hK K
  (try simp only [Act.put, List.setIfInBounds_toArray, List.set_cons_zero, List.set_cons_succ, List.getElem_toArray, List.getElem_cons_succ, List.getElem_cons_zero])
  refine wpAnyL_one (i := 5) (by kernel_rfl) rfl (fun K hK => ?_)
  (refine wp_appP HS13.out 0 rfl rfl Tryz.underlying45 hz0 ?_; intro q_a c_a w14 hs; have HS14 := Lib.hid (show St _ _ _ (_ :: _ :: _ :: _ :: _ :: []) from hs.out); clear hs HS13)
  refine hK.out _ _ (HS14.out.cell 3 rfl 2) (fun hHeld => ?_)
  clear hK K
  (try simp only [Act.put, List.setIfInBounds_toArray, List.set_cons_zero, List.set_cons_succ, List.getElem_toArray, List.getElem_cons_succ, List.getElem_cons_zero])
  refine tkL 6 ?_
  refine wpAnyL_last (by kernel_rfl) rfl (by kernel_rfl) (fun K hK => ?_)
  (refine wp_store1 HS14.out 3 rfl rfl paramsO (of_decide_eq_true rfl) rfl ?_; intro w15 hs; have HS15 := Lib.hid (show St _ _ _ (_ :: _ :: _ :: _ :: _ :: []) from hs.out); clear hs HS14)
  refine hK.out _ _ ?_
  clear hK K
  have HI := Lib.hid (show St P w w15 [rr b L y0.2, psI (.slice q_a 1 c_a) [y0.1], .row b_s 50 (fnA t.pos t.text (.slice q_a 1 c_a) false 0 0 0 (.slice none 0 0)), .row b_r 50 (fnA 0 [] (.slice none 0 0) false 0 0 0 (.slice none 0 0))] from HS15.out.sel [0, 0, 1, 1] rfl)
  obtain ⟨N, hN⟩ : ∃ N : Nat, N = 65538 := ⟨_, rfl⟩
  have HNN := Lib.hid hN
  clear hN HS15 CX
  (try simp only [Act.put, List.setIfInBounds_toArray, List.set_cons_zero, List.set_cons_succ, List.getElem_toArray, List.getElem_cons_succ, List.getElem_cons_zero])
  go_wp2_with (first | fail)
  go_loopw [] (fun wr => ∃ (k : Nat) (q : Option Addr) (c : Nat) (ps : List Sx.Pa) (ρ : Sx.R), k ≤ N ∧ Hid (ps.length = k ∧ St P w wr [rr b L ρ, psI (.slice q k c) ps, .row b_s 50 (fnA t.pos t.text (.slice q k c) false 0 0 0 (.slice none 0 0)), .row b_r 50 (fnA 0 [] (.slice none 0 0) false 0 0 0 (.slice none 0 0))] ∧ (ρ.err = 0 → k ≤ ρ.at') ∧ (Sx.Ps L y0.2).2 = (Sx.Ps L ρ).2 ∧ y0.1 :: (Sx.Ps L y0.2).1 = ps ++ (Sx.Ps L ρ).1)) (fun wr => N + 1 - pLen b_s wr)
  case atStart =>
    refine ⟨1, q_a, c_a, [y0.1], y0.2, by have := HNN.out; omega, Lib.hid ⟨rfl, HI.out, HPA.out, rfl, rfl⟩⟩
  case round =>
    obtain ⟨k, q, c, ps, ρ, hk, HK⟩ := hrel
    have HST := Lib.hid HK.out.2.1
    have hat := HST.out.rat
    have C17 := Lib.hid (rmay_fn b L HL.out ρ [44] (by decide))
    by_cases hs : Sx.sees L [44] ρ = true
    · rw [Sx.may_is hs] at C17
      obtain ⟨he, htx⟩ := Sx.sees_text hs
      have hPs := Sx.Ps_go HL.out.ends hat hs
      rw [Sx.eat_is hs] at hPs
      have hin := (Sx.le_next HL.out.ends he (Sx.text_kind (by rw [htx]; decide))).2.2.1 hat
      have CY := Lib.hid (rparam_fn b L HL.out { ρ with at' := ρ.at' + 1 })
      have hkn : k < 65538 := by
        have h1 := HK.out.2.2.1 he
        have h2 := HL.out.len
        omega
      have hlen := HK.out.1
      have hnm : ps.length < nMax := by rw [hlen]; unfold nMax; omega
      have hXat : (Sx.param L { ρ with at' := ρ.at' + 1 }).2.err = 0 → k + 1 ≤ (Sx.param L { ρ with at' := ρ.at' + 1 }).2.at' := fun h => by
        have h1 := Sx.param_at HL.out.ends hin h
        have h3 : ρ.at' + 1 + 1 ≤ (Sx.param L { ρ with at' := ρ.at' + 1 }).2.at' := h1
        have h2 := HK.out.2.2.1 he
        omega
      have HQ := Lib.hid (And.intro hPs (And.intro hXat (And.intro hkn (And.intro hlen HK.out.2.2.2))))
      have HMS := Lib.hid (HST.out.pLen 2 rfl rfl)
      clear hs he htx hPs hin hkn hlen hXat hat hk HK HI
      go_wp2_with (first
        | (go_at_call 69; refine (HST.out.call1 C17.out).mono ?_; rintro e w70 ⟨J, ⟨rfl, rfl⟩, hs⟩; simp only [List.cons_append, List.nil_append] at hs; have HS70 := Lib.hid (show St _ _ _ [_, psI (.slice q k c) ps, _, _] from hs); clear hs))
      refine wp_region_heldL (S := fun w' => w'.cell? ⟨b_s, 2, none⟩ = some (.slice q k c)) 7 (by kernel_rfl) (HS70.out.drew.cell 2 rfl 2) (fun hHeld => ?_)
      refine tkL 0 ?_
      refine tkL 1 ?_
      refine tkL 2 ?_
      refine wpAnyL_one (i := 3) (by kernel_rfl) rfl (fun K hK => ?_)
      go_simp
      (go_at_call 68; refine (HS70.out.drew.call1 CY.out).mono ?_; rintro e w71 ⟨J, ⟨rfl, rfl⟩, hs⟩; simp only [List.cons_append, List.nil_append] at hs; have HS71 := Lib.hid hs; clear hs HS70)
      refine hK.out _ _ (HS71.out.cell 2 rfl 2) (fun hHeld => ?_)
      clear hK K
      (try simp only [Act.put, List.setIfInBounds_toArray, List.set_cons_zero, List.set_cons_succ, List.getElem_toArray, List.getElem_cons_succ, List.getElem_cons_zero])
      refine wpAnyL_one (i := 4) (by kernel_rfl) rfl (fun K hK => ?_)
      (refine wp_slice HS71.out rfl Tryz.underlying45 (paB _ _ _ _ _ _) ?_; intro b_b w72 hs; have HS72 := Lib.hid (show St _ _ _ (_ :: _ :: _ :: _ :: _ :: []) from hs.out); clear hs HS71)
      refine hK.out _ _ (HS72.out.cell 3 rfl 2) (fun hHeld => ?_)
      clear hK K
      (try simp only [Act.put, List.setIfInBounds_toArray, List.set_cons_zero, List.set_cons_succ, List.getElem_toArray, List.getElem_cons_succ, List.getElem_cons_zero])
      refine wpAnyL_one (i := 5) (by kernel_rfl) rfl (fun K hK => ?_)
      (refine wp_appP HS72.out 0 rfl rfl Tryz.underlying45 hnm ?_; intro q_b c_b w73 hs; have HS73 := Lib.hid (show St _ _ _ (_ :: _ :: _ :: _ :: []) from hs.out); clear hs HS72)
      refine hK.out _ _ (HS73.out.cell 2 rfl 2) (fun hHeld => ?_)
      clear hK K
      (try simp only [Act.put, List.setIfInBounds_toArray, List.set_cons_zero, List.set_cons_succ, List.getElem_toArray, List.getElem_cons_succ, List.getElem_cons_zero])
      refine tkL 6 ?_
      refine wpAnyL_last (by kernel_rfl) rfl (by kernel_rfl) (fun K hK => ?_)
      (refine wp_store1 HS73.out 2 rfl rfl paramsO (of_decide_eq_true rfl) rfl ?_; intro w74 hs; have HS74 := Lib.hid (show St _ _ _ (_ :: _ :: _ :: _ :: []) from hs.out); clear hs HS73)
      refine hK.out _ _ ?_
      clear hK K
      (try simp only [Act.put, List.setIfInBounds_toArray, List.set_cons_zero, List.set_cons_succ, List.getElem_toArray, List.getElem_cons_succ, List.getElem_cons_zero])
      refine ⟨⟨_, _, _, _, _, _, _, _, _, ?rel, rfl⟩, ?measure⟩
      case rel =>
        refine ⟨k + 1, q_b, c_b, ps ++ [(Sx.param L { ρ with at' := ρ.at' + 1 }).1], (Sx.param L { ρ with at' := ρ.at' + 1 }).2, ?_, Lib.hid ⟨?_, ?_, HQ.out.2.1, ?_, ?_⟩⟩
        · have := HQ.out.2.2.1; have := HNN.out; omega
        · rw [List.length_append, HQ.out.2.2.2.1]; rfl
        · have h9 := HS74.out
          rw [HQ.out.2.2.2.1] at h9
          exact h9
        · rw [HQ.out.2.2.2.2.1, HQ.out.1]
        · rw [HQ.out.2.2.2.2.2, HQ.out.1, List.append_assoc]
          rfl
      case measure =>
        show N + 1 - pLen b_s w74 < N + 1 - pLen b_s wr
        rw [HS74.out.pLen 2 rfl rfl, HMS.out, HQ.out.2.2.2.1]
        have := HQ.out.2.2.1
        have := HNN.out
        omega
    · have hs' : Sx.sees L [44] ρ = false := by simpa using hs
      rw [Sx.may_no hs'] at C17
      have hPs := Sx.Ps_stop HL.out.ends hat hs'
      have hEq : (Sx.Ps L y0.2).2 = ρ := by rw [HK.out.2.2.2.1, hPs]
      have hval : y0.1 :: (Sx.Ps L y0.2).1 = ps := by rw [HK.out.2.2.2.2, hPs, List.append_nil]
      have HV := Lib.hid hval
      clear hs hs' hPs hval hat hk HK HI
      subst hEq
      go_wp2_with (first
        | (go_at_call 69; refine (HST.out.call1 C17.out).mono ?_; rintro e w40 ⟨J, ⟨rfl, rfl⟩, hs⟩; simp only [List.cons_append, List.nil_append] at hs; have HS40 := Lib.hid hs; clear hs HST C17)
        | (go_at_call 65; refine (HS40.out.call1 C5.out).mono ?_; rintro e w41 ⟨J, ⟨rfl, rfl⟩, hs⟩; simp only [List.cons_append, List.nil_append] at hs; have HS41 := Lib.hid hs; clear hs HS40)
        | (go_at_call 69; refine (HS41.out.call1 C6.out).mono ?_; rintro e w42 ⟨J, ⟨rfl, rfl⟩, hs⟩; simp only [List.cons_append, List.nil_append] at hs; have HS42 := Lib.hid hs; clear hs HS41)
        | (go_at_call 72; refine (HS42.out.call1 CB.out).mono ?_; rintro e w43 ⟨J, ⟨q_B, l_B, c_B, ss_B, rfl, rfl, hx_B⟩, hs⟩; simp only [List.cons_append, List.nil_append] at hs; have HS43 := Lib.hid hs; clear hs HS42; have HX_B := Lib.hid hx_B; clear hx_B)
        | (refine wpl_store HS43.out 3 rfl rfl stmtsO (of_decide_eq_true rfl) rfl ?_; intro w44 hs; have HS44 := Lib.hid (show St _ _ _ (_ :: _ :: _ :: _ :: _ :: []) from hs.out); clear hs HS43)
        | (refine wpl_loadS HS44.out 3 rfl rfl fnT rfl ?_)
        | (refine wpl_storeS HS44.out 4 rfl rfl fnT rfl fitsF ?_; intro w45 hs; have HS45 := Lib.hid (show St _ _ _ (_ :: _ :: _ :: _ :: _ :: []) from hs.out); clear hs HS44))
      refine bp_cell HS45.out 4 fnT rfl rfl rfl rfl rfl ⟨_, ⟨t.pos, t.text, false, _, _, _, _, _, _, _, _, _, ps, ss_B, rfl, rfl, fun h => ?_⟩, HS45.out.sel [0, 1, 0] rfl⟩
      rw [← HX_B.out h, ← HV.out]
      rfl
end Go.Proofs.YtjfdcnggnldgdaaGreatDoor
end
section
namespace Go.Proofs.YtjfdcnggnldgdaaGreatDoor
open Go.ChangeShapes Go.WideShapes Go.ChangeAt Go.RowKit
set_option linter.unusedVariables false
set_option linter.unusedSimpArgs false

theorem rfunction_any (b : Nat) (L : List Lx.Tok) (hL : Sx.Ok L) (σ : Sx.R) : Fn 34 #[.pointer (some ⟨b, 0, none⟩)] [rr b L σ] (rFNP b L (Sx.function L σ)) := by
  cases h1 : Sx.sees L [41] (Sx.eat L [40] (Sx.some L 1 (Sx.eat L Sx.wFn σ)).2)
  · cases h2 : Sx.sees L [58] (Sx.eat L [41] (Sx.plist L (Sx.eat L [40] (Sx.some L 1 (Sx.eat L Sx.wFn σ)).2)).2)
    · exact rfunction_some_no b L hL σ h1 h2
    · exact rfunction_some_has b L hL σ h1 h2
  · cases h2 : Sx.sees L [58] (Sx.eat L [41] (Sx.eat L [40] (Sx.some L 1 (Sx.eat L Sx.wFn σ)).2))
    · exact rfunction_none_no b L hL σ h1 h2
    · exact rfunction_none_has b L hL σ h1 h2
theorem rbdZ : Zero 31 (bdA 0 0) := by unfold Zero; kernel_rfl
theorem rr_start (a : Addr) (cap : Nat) (L : List Lx.Tok) (hL : Sx.Ok L) (h0 : 0 < L.length) (hc : L.length ≤ cap) : RrAt cap L Sx.start 0 0 0 0 :=
  ⟨hc, by have := hL.len; omega, h0, rfl, rfl, rfl, fun _ => ⟨rfl, by decide, by decide⟩⟩
theorem St.rr0 {X : Nat → Prop} {w0 w : World} {b : Nat} {a : Addr} {cap : Nat} {L : List Lx.Tok} {I : List It} (hL : Sx.Ok L) (h0 : 0 < L.length) (hc : L.length ≤ cap) (h : St X w0 w (.row b 75 #[.slice (some a) L.length cap, .int .i64 0, .int .i64 0, .int .i64 0, .int .i64 0] :: .hp (toksHp a L) :: I)) : St X w0 w (rr b L Sx.start :: I) :=
  St.rrClose (rr_start a cap L hL h0 hc) h
theorem St.mid2 {X : Nat → Prop} {w0 w : World} {I : List It} (h : St X w0 w I) (i : Nat) {b : Nat} {t : TypeId} {cs : Array Value} (hi : I[i]? = some (.row b t cs)) {u v : Value} (h3 : cs[3]? = some u) (h4 : cs[4]? = some v) : OnC w ⟨b, 3, none⟩ [u, v] := by
  intro j x hj
  have ha : ∀ k : Nat, (⟨b, 3, none⟩ : Addr).add k = ⟨b, 3 + k, none⟩ := fun k => by unfold Addr.add; split <;> simp_all
  rw [ha, h.cell i hi]
  match j, hj with
  | 0, hj => cases hj; exact h3
  | 1, hj => cases hj; exact h4
theorem St.pushF' {X : Nat → Prop} {w0 w : World} {x : It} {I : List It} {p te tl tb : Int} {nm : List UInt8} {vp vb : Value} {ps : List Sx.Pa} {bs : List Sx.S} {fs : List Sx.F} {hh : Bool} {xs : List Value}
    (h : St X w0 w (x :: flI fs xs :: psI vp ps :: ssI vb bs :: I)) : St X w0 w (x :: flI (fs ++ [⟨p, nm, ps, hh, ⟨te, tl, tb⟩, bs⟩]) (xs ++ (fnA p nm vp hh te tl tb vb).toList) :: I) := h.to fun P h => h.under fun P h => flI_more h
set_option maxHeartbeats 8000000 in
set_option maxRecDepth 100000 in
theorem rparse_lexbad (s : ByteArray) (hs : s.size ≤ 281474976710000) (w : World) (hT : TabAt w) (er : Int) (n : Nat) (her : er ≠ 0) (hl : Lx.lex s.data.toList = .error (er, n)) : Calls Tryz.prog 13 #[.string s] w fun e w' => ∃ (q : Option Addr) (l c : Nat) (x p : Int), e = .returned (.tuple #[.agg #[.slice q l c], .agg (bdA x p)]) ∧ PR w w' (Sx.parse s.data.toList) (.slice q l c) x p ∧ Below w.heap.size w w' := by
  have HS := Lib.hid (St.start (X := fun _ => False) (I := []) ⟨fun _ h => h.elim, fun h => h, hT⟩ trivial)
  have C1 := Lib.hid fun w => rlex_own s hs w
  have hp : Sx.parse s.data.toList = .error (er, n) := by unfold Sx.parse; rw [hl]
  rw [hp]
  have HLX := Lib.hid hl
  have hneB : (er == 0) = false := by simpa using her
  clear hl hp hT hs
  go_enter Tryz.func13, Tryz.ntmps13
  go_wp2_with (first
    | (first | (refine wpl_alloc0 HS.out _ rfl pgZ ?_; intro b1 w1 HS1; clear HS) | (refine wpl_alloc HS1.out _ rfl rbdZ ?_; intro b2 w2 HS2; clear HS1) | (refine wpl_alloc HS3.out _ rfl rbdZ ?_; intro b4 w4 HS4; clear HS3))
    | (go_at_call 33; refine (C1.out _).mono ?_; rintro e w3 ⟨v, x, p, rfl, hlx, hb⟩; rw [HLX.out] at hlx; obtain ⟨rfl, hxe, rfl⟩ := hlx; obtain rfl := hxe.symm; have HS3 := Lib.hid (HS2.out.below hb); clear hb HS2)
    | (refine wpl_storeS HS4.out 1 rfl rfl rbT rfl (fitsB _ _) ?_; intro w5 hs; have HS5 := Lib.hid (show St _ _ _ (_ :: _ :: _ :: []) from hs.out); clear hs HS4)
    | (refine wpl_load HS5.out 1 rfl rfl intO rfl ?_))
  refine wp_region_held_drew (S := fun w' => w'.heap[b4]? = some (.cells (bdA er n) 31 (0, 0)) ∧ True) (by kernel_rfl) (⟨HS5.out.drew.row 1 rfl, trivial⟩) (fun hHeld => ?_)
  refine tkH 0 ?_
  refine tkY 1 (yieldsIf_loadS (by rfl) rfl rbT rfl (fun _ h => h.1)) ?_
  refine wpAnyH_ready (rs := [2]) (by kernel_rfl) (by simp) ?_
  refine AllReadyH.cons rfl (fun K hK => ?_) AllReadyH.nil
  (refine wp_storeS HS5.out.drew 0 ⟨rfl, rfl⟩ rfl pgT rfl fitsG ?_; intro w6 hs; have HS6 := Lib.hid (show St _ _ _ (_ :: _ :: _ :: []) from hs.out); clear hs)
  refine hK.out _ _ (⟨HS6.out.row 1 rfl, trivial⟩) (fun hHeld => ?_)
  clear hK K
  (try simp only [Act.put, List.setIfInBounds_toArray, List.set_cons_zero, List.set_cons_succ, List.getElem_toArray, List.getElem_cons_succ, List.getElem_cons_zero])
  refine wpAnyH_ready (rs := [3]) (by kernel_rfl) (by simp) ?_
  refine AllReadyH.cons rfl (fun K hK => ?_) AllReadyH.nil
  (refine wp_storeS HS6.out 2 ⟨rfl, rfl⟩ rfl rbT rfl (fitsB _ _) ?_; intro w7 hs; have HS7 := Lib.hid (show St _ _ _ (_ :: _ :: _ :: []) from hs.out); clear hs)
  refine hK.out _ _ (⟨HS7.out.row 1 rfl, trivial⟩) (fun hHeld => ?_)
  clear hK K
  (try simp only [Act.put, List.setIfInBounds_toArray, List.set_cons_zero, List.set_cons_succ, List.getElem_toArray, List.getElem_cons_succ, List.getElem_cons_zero])
  refine wpAnyH_done (by kernel_rfl) ?_ _
  try go_wp2
  exact bp_cells HS7.out 0 2 pgT rbT rfl rfl rfl rfl rfl rfl rfl rfl ⟨_, _, _, _, _, rfl, ⟨rfl, rfl, rfl⟩, below_of HS7.out⟩
set_option maxHeartbeats 8000000 in
set_option maxRecDepth 100000 in
theorem rparse_lexok (s : ByteArray) (hs : s.size ≤ 281474976710000) (w : World) (hT : TabAt w) (L : List Lx.Tok) (hl : Lx.lex s.data.toList = .ok L) : Calls Tryz.prog 13 #[.string s] w fun e w' => ∃ (q : Option Addr) (l c : Nat) (x p : Int), e = .returned (.tuple #[.agg #[.slice q l c], .agg (bdA x p)]) ∧ PR w w' (Sx.parse s.data.toList) (.slice q l c) x p ∧ Below w.heap.size w w' := by
  have HS := Lib.hid (St.start (X := fun _ => False) (I := []) ⟨fun _ h => h.elim, fun h => h, hT⟩ trivial)
  have C1 := Lib.hid fun w => rlex_own s hs w
  obtain ⟨hok, hlen⟩ : Sx.Ok L ∧ 0 < L.length := ⟨Lx.lex_ok' hl, (Sx.ends_lex hl).2⟩
  have HLX := Lib.hid hl
  have HOK := Lib.hid (And.intro hok hlen)
  have HPE := Lib.hid (fun (hz : (Sx.Fs L Sx.start).2.err ≠ 0) => show Sx.parse s.data.toList = .error ((Sx.Fs L Sx.start).2.err, (Sx.Fs L Sx.start).2.pos) by unfold Sx.parse; rw [hl]; show (if (Sx.Fs L Sx.start).2.err = 0 then _ else _) = _; rw [if_neg hz]; rfl)
  have HPO := Lib.hid (fun (hz : (Sx.Fs L Sx.start).2.err = 0) => show Sx.parse s.data.toList = .ok (Sx.Fs L Sx.start).1 by unfold Sx.parse; rw [hl]; show (if (Sx.Fs L Sx.start).2.err = 0 then _ else _) = _; rw [if_pos hz]; rfl)
  generalize hpp : Sx.parse s.data.toList = pp at HPE HPO ⊢
  clear hl hT hs hok hlen hpp
  go_enter Tryz.func13, Tryz.ntmps13
  go_wp2_with (first
    | (first | (refine wpl_alloc0 HS.out _ rfl pgZ ?_; intro b1 w1 HS1; clear HS) | (refine wpl_alloc HS1.out _ rfl rbdZ ?_; intro b2 w2 HS2; clear HS1) | (refine wpl_alloc HS3.out _ rfl rbdZ ?_; intro b4 w4 HS4; clear HS3) | (refine wpl_alloc HS6.out _ rfl pgZ ?_; intro b7 w7 HS7; clear HS6))
    | (go_at_call 33; refine (C1.out _).mono ?_; rintro e w3 ⟨v, x, p, rfl, hlx, hb⟩; rw [HLX.out] at hlx; obtain ⟨rfl, rfl, ho⟩ := hlx; obtain ⟨ad, cap, rfl, hcap, hs3⟩ := HS2.out.lexed hb HOK.out.2 ho; have HS3 := Lib.hid hs3; have HC := Lib.hid hcap; clear hb HS2 hs3 ho hcap)
    | (refine wpl_storeS HS4.out 1 rfl rfl rbT rfl (fitsB _ _) ?_; intro w5 hs; have HS5 := Lib.hid (show St _ _ _ (_ :: _ :: _ :: _ :: []) from hs.out); clear hs HS4)
    | (refine wpl_load HS5.out 1 rfl rfl intO rfl ?_)
    | (refine wpl_box HS5.out rfl rfl ?_; intro b6 w6 hs; have HS6 := Lib.hid (St.rr0 HOK.out.1 HOK.out.2 HC.out (hs.out.sel [1, 0, 0, 0, 0] rfl)); clear hs HS5))
  obtain ⟨N, hN⟩ : ∃ N : Nat, N = 65537 := ⟨_, rfl⟩
  have HNN := Lib.hid hN
  clear hN
  simp only [Act.put, List.setIfInBounds_toArray, List.set_cons_zero, List.set_cons_succ]
  go_loopw [] (fun wr => ∃ (k : Nat) (q : Option Addr) (c : Nat) (fs : List Sx.F) (xs : List Value) (τ : Sx.R), k ≤ N ∧ Hid (fs.length = k ∧ St (fun _ => False) w wr [rr b6 L τ, ownI 50 8 (.slice q k c) k xs, flI fs xs, .row b7 24 #[.slice q k c], .row b4 31 (bdA 0 0), .row b1 24 #[.slice none 0 0], .row b2 31 (bdA 0 0)] ∧ (τ.err = 0 → k ≤ τ.at') ∧ (Sx.Fs L Sx.start).2 = (Sx.Fs L τ).2 ∧ ((Sx.Fs L τ).2.err = 0 → (Sx.Fs L Sx.start).1 = fs ++ (Sx.Fs L τ).1))) (fun wr => N + 1 - fLen b7 wr)
  case atStart =>
    refine ⟨0, none, 0, [], [], Sx.start, Nat.zero_le _, Lib.hid ⟨rfl, HS7.out.to fun P h => h.under fun P h => ?_, fun _ => Nat.zero_le _, rfl, fun _ => rfl⟩⟩
    exact Sep.emp (Sep.emp h (show (flI [] []).on _ (fun _ => False) from rfl)) ⟨World.ownsRow_nil _ _ _ _, fun g hg => by cases hg⟩
  case round =>
    obtain ⟨k, q, c, fs, xs, τ, hk, HK⟩ := hrel
    have HST := Lib.hid HK.out.2.1
    have hat := HST.out.rat
    have HAT := Lib.hid hat
    obtain ⟨aT, capT, tT, mT, eT, pT, hr, hs3⟩ := HST.out.rrOpen
    have HRT := Lib.hid hr
    have HOT := Lib.hid hs3
    have HTK := Lib.hid (tk_cells (toks_t ((HOT.out.sep.pick 1 rfl).choose_spec.choose_spec.2.2.2.1) HRT.out)).1
    have hc0 : wr.cell? ⟨b6, 0, none⟩ = some (.slice (some aT) L.length capT) := HOT.out.cell 0 rfl 0
    have hc1 : wr.cell? ⟨b6, 1, none⟩ = some (.int .i64 (tT : Int)) := HOT.out.cell 0 rfl 1
    have hc3 : wr.cell? ⟨b6, 3, none⟩ = some (.int .i64 eT) := HOT.out.cell 0 rfl 3
    obtain ⟨hb0, hb1, hb2⟩ := rr_bound HRT.out
    clear hs3 hr hb2
    by_cases he : τ.err = 0
    · have he' : eT = 0 := by rw [HRT.out.he]; exact he
      subst he'
      by_cases hkd : (Sx.tk L τ).kind = 0
      · have hck : wr.cell? (aT.add (tT * 4)) = some (.int .i64 0) := by rw [HTK.out, hkd]
        have HF := Lib.hid (Sx.Fs_stop HOK.out.1.ends hat (Or.inr hkd))
        have HE := Lib.hid he
        clear hat hk he hkd HTK
        go_wp2
        go_quiet (fail)
        have HV := Lib.hid (HOT.out.drewN nq)
        generalize wr.drewN nq = V at HV ⊢
        clear hc0 hc1 hc3 HOT HST
        go_wp2_with (first
          | (refine wpl_load HV.out 0 rfl rfl intO rfl ?_)
          | (refine wpl_loadS HV.out 4 rfl rfl pgT rfl ?_)
          | (refine wpl_storeS HV.out 6 rfl rfl pgT rfl fitsG ?_; intro w16 hs; have HV6 := Lib.hid (show St _ _ _ (_ :: _ :: _ :: _ :: _ :: _ :: _ :: _ :: []) from hs.out); clear hs)
          | (refine wpl_storeS HV6.out 7 rfl rfl rbT rfl (fitsB _ _) ?_; intro w17 hs; have HV7 := Lib.hid (show St _ _ _ (_ :: _ :: _ :: _ :: _ :: _ :: _ :: _ :: []) from hs.out); clear hs))
        refine bp_cells HV7.out 6 7 pgT rbT rfl rfl rfl rfl rfl rfl rfl rfl ⟨_, _, _, _, _, rfl, ?_, below_of HV7.out⟩
        have h2 : (Sx.Fs L Sx.start).2 = τ := by rw [HK.out.2.2.2.1, HF.out]
        have h1 : (Sx.Fs L Sx.start).1 = fs := by rw [HK.out.2.2.2.2 (by rw [HF.out]; exact HE.out), HF.out, List.append_nil]
        rw [HPO.out (by rw [h2]; exact HE.out), h1]
        obtain ⟨A, B, k1, k2, k3, k4, k5⟩ := ((HV7.out.sel [2, 2] rfl).to fun P h => fsI_close HK.out.1.symm h).sep
        exact ⟨rfl, rfl, (fsI _ fs).wide k4 fun k hk => ⟨(k1 k hk).2.resolve_left (fun h => h), (k1 k hk).1⟩⟩
      · have hck : wr.cell? (aT.add (tT * 4)) = some (.int .i64 (Sx.tk L τ).kind) := HTK.out
        have hkb : k < 65537 := by
          have h1 := HK.out.2.2.1 he
          have h2 := HOK.out.1.len
          omega
        have hnm : k < nMax := by unfold nMax; omega
        have CX := Lib.hid (rfunction_any b6 L HOK.out.1 τ)
        have HN := Lib.hid (Sx.Fs_go HOK.out.1.ends hat he hkd)
        have hkB : ((Sx.tk L τ).kind == 0) = false := by simpa using hkd
        have HHe := Lib.hid he
        have HKB := Lib.hid hkb
        clear hat hk he hkb HTK
        go_wp2
        go_quiet (fail)
        have HV := Lib.hid (HST.out.drewN nq)
        generalize wr.drewN nq = V at HV ⊢
        clear hc0 hc1 hc3 HOT
        go_wp2_with (first
          | (go_at_call 34; refine (HV.out.call1 CX.out).mono ?_; rintro e w30 ⟨J, ⟨p, nm, hh, te, tl, tb, q1, q2, l1, l2, c1, c2, ps, bs, rfl, rfl, hx⟩, hs⟩; simp only [List.cons_append, List.nil_append] at hs; have HX := Lib.hid hx; have HS30 := Lib.hid hs; clear hs hx HV)
          | (refine wpl_alloc HS30.out _ rfl fnZ ?_; intro b8 w31 HS31; clear HS30)
          | (refine wpl_storeS HS31.out 1 rfl rfl fnT rfl fitsF ?_; intro w32 hs; have HS32 := Lib.hid (show St _ _ _ (_ :: _ :: _ :: _ :: _ :: _ :: _ :: _ :: _ :: _ :: []) from hs.out); clear hs HS31)
          | (refine wpl_load HS32.out 6 rfl rfl funcsO rfl ?_)
          | (refine wpl_loadS HS32.out 1 rfl rfl fnT rfl ?_)
          | (refine wpl_slice HS32.out rfl Tryz.underlying22 (fnB _ _ _ _ _ _ _ _ _ _ _ _) ?_; intro b9 w33 HS33)
          | (refine wpl_append HS33.out 5 1 rfl rfl rfl Tryz.underlying22 fnEl rfl (fnOne _ _ _ _ _ _ _ _ _ _ _ _) hnm ?_; intro v34 w34 hs h34; obtain ⟨q34, cap34, rfl⟩ := hs.out.ownLen 5 rfl; have HS34 := Lib.hid (show St _ _ _ (_ :: _ :: _ :: _ :: _ :: _ :: _ :: _ :: _ :: _ :: _ :: []) from hs.out); clear hs)
          | (refine wpl_store HS34.out 7 rfl rfl funcsO (of_decide_eq_true rfl) rfl ?_; intro w35 hs; have HS35 := Lib.hid (show St _ _ _ (_ :: _ :: _ :: _ :: _ :: _ :: _ :: _ :: _ :: _ :: _ :: []) from hs.out); clear hs))
        refine ⟨⟨k + 1, ?_, q34, cap34, fs ++ [⟨p, nm, ps, hh, ⟨te, tl, tb⟩, bs⟩], xs ++ (fnA p nm (.slice q1 l1 c1) hh te tl tb (.slice q2 l2 c2)).toList, (Sx.function L τ).2, Lib.hid ⟨?_, ((HS35.out.sel [0, 5, 2, 2, 2, 2, 2, 2, 2] rfl).pushF').sel [0, 1, 0, 0, 0, 0, 0] rfl, ?_, ?_, ?_⟩⟩, ?_⟩
        · have := HKB.out; have := HNN.out; omega
        · rw [List.length_append, HK.out.1]; rfl
        · intro hz
          have h1 := Sx.function_at HOK.out.1.ends HAT.out HHe.out hz
          have h3 := HK.out.2.2.1 HHe.out
          omega
        · rw [HK.out.2.2.2.1, HN.out]
        · intro hz
          have h9 : (Sx.function L τ).2.err = 0 := Sx.Le.ok (Sx.le_functions HOK.out.1.ends _ _) hz
          rw [HK.out.2.2.2.2 (by rw [HN.out]; exact hz), HN.out, List.append_assoc, ← HX.out h9]; rfl
        · rw [HS35.out.fLen 7 rfl, HST.out.fLen 3 rfl]
          have := HKB.out
          have := HNN.out
          omega
    · have he' : ¬ eT = 0 := by rw [HRT.out.he]; exact he
      have heB : (eT == 0) = false := by simpa using he'
      have HF := Lib.hid (Sx.Fs_stop HOK.out.1.ends hat (Or.inl he))
      have HE := Lib.hid he
      clear hat hk he HTK
      go_wp2
      go_quiet (fail)
      have HV := Lib.hid (HOT.out.drewN nq)
      generalize wr.drewN nq = V at HV ⊢
      clear hc0 hc1 hc3 HOT HST
      go_wp2_with (first
        | (refine wpl_load HV.out 0 rfl rfl intO rfl ?_))
      refine wp_region_held_drew (S := fun w' => OnC w' ⟨b6, 3, none⟩ [.int .i64 eT, .int .i64 pT]) (by kernel_rfl) (HV.out.drew.mid2 0 rfl rfl rfl) (fun hHeld => ?_)
      refine tkH 0 ?_
      refine tkH 1 ?_
      refine tkH 2 ?_
      refine tkH 3 ?_
      refine tkY 4 (yieldsIf_loadC (by rfl) rfl rbT rfl (fun _ h => h)) ?_
      refine wpAnyH_ready (rs := [5]) (by kernel_rfl) (by simp) ?_
      refine AllReadyH.cons rfl (fun K hK => ?_) AllReadyH.nil
      (refine wp_storeS HV.out.drew 6 ⟨rfl, rfl⟩ rfl pgT rfl fitsG ?_; intro w16 hs; have HV6 := Lib.hid (show St _ _ _ (_ :: _ :: _ :: _ :: _ :: _ :: _ :: _ :: []) from hs.out); clear hs)
      refine hK.out _ _ (HV6.out.mid2 0 rfl rfl rfl) (fun hHeld => ?_)
      clear hK K
      (try simp only [Act.put, List.setIfInBounds_toArray, List.set_cons_zero, List.set_cons_succ, List.getElem_toArray, List.getElem_cons_succ, List.getElem_cons_zero])
      refine wpAnyH_ready (rs := [6]) (by kernel_rfl) (by simp) ?_
      refine AllReadyH.cons rfl (fun K hK => ?_) AllReadyH.nil
      (refine wp_storeS HV6.out 7 ⟨rfl, rfl⟩ rfl rbT rfl (fitsB _ _) ?_; intro w17 hs; have HV7 := Lib.hid (show St _ _ _ (_ :: _ :: _ :: _ :: _ :: _ :: _ :: _ :: []) from hs.out); clear hs)
      refine hK.out _ _ (HV7.out.mid2 0 rfl rfl rfl) (fun hHeld => ?_)
      clear hK K
      (try simp only [Act.put, List.setIfInBounds_toArray, List.set_cons_zero, List.set_cons_succ, List.getElem_toArray, List.getElem_cons_succ, List.getElem_cons_zero])
      refine wpAnyH_done (by kernel_rfl) ?_ _
      try go_wp2
      refine bp_cells HV7.out 6 7 pgT rbT rfl rfl rfl rfl rfl rfl rfl rfl ⟨_, _, _, _, _, rfl, ?_, below_of HV7.out⟩
      have h2 : (Sx.Fs L Sx.start).2 = τ := by rw [HK.out.2.2.2.1, HF.out]
      rw [HPE.out (by rw [h2]; exact HE.out)]
      exact ⟨rfl, by rw [h2, ← HRT.out.he], by rw [h2, ← HRT.out.hp]⟩
theorem rparse_any (s : ByteArray) (hs : s.size ≤ 281474976710000) (w : World) (hT : TabAt w) : Calls Tryz.prog 13 #[.string s] w fun e w' => ∃ (q : Option Addr) (l c : Nat) (x p : Int), e = .returned (.tuple #[.agg #[.slice q l c], .agg (bdA x p)]) ∧ PR w w' (Sx.parse s.data.toList) (.slice q l c) x p ∧ Below w.heap.size w w' := by
  cases hl : Lx.lex s.data.toList with
  | error e =>
    obtain ⟨er, n⟩ := e
    exact rparse_lexbad s hs w hT er n (Lx.lex_err hl) hl
  | ok L => exact rparse_lexok s hs w hT L hl
end Go.Proofs.YtjfdcnggnldgdaaGreatDoor
end
