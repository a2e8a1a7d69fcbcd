/-
Signs ahead of an expression, and all of expressions by induction.
-/
import Derived.Test.YtbnhegipdfkdgaaDoorP27a
namespace Go.Proofs.YtbnhegipdfkdgaaDoor
open Go.ChangeShapes Go.WideShapes Go.ChangeAt Go.RowKit
set_option linter.unusedVariables false
set_option linter.unusedSimpArgs false

set_option maxHeartbeats 8000000 in
set_option maxRecDepth 100000 in
theorem unary_no (b : Nat) (L : List Lx.Tok) (hL : Sx.Ok L) (σ : Sx.R) (hah : σ.err = 0 → Sx.aheadK (Sx.text L σ) = 0) (hE : ∀ τ, Sx.M L τ + 16 ≤ Sx.M L σ → CE b L τ) : CU b L σ := by
  intro w P hP h0
  have HS := Lib.hid (St.start hP h0)
  have hat := HS.out.at'
  have C1 := Lib.hid (next_fn b L σ)
  have CA := Lib.hid (fun w => ahead_any (Sx.pk L σ).text w)
  have hk : Sx.aheadK (Sx.pk L σ).text = 0 := by
    rw [Sx.pk_ahead hL hat]
    split
    · rename_i he; exact hah he
    · rfl
  rw [hk] at CA
  have CX := Lib.hid (primary_fn b L hL σ hah hE)
  clear h0 hP hL hE hat hah hk
  go_enter Tryd.func81, Tryd.ntmps81
  go_wp2_with (first
    | (first | (refine wpl_alloc HS.out _ rfl exZ ?_; intro b1 w1 HS1; clear HS) | (refine wpl_alloc HS2.out _ rfl tokZ ?_; intro b3 w3 HS3; clear HS2))
    | (go_at_call 17; refine (HS1.out.call1 C1.out).mono ?_; rintro e w2 ⟨J, ⟨rfl, rfl⟩, hs⟩; simp only [List.cons_append, List.nil_append] at hs; have HS2 := Lib.hid hs; clear hs; clear HS1)
    | (refine wpl_storeS HS3.out 1 rfl rfl tokT rfl (fitsT _ _ _ _) ?_; intro w4 hs; have HS4 := Lib.hid (show St _ _ _ (_ :: _ :: _ :: []) from hs.out); clear hs HS3)
    | (go_at_call 82; refine (CA.out _).mono ?_; rintro e w5 ⟨rfl, rfl⟩)
    | (refine wpl_load HS4.out 1 rfl rfl strO rfl ?_)
    | (go_at_call 83; refine (HS4.out.call1 CX.out).mono ?_; rintro e w6 ⟨J, ⟨k2, p2, n2, nm2, v2, es2, rfl, rfl, hx2, h12⟩, hs⟩; simp only [List.cons_append, List.nil_append] at hs; have HX2 := Lib.hid hx2; obtain ⟨q2, l2, cap2, rfl⟩ := hs.lsLen 1 rfl; have HS6 := Lib.hid hs; clear hs hx2; clear HS4)
    | (refine wpl_storeS HS6.out 3 rfl rfl exT rfl fitsX' ?_; intro w7 hs; have HS7 := Lib.hid (show St _ _ _ (_ :: _ :: _ :: _ :: []) from hs.out); clear hs HS6))
  exact bp_cell HS7.out 3 exT rfl rfl rfl rfl rfl ⟨_, ⟨k2, p2, n2, nm2, _, es2, rfl, rfl, HX2.out, rfl⟩, HS7.out.sel [0, 0] rfl⟩
set_option maxHeartbeats 8000000 in
set_option maxRecDepth 100000 in
theorem unary_sign (b : Nat) (L : List Lx.Tok) (hL : Sx.Ok L) (σ : Sx.R) (he : σ.err = 0) (hah : Sx.aheadK (Sx.text L σ) ≠ 0) (hU : ∀ τ, Sx.M L τ + 16 ≤ Sx.M L σ → CU b L τ) : CU b L σ := by
  intro w P hP h0
  have HS := Lib.hid (St.start hP h0)
  have hat := HS.out.at'
  have C1 := Lib.hid (next_fn b L σ)
  have CA := Lib.hid (fun w => ahead_any (Sx.pk L σ).text w)
  have hsg := Sx.ahead_is hah
  have hne : Sx.text L σ ≠ [] := by rcases hsg with h | h | h <;> rw [h] <;> decide
  have hpt := Sx.pk_text hL hat he hne
  have hkw : Sx.kw (Sx.pk L σ).text = true := by rw [hpt]; rcases hsg with h | h | h <;> rw [h] <;> decide
  have hpk := Sx.pk_tk (L := L) he
  have C3 := Lib.hid (open_fn b L hL σ (Sx.pk L σ).text hkw)
  have CX := Lib.hid (hU (Sx.nest L (Sx.pk L σ).text σ) (Sx.M_nest he hat))
  have ho0 := HS.out.opn0 he
  have hop : (Sx.nest L (Sx.pk L σ).text σ).opn = σ.opn + 1 := Sx.op_nest L _ σ
  have hopu : (Sx.U L (Sx.nest L (Sx.pk L σ).text σ)).2.opn = σ.opn + 1 := ((Sx.op_exprs L _).2.2.1 _).trans hop
  have hw : (Sx.U L (Sx.nest L (Sx.pk L σ).text σ)).2.err = 0 → 1 ≤ (Sx.U L (Sx.nest L (Sx.pk L σ).text σ)).2.opn := fun _ => by omega
  have hkd : (if Sx.text L σ = [126] then (5 : Int) else if Sx.text L σ = [45] then 6 else 7) = Sx.aheadK (Sx.pk L σ).text := by
    rw [hpt]; rcases hsg with h | h | h <;> rw [h] <;> decide
  have hU := Sx.U_sign hL.ends hat he hsg
  rw [hkd, ← hpk, ← hpt] at hU
  have hk0 : ¬ Sx.aheadK (Sx.pk L σ).text = 0 := by rw [hpt]; exact hah
  rw [hU]
  have HW := Lib.hid hw
  generalize Sx.aheadK (Sx.pk L σ).text = KD at CA hk0 ⊢
  clear h0 hP hL hU hat hah hsg hne hpt hkw hpk ho0 hop hopu hw hkd he
  go_enter Tryd.func81, Tryd.ntmps81
  go_wp2_with (first
    | (first | (refine wpl_alloc HS.out _ rfl exZ ?_; intro b1 w1 HS1; clear HS) | (refine wpl_alloc HS2.out _ rfl tokZ ?_; intro b3 w3 HS3; clear HS2))
    | (go_at_call 17; refine (HS1.out.call1 C1.out).mono ?_; rintro e w2 ⟨J, ⟨rfl, rfl⟩, hs⟩; simp only [List.cons_append, List.nil_append] at hs; have HS2 := Lib.hid hs; clear hs; clear HS1)
    | (refine wpl_storeS HS3.out 1 rfl rfl tokT rfl (fitsT _ _ _ _) ?_; intro w4 hs; have HS4 := Lib.hid (show St _ _ _ (_ :: _ :: _ :: []) from hs.out); clear hs HS3)
    | (go_at_call 82; refine (CA.out _).mono ?_; rintro e w5 ⟨rfl, rfl⟩)
    | (refine wpl_load HS4.out 1 rfl rfl strO rfl ?_)
    | (go_at_call 46; refine (HS4.out.call1 C3.out).mono ?_; rintro e w6 ⟨J, ⟨rfl, rfl⟩, hs⟩; simp only [List.cons_append, List.nil_append] at hs; have HS6 := Lib.hid hs; clear hs; clear HS4))
  refine wp_region_held_drew (S := fun w' => w'.cell? ⟨b3, 1, none⟩ = some (.int .i64 (Sx.pk L σ).pos)) (by kernel_rfl) (HS6.out.drew.cell 1 rfl 1) (fun hHeld => ?_)
  refine wpAnyH_take (i := 0) (v := ?_) rfl (by kernel_rfl) (by kernel_rfl) (by kernel_rfl) (fun _ _ _ h => h) (Or.inl ⟨by rfl, ?_⟩) (by assumption) ?_
  rotate_left
  · intro w hSw
    (try dsimp only at hSw)
    go_simp
    (try with_reducible rfl)
  (try simp only [Act.put, List.setIfInBounds_toArray, List.set_cons_zero, List.set_cons_succ, List.getElem_toArray, List.getElem_cons_succ, List.getElem_cons_zero])
  refine wpAnyH_take (i := 1) (v := ?_) rfl (by kernel_rfl) (by kernel_rfl) (by kernel_rfl) (fun _ _ _ h => h) (Or.inl ⟨by rfl, ?_⟩) (by assumption) ?_
  rotate_left
  · intro w hSw
    (try dsimp only at hSw)
    go_simp
    (try with_reducible rfl)
  (try simp only [Act.put, List.setIfInBounds_toArray, List.set_cons_zero, List.set_cons_succ, List.getElem_toArray, List.getElem_cons_succ, List.getElem_cons_zero])
  refine wpAnyH_take (i := 2) (v := ?_) rfl (by kernel_rfl) (by kernel_rfl) (by kernel_rfl) (fun _ _ _ h => h) (Or.inl ⟨by rfl, ?_⟩) (by assumption) ?_
  rotate_left
  · intro w hSw
    (try dsimp only at hSw)
    go_simp
    (try with_reducible rfl)
  (try simp only [Act.put, List.setIfInBounds_toArray, List.set_cons_zero, List.set_cons_succ, List.getElem_toArray, List.getElem_cons_succ, List.getElem_cons_zero])
  refine wpAnyH_take (i := 3) (v := ?_) rfl (by kernel_rfl) (by kernel_rfl) (by kernel_rfl) (fun _ _ _ h => h) (Or.inl ⟨by rfl, ?_⟩) (by assumption) ?_
  rotate_left
  · intro w hSw
    (try dsimp only at hSw)
    go_simp
    (try with_reducible rfl)
  (try simp only [Act.put, List.setIfInBounds_toArray, List.set_cons_zero, List.set_cons_succ, List.getElem_toArray, List.getElem_cons_succ, List.getElem_cons_zero])
  refine wpAnyH_ready (rs := [4, 7]) (by kernel_rfl) (by simp) ?_
  refine AllReadyH.cons rfl (fun K hK => ?_) (AllReadyH.cons rfl (fun K hK => ?_) AllReadyH.nil)
  · go_simp
    (go_at_call 81; refine (HS6.out.drew.call1 CX.out).mono ?_; rintro e w8 ⟨J, ⟨k2, p2, n2, nm2, v2, es2, rfl, rfl, hx2, h12⟩, hs⟩; simp only [List.cons_append, List.nil_append] at hs; have HX2 := Lib.hid hx2; obtain ⟨q2, l2, cap2, rfl⟩ := hs.lsLen 1 rfl; have HS8 := Lib.hid hs; clear hs hx2)
    refine hK.out _ _ (HS8.out.cell 2 rfl 1) (fun hHeld => ?_)
    clear hK K
    (try simp only [Act.put, List.setIfInBounds_toArray, List.set_cons_zero, List.set_cons_succ, List.getElem_toArray, List.getElem_cons_succ, List.getElem_cons_zero])
    refine wpAnyH_ready (rs := [5, 7]) (by kernel_rfl) (by simp) ?_
    refine AllReadyH.cons rfl (fun K hK => ?_) (AllReadyH.cons rfl (fun K hK => ?_) AllReadyH.nil)
    · (refine wp_slice HS8.out rfl Tryd.underlying40 (exB _ _ _ _ _) ?_; intro b9 w9 hs; have HS9 := Lib.hid (show St _ _ _ (_ :: _ :: _ :: _ :: _ :: []) from hs.out); clear hs)
      refine hK.out _ _ (HS9.out.cell 3 rfl 1) (fun hHeld => ?_)
      clear hK K
      (try simp only [Act.put, List.setIfInBounds_toArray, List.set_cons_zero, List.set_cons_succ, List.getElem_toArray, List.getElem_cons_succ, List.getElem_cons_zero])
      refine wpAnyH_take (i := 6) (v := ?_) rfl (by kernel_rfl) (by kernel_rfl) (by kernel_rfl) (fun _ _ _ h => h) (Or.inl ⟨by rfl, ?_⟩) (by assumption) ?_
      rotate_left
      · intro w hSw
        (try dsimp only at hSw)
        go_simp
        (try with_reducible rfl)
      (try simp only [Act.put, List.setIfInBounds_toArray, List.set_cons_zero, List.set_cons_succ, List.getElem_toArray, List.getElem_cons_succ, List.getElem_cons_zero])
      refine wpAnyH_ready (rs := [7]) (by kernel_rfl) (by simp) ?_
      refine AllReadyH.cons rfl (fun K hK => ?_) AllReadyH.nil
      (refine wp_alloc HS9.out _ rfl exZ ?_; intro b5 w7 hs; have HS7 := Lib.hid (show St _ _ _ (_ :: _ :: _ :: _ :: _ :: _ :: []) from hs.out); clear hs)
      refine hK.out _ _ (HS7.out.cell 4 rfl 1) (fun hHeld => ?_)
      clear hK K
      (try simp only [Act.put, List.setIfInBounds_toArray, List.set_cons_zero, List.set_cons_succ, List.getElem_toArray, List.getElem_cons_succ, List.getElem_cons_zero])
      refine wpAnyH_ready (rs := [8]) (by kernel_rfl) (by simp) ?_
      refine AllReadyH.cons rfl (fun K hK => ?_) AllReadyH.nil
      (have HT0 := Lib.hid (HS7.out); refine wp_storeS HT0.out 1 ⟨rfl, rfl⟩ rfl exT rfl fitsX' ?_; intro w10 hs; have HS10 := Lib.hid (show St _ _ _ (_ :: _ :: _ :: _ :: _ :: _ :: []) from hs.out); clear hs HT0)
      refine hK.out _ _ (HS10.out.cell 4 rfl 1) (fun hHeld => ?_)
      clear hK K
      (try simp only [Act.put, List.setIfInBounds_toArray, List.set_cons_zero, List.set_cons_succ, List.getElem_toArray, List.getElem_cons_succ, List.getElem_cons_zero])
      refine wpAnyH_done (by kernel_rfl) ?_ _
      obtain ⟨a2, cap2', c2, m2, e2, pp2, hr, hs3⟩ := HS10.out.rdOpen
      have HR2 := Lib.hid hr
      have HO2 := Lib.hid hs3
      clear hs3 hr
      go_wp2_with (first
        | (refine wpl_load HO2.out 0 rfl rfl intO rfl ?_)
        | (refine wpl_store HO2.out 0 rfl rfl intO (of_decide_eq_true rfl) rfl ?_; intro w11 hs5; have HS11 := Lib.hid (show St _ _ _ (.row b 50 (rdC a2 cap2' L c2 (wrap64 (m2 - 1)) e2 pp2) :: .hp (toksHp a2 L) :: _ :: _ :: _ :: _ :: _ :: []) from hs5.out); clear hs5)
        | (refine wpl_loadS HS11.out 2 rfl rfl exT rfl ?_)
        | (refine wpl_storeS HS11.out 6 rfl rfl exT rfl fitsX' ?_; intro w12 hs; have HS12 := Lib.hid (show St _ _ _ (_ :: _ :: _ :: _ :: _ :: _ :: _ :: []) from hs.out); clear hs))
      exact bp_cell HS12.out 6 exT rfl rfl rfl rfl rfl ⟨_, ⟨_, _, 0, [], _, [.mk k2 p2 n2 nm2 es2], rfl, rfl, fun h => congrArg (fun z => Sx.E.mk KD (Sx.pk L σ).pos 0 [] [z]) (HX2.out h), rfl⟩, St.rdClose (rd_less HR2.out HW.out) ((St.sel HS12.out [0, 0, 1, 1] rfl).to fun P h => h.under fun P h => h.under fun P h => lsI_one h)⟩
    · (refine wp_alloc HS8.out _ rfl exZ ?_; intro b5 w7 hs; have HS7 := Lib.hid (show St _ _ _ (_ :: _ :: _ :: _ :: _ :: []) from hs.out); clear hs)
      refine hK.out _ _ (HS7.out.cell 3 rfl 1) (fun hHeld => ?_)
      clear hK K
      (try simp only [Act.put, List.setIfInBounds_toArray, List.set_cons_zero, List.set_cons_succ, List.getElem_toArray, List.getElem_cons_succ, List.getElem_cons_zero])
      refine wpAnyH_ready (rs := [5]) (by kernel_rfl) (by simp) ?_
      refine AllReadyH.cons rfl (fun K hK => ?_) AllReadyH.nil
      (refine wp_slice HS7.out rfl Tryd.underlying40 (exB _ _ _ _ _) ?_; intro b9 w9 hs; have HS9 := Lib.hid (show St _ _ _ (_ :: _ :: _ :: _ :: _ :: _ :: []) from hs.out); clear hs)
      refine hK.out _ _ (HS9.out.cell 4 rfl 1) (fun hHeld => ?_)
      clear hK K
      (try simp only [Act.put, List.setIfInBounds_toArray, List.set_cons_zero, List.set_cons_succ, List.getElem_toArray, List.getElem_cons_succ, List.getElem_cons_zero])
      refine wpAnyH_take (i := 6) (v := ?_) rfl (by kernel_rfl) (by kernel_rfl) (by kernel_rfl) (fun _ _ _ h => h) (Or.inl ⟨by rfl, ?_⟩) (by assumption) ?_
      rotate_left
      · intro w hSw
        (try dsimp only at hSw)
        go_simp
        (try with_reducible rfl)
      (try simp only [Act.put, List.setIfInBounds_toArray, List.set_cons_zero, List.set_cons_succ, List.getElem_toArray, List.getElem_cons_succ, List.getElem_cons_zero])
      refine wpAnyH_ready (rs := [8]) (by kernel_rfl) (by simp) ?_
      refine AllReadyH.cons rfl (fun K hK => ?_) AllReadyH.nil
      (have HT0 := Lib.hid (HS9.out.sel [0, 1, 0, 0, 0, 0] rfl); refine wp_storeS HT0.out 1 ⟨rfl, rfl⟩ rfl exT rfl fitsX' ?_; intro w10 hs; have HS10 := Lib.hid (show St _ _ _ (_ :: _ :: _ :: _ :: _ :: _ :: []) from hs.out); clear hs HT0)
      refine hK.out _ _ (HS10.out.cell 4 rfl 1) (fun hHeld => ?_)
      clear hK K
      (try simp only [Act.put, List.setIfInBounds_toArray, List.set_cons_zero, List.set_cons_succ, List.getElem_toArray, List.getElem_cons_succ, List.getElem_cons_zero])
      refine wpAnyH_done (by kernel_rfl) ?_ _
      obtain ⟨a2, cap2', c2, m2, e2, pp2, hr, hs3⟩ := HS10.out.rdOpen
      have HR2 := Lib.hid hr
      have HO2 := Lib.hid hs3
      clear hs3 hr
      go_wp2_with (first
        | (refine wpl_load HO2.out 0 rfl rfl intO rfl ?_)
        | (refine wpl_store HO2.out 0 rfl rfl intO (of_decide_eq_true rfl) rfl ?_; intro w11 hs5; have HS11 := Lib.hid (show St _ _ _ (.row b 50 (rdC a2 cap2' L c2 (wrap64 (m2 - 1)) e2 pp2) :: .hp (toksHp a2 L) :: _ :: _ :: _ :: _ :: _ :: []) from hs5.out); clear hs5)
        | (refine wpl_loadS HS11.out 2 rfl rfl exT rfl ?_)
        | (refine wpl_storeS HS11.out 6 rfl rfl exT rfl fitsX' ?_; intro w12 hs; have HS12 := Lib.hid (show St _ _ _ (_ :: _ :: _ :: _ :: _ :: _ :: _ :: []) from hs.out); clear hs))
      exact bp_cell HS12.out 6 exT rfl rfl rfl rfl rfl ⟨_, ⟨_, _, 0, [], _, [.mk k2 p2 n2 nm2 es2], rfl, rfl, fun h => congrArg (fun z => Sx.E.mk KD (Sx.pk L σ).pos 0 [] [z]) (HX2.out h), rfl⟩, St.rdClose (rd_less HR2.out HW.out) ((St.sel HS12.out [0, 0, 1, 1] rfl).to fun P h => h.under fun P h => h.under fun P h => lsI_one h)⟩
  · (refine wp_alloc HS6.out.drew _ rfl exZ ?_; intro b5 w7 hs; have HS7 := Lib.hid (show St _ _ _ (_ :: _ :: _ :: _ :: []) from hs.out); clear hs)
    refine hK.out _ _ (HS7.out.cell 2 rfl 1) (fun hHeld => ?_)
    clear hK K
    (try simp only [Act.put, List.setIfInBounds_toArray, List.set_cons_zero, List.set_cons_succ, List.getElem_toArray, List.getElem_cons_succ, List.getElem_cons_zero])
    refine wpAnyH_ready (rs := [4]) (by kernel_rfl) (by simp) ?_
    refine AllReadyH.cons rfl (fun K hK => ?_) AllReadyH.nil
    go_simp
    (go_at_call 81; refine (HS7.out.call1 CX.out).mono ?_; rintro e w8 ⟨J, ⟨k2, p2, n2, nm2, v2, es2, rfl, rfl, hx2, h12⟩, hs⟩; simp only [List.cons_append, List.nil_append] at hs; have HX2 := Lib.hid hx2; obtain ⟨q2, l2, cap2, rfl⟩ := hs.lsLen 1 rfl; have HS8 := Lib.hid hs; clear hs hx2)
    refine hK.out _ _ (HS8.out.cell 3 rfl 1) (fun hHeld => ?_)
    clear hK K
    (try simp only [Act.put, List.setIfInBounds_toArray, List.set_cons_zero, List.set_cons_succ, List.getElem_toArray, List.getElem_cons_succ, List.getElem_cons_zero])
    refine wpAnyH_ready (rs := [5]) (by kernel_rfl) (by simp) ?_
    refine AllReadyH.cons rfl (fun K hK => ?_) AllReadyH.nil
    (refine wp_slice HS8.out rfl Tryd.underlying40 (exB _ _ _ _ _) ?_; intro b9 w9 hs; have HS9 := Lib.hid (show St _ _ _ (_ :: _ :: _ :: _ :: _ :: _ :: []) from hs.out); clear hs)
    refine hK.out _ _ (HS9.out.cell 4 rfl 1) (fun hHeld => ?_)
    clear hK K
    (try simp only [Act.put, List.setIfInBounds_toArray, List.set_cons_zero, List.set_cons_succ, List.getElem_toArray, List.getElem_cons_succ, List.getElem_cons_zero])
    refine wpAnyH_take (i := 6) (v := ?_) rfl (by kernel_rfl) (by kernel_rfl) (by kernel_rfl) (fun _ _ _ h => h) (Or.inl ⟨by rfl, ?_⟩) (by assumption) ?_
    rotate_left
    · intro w hSw
      (try dsimp only at hSw)
      go_simp
      (try with_reducible rfl)
    (try simp only [Act.put, List.setIfInBounds_toArray, List.set_cons_zero, List.set_cons_succ, List.getElem_toArray, List.getElem_cons_succ, List.getElem_cons_zero])
    refine wpAnyH_ready (rs := [8]) (by kernel_rfl) (by simp) ?_
    refine AllReadyH.cons rfl (fun K hK => ?_) AllReadyH.nil
    (have HT0 := Lib.hid (HS9.out.sel [0, 2, 0, 0, 0, 0] rfl); refine wp_storeS HT0.out 1 ⟨rfl, rfl⟩ rfl exT rfl fitsX' ?_; intro w10 hs; have HS10 := Lib.hid (show St _ _ _ (_ :: _ :: _ :: _ :: _ :: _ :: []) from hs.out); clear hs HT0)
    refine hK.out _ _ (HS10.out.cell 4 rfl 1) (fun hHeld => ?_)
    clear hK K
    (try simp only [Act.put, List.setIfInBounds_toArray, List.set_cons_zero, List.set_cons_succ, List.getElem_toArray, List.getElem_cons_succ, List.getElem_cons_zero])
    refine wpAnyH_done (by kernel_rfl) ?_ _
    obtain ⟨a2, cap2', c2, m2, e2, pp2, hr, hs3⟩ := HS10.out.rdOpen
    have HR2 := Lib.hid hr
    have HO2 := Lib.hid hs3
    clear hs3 hr
    go_wp2_with (first
      | (refine wpl_load HO2.out 0 rfl rfl intO rfl ?_)
      | (refine wpl_store HO2.out 0 rfl rfl intO (of_decide_eq_true rfl) rfl ?_; intro w11 hs5; have HS11 := Lib.hid (show St _ _ _ (.row b 50 (rdC a2 cap2' L c2 (wrap64 (m2 - 1)) e2 pp2) :: .hp (toksHp a2 L) :: _ :: _ :: _ :: _ :: _ :: []) from hs5.out); clear hs5)
      | (refine wpl_loadS HS11.out 2 rfl rfl exT rfl ?_)
      | (refine wpl_storeS HS11.out 6 rfl rfl exT rfl fitsX' ?_; intro w12 hs; have HS12 := Lib.hid (show St _ _ _ (_ :: _ :: _ :: _ :: _ :: _ :: _ :: []) from hs.out); clear hs))
    exact bp_cell HS12.out 6 exT rfl rfl rfl rfl rfl ⟨_, ⟨_, _, 0, [], _, [.mk k2 p2 n2 nm2 es2], rfl, rfl, fun h => congrArg (fun z => Sx.E.mk KD (Sx.pk L σ).pos 0 [] [z]) (HX2.out h), rfl⟩, St.rdClose (rd_less HR2.out HW.out) ((St.sel HS12.out [0, 0, 1, 1] rfl).to fun P h => h.under fun P h => h.under fun P h => lsI_one h)⟩
theorem exprs_U (b : Nat) (L : List Lx.Tok) (hL : Sx.Ok L) (n : Nat) : ∀ σ, Sx.M L σ ≤ n → CU b L σ := by
  induction n with
  | zero =>
    intro σ hn
    have hlow : ∀ τ, Sx.M L τ + 16 ≤ Sx.M L σ → CE b L τ := fun τ h => by omega
    have hlow2 : ∀ τ, Sx.M L τ + 16 ≤ Sx.M L σ → CU b L τ := fun τ h => by omega
    by_cases he : σ.err = 0
    · by_cases hk : Sx.aheadK (Sx.text L σ) = 0
      · exact unary_no b L hL σ (fun _ => hk) hlow
      · exact unary_sign b L hL σ he hk hlow2
    · exact unary_no b L hL σ (fun h => absurd h he) hlow
  | succ n ih =>
    intro σ hn
    have h8 : ∀ τ, Sx.M L τ ≤ n → CC b L 8 7 τ := fun τ h => chain_eight b L hL τ (ih τ h)
    have step : ∀ (m : Nat) (z : Int), 2 ≤ m → m ≤ 7 → z = m → (∀ τ, Sx.M L τ ≤ n → CC b L ((m : Int) + 1) m τ) → ∀ τ, Sx.M L τ ≤ n → CC b L z (m - 1) τ := fun m z h2 h7 hz h τ hτ => chain_fn b L hL τ m h2 h7 z hz (fun ρ hρ => h ρ (Nat.le_trans hρ hτ))
    have h7 := step 7 7 (by decide) (by decide) rfl h8
    have h6 := step 6 6 (by decide) (by decide) rfl h7
    have h5 := step 5 5 (by decide) (by decide) rfl h6
    have h4 := step 4 4 (by decide) (by decide) rfl h5
    have h3 := step 3 3 (by decide) (by decide) rfl h4
    have h2 := step 2 2 (by decide) (by decide) rfl h3
    have hE : ∀ τ, Sx.M L τ + 16 ≤ Sx.M L σ → CE b L τ := fun τ h => expr_fn b L hL τ (fun ρ hρ => h2 ρ (by omega))
    by_cases he : σ.err = 0
    · by_cases hk : Sx.aheadK (Sx.text L σ) = 0
      · exact unary_no b L hL σ (fun _ => hk) hE
      · exact unary_sign b L hL σ he hk (fun τ h => ih τ (by omega))
    · exact unary_no b L hL σ (fun h => absurd h he) hE
/-- what the program's expr makes, of any state -/
theorem expr_any (b : Nat) (L : List Lx.Tok) (hL : Sx.Ok L) (σ : Sx.R) : CE b L σ := by
  have h8 : ∀ τ, CC b L 8 7 τ := fun τ => chain_eight b L hL τ (exprs_U b L hL _ τ (Nat.le_refl _))
  have step : ∀ (m : Nat) (z : Int), 2 ≤ m → m ≤ 7 → z = m → (∀ τ, CC b L ((m : Int) + 1) m τ) → ∀ τ, CC b L z (m - 1) τ := fun m z h2 h7 hz h τ => chain_fn b L hL τ m h2 h7 z hz (fun ρ _ => h ρ)
  have h7 := step 7 7 (by decide) (by decide) rfl h8
  have h6 := step 6 6 (by decide) (by decide) rfl h7
  have h5 := step 5 5 (by decide) (by decide) rfl h6
  have h4 := step 4 4 (by decide) (by decide) rfl h5
  have h3 := step 3 3 (by decide) (by decide) rfl h4
  have h2 := step 2 2 (by decide) (by decide) rfl h3
  exact expr_fn b L hL σ (fun ρ _ => h2 ρ)
end Go.Proofs.YtbnhegipdfkdgaaDoor
