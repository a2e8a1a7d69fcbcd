/-
What no sign stands ahead of, signs ahead, and so all of expressions.
Signs ahead of an expression, and all of expressions by induction.
-/
import Derived.Test.YtjfdcnggnldgdaaGreatDoorP24a
import Derived.Test.YtjfdcnggnldgdaaGreatDoorP27b
section
namespace Go.Proofs.YtjfdcnggnldgdaaGreatDoor
open Go.ChangeShapes Go.WideShapes Go.ChangeAt Go.RowKit
set_option linter.unusedVariables false
set_option linter.unusedSimpArgs false

theorem Sx.text_kind2 {L : List Lx.Tok} {σ : Sx.R} (h : (Sx.tk L σ).kind = 2 ∨ (Sx.tk L σ).kind = 1 ∨ (Sx.tk L σ).kind = 0) : Sx.text L σ = [] := by
  unfold Sx.text
  rw [if_neg (by rcases h with h | h | h <;> rw [h] <;> decide)]
theorem Sx.ahead_no {s : List UInt8} (h : Sx.aheadK s = 0) : ¬ (s = [126] ∨ s = [45] ∨ s = [33]) := by
  rintro (rfl | rfl | rfl) <;> exact absurd h (by decide)
theorem Sx.ahead_is {s : List UInt8} (h : Sx.aheadK s ≠ 0) : s = [126] ∨ s = [45] ∨ s = [33] := by
  unfold Sx.aheadK at h
  split at h
  · rename_i h1; exact Or.inl h1
  · split at h
    · rename_i h1; exact Or.inr (Or.inl h1)
    · split at h
      · rename_i h1; exact Or.inr (Or.inr h1)
      · exact absurd rfl h
theorem Sx.wordsE_some {s : List UInt8} {x : List UInt8 × Int × Nat} (h : Sx.wordsE.find? (fun x => x.1 == s) = .some x) : s ∈ [Sx.wMulhi, Sx.wCarry, Sx.wSelect, Sx.wWord, Sx.wRor] := by
  have h1 := List.mem_of_find?_eq_some h
  have h2 : x.1 = s := by simpa using List.find?_some h
  have h3 : ∀ x ∈ Sx.wordsE, x.1 ∈ [Sx.wMulhi, Sx.wCarry, Sx.wSelect, Sx.wWord, Sx.wRor] := by decide
  rw [← h2]; exact h3 x h1
theorem called_any (b : Nat) (L : List Lx.Tok) (hL : Sx.Ok L) (σ : Sx.R) (hat : σ.at' < L.length) (hk2 : (Sx.pk L σ).kind ≠ 2) (hk1 : (Sx.pk L σ).kind ≠ 1) (hpar : Sx.sees L [40] σ = false) (hah : σ.err = 0 → Sx.aheadK (Sx.text L σ) = 0) (hE : ∀ τ, Sx.M L τ + 16 ≤ Sx.M L σ → CE b L τ) :
    Fn 291 #[.pointer (some ⟨b, 0, none⟩)] [rd b L σ] (EP b L (Sx.U L σ)) := by
  by_cases he : σ.err = 0
  · have hn40 : Sx.text L σ ≠ [40] := fun h => by
      have : Sx.sees L [40] σ = true := by unfold Sx.sees; simp [he, h]
      rw [this] at hpar; cases hpar
    rw [Sx.U_word hL.ends hat he hn40 (Sx.ahead_no (hah he))]
    rw [Sx.pk_tk he] at hk2 hk1
    by_cases h1 : Sx.sees L Sx.wMulhi σ = true
    · exact called_mulhi b L hL σ hE h1
    by_cases h2 : Sx.sees L Sx.wCarry σ = true
    · exact called_carry b L hL σ hE h2
    by_cases h3 : Sx.sees L Sx.wSelect σ = true
    · exact called_select b L hL σ hE h3
    by_cases h4 : Sx.sees L Sx.wWord σ = true
    · exact called_word b L hL σ hE h4
    by_cases h5 : Sx.sees L Sx.wRor σ = true
    · exact called_ror b L hL σ hE h5
    have hno : ∀ s, s ∈ [Sx.wMulhi, Sx.wCarry, Sx.wSelect, Sx.wWord, Sx.wRor] → Sx.sees L s σ = false := by
      intro s hs
      simp only [List.mem_cons, List.not_mem_nil, or_false] at hs
      rcases hs with rfl | rfl | rfl | rfl | rfl
      · simpa using h1
      · simpa using h2
      · simpa using h3
      · simpa using h4
      · simpa using h5
    refine called_no b L hL σ hno _ ?_
    have hw : Sx.wordsE.find? (fun x => x.1 == Sx.text L σ) = none := by
      cases hf : Sx.wordsE.find? (fun x => x.1 == Sx.text L σ) with
      | none => rfl
      | some x =>
        have h6 := hno _ (Sx.wordsE_some hf)
        unfold Sx.sees at h6
        simp [he] at h6
    rw [Sx.W_name hL.ends hat he hw hk2]
    have hs1 : Sx.some L 1 σ = (Sx.noTok, Sx.wrong L 10 σ) := by
      unfold Sx.some
      rw [if_neg (by simpa using he), if_pos hk1]
    have hwe : (Sx.wrong L 10 σ).err ≠ 0 := Sx.wrong_err (by decide)
    have hwa := (Sx.le_wrong L 10 σ (Or.inl rfl)).2.2.1 hat
    rw [hs1, Sx.Bh_bare hL.ends _ hwa (Sx.sees_err hwe) (Sx.sees_err hwe)]
  · rw [Sx.U_err hL.ends hat he]
    exact called_no b L hL σ (fun s _ => Sx.sees_err he) _ (Sx.wrong_no he).symm
set_option maxHeartbeats 8000000 in
set_option maxRecDepth 100000 in
theorem primary_num (b : Nat) (L : List Lx.Tok) (hL : Sx.Ok L) (σ : Sx.R) (hah : σ.err = 0 → Sx.aheadK (Sx.text L σ) = 0) (hE : ∀ τ, Sx.M L τ + 16 ≤ Sx.M L σ → CE b L τ) (hk : (Sx.pk L σ).kind = 2) : Fn 287 #[.pointer (some ⟨b, 0, none⟩)] [rd b L σ] (EP b L (Sx.U L σ)) := by
  intro w P hP h0
  have HS := Lib.hid (St.start hP h0)
  have hat := HS.out.at'
  obtain ⟨he, hso⟩ := Sx.some_is hL hat (by decide) hk
  have hk2 : (Sx.tk L σ).kind = 2 := by rw [← Sx.pk_tk he]; exact hk
  have htx := Sx.text_kind2 (Or.inl hk2)
  have hU : Sx.U L σ = (.mk 1 (Sx.pk L σ).pos (Sx.pk L σ).num [] [], { σ with at' := σ.at' + 1 }) := by
    rw [Sx.U_word hL.ends hat he (by rw [htx]; decide) (by rw [htx]; decide), Sx.W_num hL.ends hat he (by rw [htx]; decide) hk2, Sx.pk_tk he]
  rw [hU]
  have C1 := Lib.hid (next_fn b L σ)
  have C2 := Lib.hid (take_fn b L hL σ 2 (by decide))
  rw [hso] at C2
  rw [hk] at C1
  simp only [] at C2
  have hF2 := tokF2
  clear h0 hP hL hE hat he hso hk2 htx hU hah hk
  go_enter Tryz.func287, Tryz.ntmps287
  go_wp2_with (first
    | (first | (refine wpl_alloc HS.out _ rfl exZ ?_; intro b1 w1 HS1; clear HS) | (refine wpl_alloc HS2.out _ rfl tokZ ?_; intro b3 w3 HS3; clear HS2))
    | (go_at_call 61; refine (HS1.out.call1 C1.out).mono ?_; rintro e w2 ⟨J, ⟨rfl, rfl⟩, hs⟩; simp only [List.cons_append, List.nil_append] at hs; have HS2 := Lib.hid hs; clear hs; clear HS1)
    | (refine wpl_storeS HS3.out 1 rfl rfl tokT rfl (fitsT _ _ _ _) ?_; intro w4 hs; have HS4 := Lib.hid (show St _ _ _ (_ :: _ :: _ :: []) from hs.out); clear hs HS3)
    | (refine wpl_load HS4.out 1 rfl rfl intO rfl ?_))
  refine wp_region_held_drew (S := fun w' => w'.cell? ⟨b3, 1, none⟩ = some (.int .i64 (Sx.pk L σ).pos)) (by kernel_rfl) (HS4.out.drew.cell 1 rfl 1) (fun hHeld => ?_)
  refine tkH 0 ?_
  refine tkH 1 ?_
  refine tkH 2 ?_
  refine wpAnyH_ready (rs := [3]) (by kernel_rfl) (by simp) ?_
  refine AllReadyH.cons rfl (fun K hK => ?_) AllReadyH.nil
  go_simp
  (go_at_call 118; refine (HS4.out.drew.call1 C2.out).mono ?_; rintro e w5 ⟨J, ⟨rfl, rfl⟩, hs⟩; simp only [List.cons_append, List.nil_append] at hs; have HS5 := Lib.hid hs; clear hs)
  refine hK.out _ _ (HS5.out.cell 1 rfl 1) (fun hHeld => ?_)
  clear hK K
  (try simp only [Act.put, List.setIfInBounds_toArray, List.set_cons_zero, List.set_cons_succ, List.getElem_toArray, List.getElem_cons_succ, List.getElem_cons_zero])
  refine tkH 4 ?_
  refine tkH 5 ?_
  refine wpAnyH_ready (rs := [6]) (by kernel_rfl) (by simp) ?_
  refine AllReadyH.cons rfl (fun K hK => ?_) AllReadyH.nil
  (refine wp_storeS HS5.out 2 ⟨rfl, rfl⟩ rfl exT rfl fitsX' ?_; intro w6 hs; have HS6 := Lib.hid (show St _ _ _ (_ :: _ :: _ :: []) from hs.out); clear hs)
  refine hK.out _ _ (HS6.out.cell 1 rfl 1) (fun hHeld => ?_)
  clear hK K
  (try simp only [Act.put, List.setIfInBounds_toArray, List.set_cons_zero, List.set_cons_succ, List.getElem_toArray, List.getElem_cons_succ, List.getElem_cons_zero])
  refine wpAnyH_done (by kernel_rfl) ?_ _
  try go_wp2
  exact bp_cell HS6.out 2 exT rfl rfl rfl rfl rfl ⟨_, ⟨1, _, _, [], _, [], rfl, rfl, fun _ => rfl, rfl⟩, (St.sel HS6.out [0] rfl).to fun P h => h.under fun P h => lsI_nil h⟩
set_option maxHeartbeats 8000000 in
set_option maxRecDepth 100000 in
theorem primary_name (b : Nat) (L : List Lx.Tok) (hL : Sx.Ok L) (σ : Sx.R) (hah : σ.err = 0 → Sx.aheadK (Sx.text L σ) = 0) (hE : ∀ τ, Sx.M L τ + 16 ≤ Sx.M L σ → CE b L τ) (hk : (Sx.pk L σ).kind = 1) : Fn 287 #[.pointer (some ⟨b, 0, none⟩)] [rd b L σ] (EP b L (Sx.U L σ)) := by
  intro w P hP h0
  have HS := Lib.hid (St.start hP h0)
  have hat := HS.out.at'
  obtain ⟨he, hso⟩ := Sx.some_is hL hat (by decide) hk
  have hk2 : (Sx.tk L σ).kind = 1 := by rw [← Sx.pk_tk he]; exact hk
  have htx := Sx.text_kind2 (Or.inr (Or.inl hk2))
  rw [Sx.U_word hL.ends hat he (by rw [htx]; decide) (by rw [htx]; decide), Sx.W_name hL.ends hat he (by rw [htx]; decide) (by rw [hk2]; decide)]
  have C1 := Lib.hid (next_fn b L σ)
  rw [hk] at C1
  have CX := Lib.hid (known_fn b L hL σ (fun τ h => hE τ (by have := Sx.M_some (L := L) (k := 1) he hat; omega)))
  clear h0 hP hL hE hat he hso hk2 htx hah hk
  go_enter Tryz.func287, Tryz.ntmps287
  go_wp2_with (first
    | (first | (refine wpl_alloc HS.out _ rfl exZ ?_; intro b1 w1 HS1; clear HS) | (refine wpl_alloc HS2.out _ rfl tokZ ?_; intro b3 w3 HS3; clear HS2))
    | (go_at_call 61; refine (HS1.out.call1 C1.out).mono ?_; rintro e w2 ⟨J, ⟨rfl, rfl⟩, hs⟩; simp only [List.cons_append, List.nil_append] at hs; have HS2 := Lib.hid hs; clear hs; clear HS1)
    | (refine wpl_storeS HS3.out 1 rfl rfl tokT rfl (fitsT _ _ _ _) ?_; intro w4 hs; have HS4 := Lib.hid (show St _ _ _ (_ :: _ :: _ :: []) from hs.out); clear hs HS3)
    | (refine wpl_load HS4.out 1 rfl rfl intO rfl ?_)
    | (go_at_call 290; refine (HS4.out.call1 CX.out).mono ?_; rintro e w5 ⟨J, ⟨k2, p2, n2, nm2, v2, es2, rfl, rfl, hx2, h12⟩, hs⟩; simp only [List.cons_append, List.nil_append] at hs; have HX2 := Lib.hid hx2; obtain ⟨q2, l2, cap2, rfl⟩ := hs.lsLen 1 rfl; have HS5 := Lib.hid hs; clear hs hx2; clear HS4)
    | (refine wpl_storeS HS5.out 3 rfl rfl exT rfl fitsX' ?_; intro w6 hs; have HS6 := Lib.hid (show St _ _ _ (_ :: _ :: _ :: _ :: []) from hs.out); clear hs HS5))
  exact bp_cell HS6.out 3 exT rfl rfl rfl rfl rfl ⟨_, ⟨k2, p2, n2, nm2, _, es2, rfl, rfl, HX2.out, rfl⟩, HS6.out.sel [0, 0] rfl⟩
set_option maxHeartbeats 8000000 in
set_option maxRecDepth 100000 in
theorem primary_par (b : Nat) (L : List Lx.Tok) (hL : Sx.Ok L) (σ : Sx.R) (hah : σ.err = 0 → Sx.aheadK (Sx.text L σ) = 0) (hE : ∀ τ, Sx.M L τ + 16 ≤ Sx.M L σ → CE b L τ) (hse : Sx.sees L [40] σ = true) : Fn 287 #[.pointer (some ⟨b, 0, none⟩)] [rd b L σ] (EP b L (Sx.U L σ)) := by
  intro w P hP h0
  have HS := Lib.hid (St.start hP h0)
  have hat := HS.out.at'
  obtain ⟨he, htx⟩ := Sx.sees_text hse
  rw [Sx.U_par hL.ends hat hse]
  have hkk : (Sx.pk L σ).kind ≠ 2 ∧ (Sx.pk L σ).kind ≠ 1 := by
    rw [Sx.pk_tk he]
    constructor
    · intro h; rw [Sx.text_kind2 (Or.inl h)] at htx; cases htx
    · intro h; rw [Sx.text_kind2 (Or.inr (Or.inl h))] at htx; cases htx
  obtain ⟨hk2, hk1⟩ := hkk
  have C1 := Lib.hid (next_fn b L σ)
  have C2 := Lib.hid (is_fn b L hL σ [40] (by decide))
  rw [hse] at C2
  have C3 := Lib.hid (open_fn b L hL σ [40] (by decide))
  have CX := Lib.hid (hE (Sx.nest L [40] σ) (Sx.M_nest he hat))
  have ho0 := HS.out.opn0
  have hop : (Sx.nest L [40] σ).opn = σ.opn + 1 := Sx.op_nest L [40] σ
  have C4 := Lib.hid (shut_fn b L hL (Sx.X L 0 (Sx.nest L [40] σ)).2 [41] (by decide) (fun h => by
    have := ho0 he
    rw [Sx.op_X, hop]; omega))
  clear h0 hP hL hE hat he htx hah hse ho0 hop
  go_enter Tryz.func287, Tryz.ntmps287
  go_wp2_with (first
    | (first | (refine wpl_alloc HS.out _ rfl exZ ?_; intro b1 w1 HS1; clear HS) | (refine wpl_alloc HS2.out _ rfl tokZ ?_; intro b3 w3 HS3; clear HS2) | (refine wpl_alloc HS7.out _ rfl exZ ?_; intro b8 w8 HS8; clear HS7))
    | (go_at_call 61; refine (HS1.out.call1 C1.out).mono ?_; rintro e w2 ⟨J, ⟨rfl, rfl⟩, hs⟩; simp only [List.cons_append, List.nil_append] at hs; have HS2 := Lib.hid hs; clear hs; clear HS1)
    | (refine wpl_storeS HS3.out 1 rfl rfl tokT rfl (fitsT _ _ _ _) ?_; intro w4 hs; have HS4 := Lib.hid (show St _ _ _ (_ :: _ :: _ :: []) from hs.out); clear hs HS3)
    | (refine wpl_load HS4.out 1 rfl rfl intO rfl ?_)
    | (go_at_call 180; refine (HS4.out.call1 C2.out).mono ?_; rintro e w5 ⟨J, ⟨rfl, rfl⟩, hs⟩; simp only [List.cons_append, List.nil_append] at hs; have HS5 := Lib.hid hs; clear hs; clear HS4)
    | (go_at_call 179; refine (HS5.out.call1 C3.out).mono ?_; rintro e w6 ⟨J, ⟨rfl, rfl⟩, hs⟩; simp only [List.cons_append, List.nil_append] at hs; have HS6 := Lib.hid hs; clear hs; clear HS5)
    | (go_at_call 243; refine (HS6.out.call1 CX.out).mono ?_; rintro e w7 ⟨J, ⟨k2, p2, n2, nm2, v2, es2, rfl, rfl, hx2, h12⟩, hs⟩; simp only [List.cons_append, List.nil_append] at hs; have HX2 := Lib.hid hx2; obtain ⟨q2, l2, cap2, rfl⟩ := hs.lsLen 1 rfl; have HS7 := Lib.hid hs; clear hs hx2; clear HS6)
    | (first | (refine wpl_storeS HS8.out 1 rfl rfl exT rfl fitsX' ?_; intro w9 hs; have HS9 := Lib.hid (show St _ _ _ (_ :: _ :: _ :: _ :: _ :: []) from hs.out); clear hs HS8) | (refine wpl_storeS HS10.out 4 rfl rfl exT rfl fitsX' ?_; intro w11 hs; have HS11 := Lib.hid (show St _ _ _ (_ :: _ :: _ :: _ :: _ :: []) from hs.out); clear hs HS10))
    | (go_at_call 181; refine (HS9.out.call1 C4.out).mono ?_; rintro e w10 ⟨J, ⟨rfl, rfl⟩, hs⟩; simp only [List.cons_append, List.nil_append] at hs; have HS10 := Lib.hid hs; clear hs; clear HS9)
    | (refine wpl_loadS HS10.out 1 rfl rfl exT rfl ?_))
  exact bp_cell HS11.out 4 exT rfl rfl rfl rfl rfl ⟨_, ⟨k2, p2, n2, nm2, _, es2, rfl, rfl, fun h => HX2.out (Sx.unnest_err h), rfl⟩, HS11.out.sel [0, 1] rfl⟩
set_option maxHeartbeats 8000000 in
set_option maxRecDepth 100000 in
theorem primary_called (b : Nat) (L : List Lx.Tok) (hL : Sx.Ok L) (σ : Sx.R) (hah : σ.err = 0 → Sx.aheadK (Sx.text L σ) = 0) (hE : ∀ τ, Sx.M L τ + 16 ≤ Sx.M L σ → CE b L τ) (hk2 : (Sx.pk L σ).kind ≠ 2) (hk1 : (Sx.pk L σ).kind ≠ 1) (hse : Sx.sees L [40] σ = false) : Fn 287 #[.pointer (some ⟨b, 0, none⟩)] [rd b L σ] (EP b L (Sx.U L σ)) := by
  intro w P hP h0
  have HS := Lib.hid (St.start hP h0)
  have hat := HS.out.at'
  have C1 := Lib.hid (next_fn b L σ)
  have C2 := Lib.hid (is_fn b L hL σ [40] (by decide))
  rw [hse] at C2
  have CX := Lib.hid (called_any b L hL σ hat hk2 hk1 hse hah hE)
  clear h0 hP hL hE hat hah hse
  go_enter Tryz.func287, Tryz.ntmps287
  go_wp2_with (first
    | (first | (refine wpl_alloc HS.out _ rfl exZ ?_; intro b1 w1 HS1; clear HS) | (refine wpl_alloc HS2.out _ rfl tokZ ?_; intro b3 w3 HS3; clear HS2))
    | (go_at_call 61; refine (HS1.out.call1 C1.out).mono ?_; rintro e w2 ⟨J, ⟨rfl, rfl⟩, hs⟩; simp only [List.cons_append, List.nil_append] at hs; have HS2 := Lib.hid hs; clear hs; clear HS1)
    | (refine wpl_storeS HS3.out 1 rfl rfl tokT rfl (fitsT _ _ _ _) ?_; intro w4 hs; have HS4 := Lib.hid (show St _ _ _ (_ :: _ :: _ :: []) from hs.out); clear hs HS3)
    | (refine wpl_load HS4.out 1 rfl rfl intO rfl ?_)
    | (go_at_call 180; refine (HS4.out.call1 C2.out).mono ?_; rintro e w5 ⟨J, ⟨rfl, rfl⟩, hs⟩; simp only [List.cons_append, List.nil_append] at hs; have HS5 := Lib.hid hs; clear hs; clear HS4)
    | (go_at_call 291; refine (HS5.out.call1 CX.out).mono ?_; rintro e w6 ⟨J, ⟨k2, p2, n2, nm2, v2, es2, rfl, rfl, hx2, h12⟩, hs⟩; simp only [List.cons_append, List.nil_append] at hs; have HX2 := Lib.hid hx2; obtain ⟨q2, l2, cap2, rfl⟩ := hs.lsLen 1 rfl; have HS6 := Lib.hid hs; clear hs hx2; clear HS5)
    | (refine wpl_storeS HS6.out 3 rfl rfl exT rfl fitsX' ?_; intro w7 hs; have HS7 := Lib.hid (show St _ _ _ (_ :: _ :: _ :: _ :: []) from hs.out); clear hs HS6))
  exact bp_cell HS7.out 3 exT rfl rfl rfl rfl rfl ⟨_, ⟨k2, p2, n2, nm2, _, es2, rfl, rfl, HX2.out, rfl⟩, HS7.out.sel [0, 0] rfl⟩
theorem primary_fn (b : Nat) (L : List Lx.Tok) (hL : Sx.Ok L) (σ : Sx.R) (hah : σ.err = 0 → Sx.aheadK (Sx.text L σ) = 0) (hE : ∀ τ, Sx.M L τ + 16 ≤ Sx.M L σ → CE b L τ) : Fn 287 #[.pointer (some ⟨b, 0, none⟩)] [rd b L σ] (EP b L (Sx.U L σ)) := by
  by_cases h2 : (Sx.pk L σ).kind = 2
  · exact primary_num b L hL σ hah hE h2
  by_cases h1 : (Sx.pk L σ).kind = 1
  · exact primary_name b L hL σ hah hE h1
  cases hs : Sx.sees L [40] σ
  · exact primary_called b L hL σ hah hE h2 h1 hs
  · exact primary_par b L hL σ hah hE hs
end Go.Proofs.YtjfdcnggnldgdaaGreatDoor
end
section
namespace Go.Proofs.YtjfdcnggnldgdaaGreatDoor
open Go.ChangeShapes Go.WideShapes Go.ChangeAt Go.RowKit
set_option linter.unusedVariables false
set_option linter.unusedSimpArgs false

set_option maxHeartbeats 8000000 in
set_option maxRecDepth 100000 in
theorem unary_no (b : Nat) (L : List Lx.Tok) (hL : Sx.Ok L) (σ : Sx.R) (hah : σ.err = 0 → Sx.aheadK (Sx.text L σ) = 0) (hE : ∀ τ, Sx.M L τ + 16 ≤ Sx.M L σ → CE b L τ) : CU b L σ := by
  intro w P hP h0
  have HS := Lib.hid (St.start hP h0)
  have hat := HS.out.at'
  have C1 := Lib.hid (next_fn b L σ)
  have CA := Lib.hid (fun w => ahead_any (Sx.pk L σ).text w)
  have hk : Sx.aheadK (Sx.pk L σ).text = 0 := by
    rw [Sx.pk_ahead hL hat]
    split
    · rename_i he; exact hah he
    · rfl
  rw [hk] at CA
  have CX := Lib.hid (primary_fn b L hL σ hah hE)
  clear h0 hP hL hE hat hah hk
  go_enter Tryz.func279, Tryz.ntmps279
  go_wp2_with (first
    | (first | (refine wpl_alloc HS.out _ rfl exZ ?_; intro b1 w1 HS1; clear HS) | (refine wpl_alloc HS2.out _ rfl tokZ ?_; intro b3 w3 HS3; clear HS2))
    | (go_at_call 61; refine (HS1.out.call1 C1.out).mono ?_; rintro e w2 ⟨J, ⟨rfl, rfl⟩, hs⟩; simp only [List.cons_append, List.nil_append] at hs; have HS2 := Lib.hid hs; clear hs; clear HS1)
    | (refine wpl_storeS HS3.out 1 rfl rfl tokT rfl (fitsT _ _ _ _) ?_; intro w4 hs; have HS4 := Lib.hid (show St _ _ _ (_ :: _ :: _ :: []) from hs.out); clear hs HS3)
    | (go_at_call 286; refine (CA.out _).mono ?_; rintro e w5 ⟨rfl, rfl⟩)
    | (refine wpl_load HS4.out 1 rfl rfl strO rfl ?_)
    | (go_at_call 287; refine (HS4.out.call1 CX.out).mono ?_; rintro e w6 ⟨J, ⟨k2, p2, n2, nm2, v2, es2, rfl, rfl, hx2, h12⟩, hs⟩; simp only [List.cons_append, List.nil_append] at hs; have HX2 := Lib.hid hx2; obtain ⟨q2, l2, cap2, rfl⟩ := hs.lsLen 1 rfl; have HS6 := Lib.hid hs; clear hs hx2; clear HS4)
    | (refine wpl_storeS HS6.out 3 rfl rfl exT rfl fitsX' ?_; intro w7 hs; have HS7 := Lib.hid (show St _ _ _ (_ :: _ :: _ :: _ :: []) from hs.out); clear hs HS6))
  exact bp_cell HS7.out 3 exT rfl rfl rfl rfl rfl ⟨_, ⟨k2, p2, n2, nm2, _, es2, rfl, rfl, HX2.out, rfl⟩, HS7.out.sel [0, 0] rfl⟩
set_option maxHeartbeats 8000000 in
set_option maxRecDepth 100000 in
theorem unary_sign (b : Nat) (L : List Lx.Tok) (hL : Sx.Ok L) (σ : Sx.R) (he : σ.err = 0) (hah : Sx.aheadK (Sx.text L σ) ≠ 0) (hU : ∀ τ, Sx.M L τ + 16 ≤ Sx.M L σ → CU b L τ) : CU b L σ := by
  intro w P hP h0
  have HS := Lib.hid (St.start hP h0)
  have hat := HS.out.at'
  have C1 := Lib.hid (next_fn b L σ)
  have CA := Lib.hid (fun w => ahead_any (Sx.pk L σ).text w)
  have hsg := Sx.ahead_is hah
  have hne : Sx.text L σ ≠ [] := by rcases hsg with h | h | h <;> rw [h] <;> decide
  have hpt := Sx.pk_text hL hat he hne
  have hkw : Sx.kw (Sx.pk L σ).text = true := by rw [hpt]; rcases hsg with h | h | h <;> rw [h] <;> decide
  have hpk := Sx.pk_tk (L := L) he
  have C3 := Lib.hid (open_fn b L hL σ (Sx.pk L σ).text hkw)
  have CX := Lib.hid (hU (Sx.nest L (Sx.pk L σ).text σ) (Sx.M_nest he hat))
  have ho0 := HS.out.opn0 he
  have hop : (Sx.nest L (Sx.pk L σ).text σ).opn = σ.opn + 1 := Sx.op_nest L _ σ
  have hopu : (Sx.U L (Sx.nest L (Sx.pk L σ).text σ)).2.opn = σ.opn + 1 := ((Sx.op_exprs L _).2.2.1 _).trans hop
  have hw : (Sx.U L (Sx.nest L (Sx.pk L σ).text σ)).2.err = 0 → 1 ≤ (Sx.U L (Sx.nest L (Sx.pk L σ).text σ)).2.opn := fun _ => by omega
  have hkd : (if Sx.text L σ = [126] then (5 : Int) else if Sx.text L σ = [45] then 6 else 7) = Sx.aheadK (Sx.pk L σ).text := by
    rw [hpt]; rcases hsg with h | h | h <;> rw [h] <;> decide
  have hU := Sx.U_sign hL.ends hat he hsg
  rw [hkd, ← hpk, ← hpt] at hU
  have hk0 : ¬ Sx.aheadK (Sx.pk L σ).text = 0 := by rw [hpt]; exact hah
  rw [hU]
  have HW := Lib.hid hw
  generalize Sx.aheadK (Sx.pk L σ).text = KD at CA hk0 ⊢
  clear h0 hP hL hU hat hah hsg hne hpt hkw hpk ho0 hop hopu hw hkd he
  go_enter Tryz.func279, Tryz.ntmps279
  go_wp2_with (first
    | (first | (refine wpl_alloc HS.out _ rfl exZ ?_; intro b1 w1 HS1; clear HS) | (refine wpl_alloc HS2.out _ rfl tokZ ?_; intro b3 w3 HS3; clear HS2))
    | (go_at_call 61; refine (HS1.out.call1 C1.out).mono ?_; rintro e w2 ⟨J, ⟨rfl, rfl⟩, hs⟩; simp only [List.cons_append, List.nil_append] at hs; have HS2 := Lib.hid hs; clear hs; clear HS1)
    | (refine wpl_storeS HS3.out 1 rfl rfl tokT rfl (fitsT _ _ _ _) ?_; intro w4 hs; have HS4 := Lib.hid (show St _ _ _ (_ :: _ :: _ :: []) from hs.out); clear hs HS3)
    | (go_at_call 286; refine (CA.out _).mono ?_; rintro e w5 ⟨rfl, rfl⟩)
    | (refine wpl_load HS4.out 1 rfl rfl strO rfl ?_)
    | (go_at_call 179; refine (HS4.out.call1 C3.out).mono ?_; rintro e w6 ⟨J, ⟨rfl, rfl⟩, hs⟩; simp only [List.cons_append, List.nil_append] at hs; have HS6 := Lib.hid hs; clear hs; clear HS4))
  refine wp_region_held_drew (S := fun w' => w'.cell? ⟨b3, 1, none⟩ = some (.int .i64 (Sx.pk L σ).pos)) (by kernel_rfl) (HS6.out.drew.cell 1 rfl 1) (fun hHeld => ?_)
  refine tkH 0 ?_
  refine tkH 1 ?_
  refine tkH 2 ?_
  refine tkH 3 ?_
  refine wpAnyH_ready (rs := [4, 7]) (by kernel_rfl) (by simp) ?_
  refine AllReadyH.cons rfl (fun K hK => ?_) (AllReadyH.cons rfl (fun K hK => ?_) AllReadyH.nil)
  · go_simp
    (go_at_call 279; refine (HS6.out.drew.call1 CX.out).mono ?_; rintro e w8 ⟨J, ⟨k2, p2, n2, nm2, v2, es2, rfl, rfl, hx2, h12⟩, hs⟩; simp only [List.cons_append, List.nil_append] at hs; have HX2 := Lib.hid hx2; obtain ⟨q2, l2, cap2, rfl⟩ := hs.lsLen 1 rfl; have HS8 := Lib.hid hs; clear hs hx2)
    refine hK.out _ _ (HS8.out.cell 2 rfl 1) (fun hHeld => ?_)
    clear hK K
    (try simp only [Act.put, List.setIfInBounds_toArray, List.set_cons_zero, List.set_cons_succ, List.getElem_toArray, List.getElem_cons_succ, List.getElem_cons_zero])
    refine wpAnyH_ready (rs := [5, 7]) (by kernel_rfl) (by simp) ?_
    refine AllReadyH.cons rfl (fun K hK => ?_) (AllReadyH.cons rfl (fun K hK => ?_) AllReadyH.nil)
    · (refine wp_slice HS8.out rfl Tryz.underlying51 (exB _ _ _ _ _) ?_; intro b9 w9 hs; have HS9 := Lib.hid (show St _ _ _ (_ :: _ :: _ :: _ :: _ :: []) from hs.out); clear hs)
      refine hK.out _ _ (HS9.out.cell 3 rfl 1) (fun hHeld => ?_)
      clear hK K
      (try simp only [Act.put, List.setIfInBounds_toArray, List.set_cons_zero, List.set_cons_succ, List.getElem_toArray, List.getElem_cons_succ, List.getElem_cons_zero])
      refine tkH 6 ?_
      refine wpAnyH_ready (rs := [7]) (by kernel_rfl) (by simp) ?_
      refine AllReadyH.cons rfl (fun K hK => ?_) AllReadyH.nil
      (refine wp_alloc HS9.out _ rfl exZ ?_; intro b5 w7 hs; have HS7 := Lib.hid (show St _ _ _ (_ :: _ :: _ :: _ :: _ :: _ :: []) from hs.out); clear hs)
      refine hK.out _ _ (HS7.out.cell 4 rfl 1) (fun hHeld => ?_)
      clear hK K
      (try simp only [Act.put, List.setIfInBounds_toArray, List.set_cons_zero, List.set_cons_succ, List.getElem_toArray, List.getElem_cons_succ, List.getElem_cons_zero])
      refine wpAnyH_ready (rs := [8]) (by kernel_rfl) (by simp) ?_
      refine AllReadyH.cons rfl (fun K hK => ?_) AllReadyH.nil
      (have HT0 := Lib.hid (HS7.out); refine wp_storeS HT0.out 1 ⟨rfl, rfl⟩ rfl exT rfl fitsX' ?_; intro w10 hs; have HS10 := Lib.hid (show St _ _ _ (_ :: _ :: _ :: _ :: _ :: _ :: []) from hs.out); clear hs HT0)
      refine hK.out _ _ (HS10.out.cell 4 rfl 1) (fun hHeld => ?_)
      clear hK K
      (try simp only [Act.put, List.setIfInBounds_toArray, List.set_cons_zero, List.set_cons_succ, List.getElem_toArray, List.getElem_cons_succ, List.getElem_cons_zero])
      refine wpAnyH_done (by kernel_rfl) ?_ _
      obtain ⟨a2, cap2', c2, m2, e2, pp2, hr, hs3⟩ := HS10.out.rdOpen
      have HR2 := Lib.hid hr
      have HO2 := Lib.hid hs3
      clear hs3 hr
      go_wp2_with (first
        | (refine wpl_load HO2.out 0 rfl rfl intO rfl ?_)
        | (refine wpl_store HO2.out 0 rfl rfl intO (of_decide_eq_true rfl) rfl ?_; intro w11 hs5; have HS11 := Lib.hid (show St _ _ _ (.row b 69 (rdC a2 cap2' L c2 (wrap64 (m2 - 1)) e2 pp2) :: .hp (toksHp a2 L) :: _ :: _ :: _ :: _ :: _ :: []) from hs5.out); clear hs5)
        | (refine wpl_loadS HS11.out 2 rfl rfl exT rfl ?_)
        | (refine wpl_storeS HS11.out 6 rfl rfl exT rfl fitsX' ?_; intro w12 hs; have HS12 := Lib.hid (show St _ _ _ (_ :: _ :: _ :: _ :: _ :: _ :: _ :: []) from hs.out); clear hs))
      exact bp_cell HS12.out 6 exT rfl rfl rfl rfl rfl ⟨_, ⟨_, _, 0, [], _, [.mk k2 p2 n2 nm2 es2], rfl, rfl, fun h => congrArg (fun z => Sx.E.mk KD (Sx.pk L σ).pos 0 [] [z]) (HX2.out h), rfl⟩, St.rdClose (rd_less HR2.out HW.out) ((St.sel HS12.out [0, 0, 1, 1] rfl).to fun P h => h.under fun P h => h.under fun P h => lsI_one h)⟩
    · (refine wp_alloc HS8.out _ rfl exZ ?_; intro b5 w7 hs; have HS7 := Lib.hid (show St _ _ _ (_ :: _ :: _ :: _ :: _ :: []) from hs.out); clear hs)
      refine hK.out _ _ (HS7.out.cell 3 rfl 1) (fun hHeld => ?_)
      clear hK K
      (try simp only [Act.put, List.setIfInBounds_toArray, List.set_cons_zero, List.set_cons_succ, List.getElem_toArray, List.getElem_cons_succ, List.getElem_cons_zero])
      refine wpAnyH_ready (rs := [5]) (by kernel_rfl) (by simp) ?_
      refine AllReadyH.cons rfl (fun K hK => ?_) AllReadyH.nil
      (refine wp_slice HS7.out rfl Tryz.underlying51 (exB _ _ _ _ _) ?_; intro b9 w9 hs; have HS9 := Lib.hid (show St _ _ _ (_ :: _ :: _ :: _ :: _ :: _ :: []) from hs.out); clear hs)
      refine hK.out _ _ (HS9.out.cell 4 rfl 1) (fun hHeld => ?_)
      clear hK K
      (try simp only [Act.put, List.setIfInBounds_toArray, List.set_cons_zero, List.set_cons_succ, List.getElem_toArray, List.getElem_cons_succ, List.getElem_cons_zero])
      refine tkH 6 ?_
      refine wpAnyH_ready (rs := [8]) (by kernel_rfl) (by simp) ?_
      refine AllReadyH.cons rfl (fun K hK => ?_) AllReadyH.nil
      (have HT0 := Lib.hid (HS9.out.sel [0, 1, 0, 0, 0, 0] rfl); refine wp_storeS HT0.out 1 ⟨rfl, rfl⟩ rfl exT rfl fitsX' ?_; intro w10 hs; have HS10 := Lib.hid (show St _ _ _ (_ :: _ :: _ :: _ :: _ :: _ :: []) from hs.out); clear hs HT0)
      refine hK.out _ _ (HS10.out.cell 4 rfl 1) (fun hHeld => ?_)
      clear hK K
      (try simp only [Act.put, List.setIfInBounds_toArray, List.set_cons_zero, List.set_cons_succ, List.getElem_toArray, List.getElem_cons_succ, List.getElem_cons_zero])
      refine wpAnyH_done (by kernel_rfl) ?_ _
      obtain ⟨a2, cap2', c2, m2, e2, pp2, hr, hs3⟩ := HS10.out.rdOpen
      have HR2 := Lib.hid hr
      have HO2 := Lib.hid hs3
      clear hs3 hr
      go_wp2_with (first
        | (refine wpl_load HO2.out 0 rfl rfl intO rfl ?_)
        | (refine wpl_store HO2.out 0 rfl rfl intO (of_decide_eq_true rfl) rfl ?_; intro w11 hs5; have HS11 := Lib.hid (show St _ _ _ (.row b 69 (rdC a2 cap2' L c2 (wrap64 (m2 - 1)) e2 pp2) :: .hp (toksHp a2 L) :: _ :: _ :: _ :: _ :: _ :: []) from hs5.out); clear hs5)
        | (refine wpl_loadS HS11.out 2 rfl rfl exT rfl ?_)
        | (refine wpl_storeS HS11.out 6 rfl rfl exT rfl fitsX' ?_; intro w12 hs; have HS12 := Lib.hid (show St _ _ _ (_ :: _ :: _ :: _ :: _ :: _ :: _ :: []) from hs.out); clear hs))
      exact bp_cell HS12.out 6 exT rfl rfl rfl rfl rfl ⟨_, ⟨_, _, 0, [], _, [.mk k2 p2 n2 nm2 es2], rfl, rfl, fun h => congrArg (fun z => Sx.E.mk KD (Sx.pk L σ).pos 0 [] [z]) (HX2.out h), rfl⟩, St.rdClose (rd_less HR2.out HW.out) ((St.sel HS12.out [0, 0, 1, 1] rfl).to fun P h => h.under fun P h => h.under fun P h => lsI_one h)⟩
  · (refine wp_alloc HS6.out.drew _ rfl exZ ?_; intro b5 w7 hs; have HS7 := Lib.hid (show St _ _ _ (_ :: _ :: _ :: _ :: []) from hs.out); clear hs)
    refine hK.out _ _ (HS7.out.cell 2 rfl 1) (fun hHeld => ?_)
    clear hK K
    (try simp only [Act.put, List.setIfInBounds_toArray, List.set_cons_zero, List.set_cons_succ, List.getElem_toArray, List.getElem_cons_succ, List.getElem_cons_zero])
    refine wpAnyH_ready (rs := [4]) (by kernel_rfl) (by simp) ?_
    refine AllReadyH.cons rfl (fun K hK => ?_) AllReadyH.nil
    go_simp
    (go_at_call 279; refine (HS7.out.call1 CX.out).mono ?_; rintro e w8 ⟨J, ⟨k2, p2, n2, nm2, v2, es2, rfl, rfl, hx2, h12⟩, hs⟩; simp only [List.cons_append, List.nil_append] at hs; have HX2 := Lib.hid hx2; obtain ⟨q2, l2, cap2, rfl⟩ := hs.lsLen 1 rfl; have HS8 := Lib.hid hs; clear hs hx2)
    refine hK.out _ _ (HS8.out.cell 3 rfl 1) (fun hHeld => ?_)
    clear hK K
    (try simp only [Act.put, List.setIfInBounds_toArray, List.set_cons_zero, List.set_cons_succ, List.getElem_toArray, List.getElem_cons_succ, List.getElem_cons_zero])
    refine wpAnyH_ready (rs := [5]) (by kernel_rfl) (by simp) ?_
    refine AllReadyH.cons rfl (fun K hK => ?_) AllReadyH.nil
    (refine wp_slice HS8.out rfl Tryz.underlying51 (exB _ _ _ _ _) ?_; intro b9 w9 hs; have HS9 := Lib.hid (show St _ _ _ (_ :: _ :: _ :: _ :: _ :: _ :: []) from hs.out); clear hs)
    refine hK.out _ _ (HS9.out.cell 4 rfl 1) (fun hHeld => ?_)
    clear hK K
    (try simp only [Act.put, List.setIfInBounds_toArray, List.set_cons_zero, List.set_cons_succ, List.getElem_toArray, List.getElem_cons_succ, List.getElem_cons_zero])
    refine tkH 6 ?_
    refine wpAnyH_ready (rs := [8]) (by kernel_rfl) (by simp) ?_
    refine AllReadyH.cons rfl (fun K hK => ?_) AllReadyH.nil
    (have HT0 := Lib.hid (HS9.out.sel [0, 2, 0, 0, 0, 0] rfl); refine wp_storeS HT0.out 1 ⟨rfl, rfl⟩ rfl exT rfl fitsX' ?_; intro w10 hs; have HS10 := Lib.hid (show St _ _ _ (_ :: _ :: _ :: _ :: _ :: _ :: []) from hs.out); clear hs HT0)
    refine hK.out _ _ (HS10.out.cell 4 rfl 1) (fun hHeld => ?_)
    clear hK K
    (try simp only [Act.put, List.setIfInBounds_toArray, List.set_cons_zero, List.set_cons_succ, List.getElem_toArray, List.getElem_cons_succ, List.getElem_cons_zero])
    refine wpAnyH_done (by kernel_rfl) ?_ _
    obtain ⟨a2, cap2', c2, m2, e2, pp2, hr, hs3⟩ := HS10.out.rdOpen
    have HR2 := Lib.hid hr
    have HO2 := Lib.hid hs3
    clear hs3 hr
    go_wp2_with (first
      | (refine wpl_load HO2.out 0 rfl rfl intO rfl ?_)
      | (refine wpl_store HO2.out 0 rfl rfl intO (of_decide_eq_true rfl) rfl ?_; intro w11 hs5; have HS11 := Lib.hid (show St _ _ _ (.row b 69 (rdC a2 cap2' L c2 (wrap64 (m2 - 1)) e2 pp2) :: .hp (toksHp a2 L) :: _ :: _ :: _ :: _ :: _ :: []) from hs5.out); clear hs5)
      | (refine wpl_loadS HS11.out 2 rfl rfl exT rfl ?_)
      | (refine wpl_storeS HS11.out 6 rfl rfl exT rfl fitsX' ?_; intro w12 hs; have HS12 := Lib.hid (show St _ _ _ (_ :: _ :: _ :: _ :: _ :: _ :: _ :: []) from hs.out); clear hs))
    exact bp_cell HS12.out 6 exT rfl rfl rfl rfl rfl ⟨_, ⟨_, _, 0, [], _, [.mk k2 p2 n2 nm2 es2], rfl, rfl, fun h => congrArg (fun z => Sx.E.mk KD (Sx.pk L σ).pos 0 [] [z]) (HX2.out h), rfl⟩, St.rdClose (rd_less HR2.out HW.out) ((St.sel HS12.out [0, 0, 1, 1] rfl).to fun P h => h.under fun P h => h.under fun P h => lsI_one h)⟩
theorem exprs_U (b : Nat) (L : List Lx.Tok) (hL : Sx.Ok L) (n : Nat) : ∀ σ, Sx.M L σ ≤ n → CU b L σ := by
  induction n with
  | zero =>
    intro σ hn
    have hlow : ∀ τ, Sx.M L τ + 16 ≤ Sx.M L σ → CE b L τ := fun τ h => by omega
    have hlow2 : ∀ τ, Sx.M L τ + 16 ≤ Sx.M L σ → CU b L τ := fun τ h => by omega
    by_cases he : σ.err = 0
    · by_cases hk : Sx.aheadK (Sx.text L σ) = 0
      · exact unary_no b L hL σ (fun _ => hk) hlow
      · exact unary_sign b L hL σ he hk hlow2
    · exact unary_no b L hL σ (fun h => absurd h he) hlow
  | succ n ih =>
    intro σ hn
    have h8 : ∀ τ, Sx.M L τ ≤ n → CC b L 8 7 τ := fun τ h => chain_eight b L hL τ (ih τ h)
    have step : ∀ (m : Nat) (z : Int), 2 ≤ m → m ≤ 7 → z = m → (∀ τ, Sx.M L τ ≤ n → CC b L ((m : Int) + 1) m τ) → ∀ τ, Sx.M L τ ≤ n → CC b L z (m - 1) τ := fun m z h2 h7 hz h τ hτ => chain_fn b L hL τ m h2 h7 z hz (fun ρ hρ => h ρ (Nat.le_trans hρ hτ))
    have h7 := step 7 7 (by decide) (by decide) rfl h8
    have h6 := step 6 6 (by decide) (by decide) rfl h7
    have h5 := step 5 5 (by decide) (by decide) rfl h6
    have h4 := step 4 4 (by decide) (by decide) rfl h5
    have h3 := step 3 3 (by decide) (by decide) rfl h4
    have h2 := step 2 2 (by decide) (by decide) rfl h3
    have hE : ∀ τ, Sx.M L τ + 16 ≤ Sx.M L σ → CE b L τ := fun τ h => expr_fn b L hL τ (fun ρ hρ => h2 ρ (by omega))
    by_cases he : σ.err = 0
    · by_cases hk : Sx.aheadK (Sx.text L σ) = 0
      · exact unary_no b L hL σ (fun _ => hk) hE
      · exact unary_sign b L hL σ he hk (fun τ h => ih τ (by omega))
    · exact unary_no b L hL σ (fun h => absurd h he) hE
/-- what the program's expr makes, of any state -/
theorem expr_any (b : Nat) (L : List Lx.Tok) (hL : Sx.Ok L) (σ : Sx.R) : CE b L σ := by
  have h8 : ∀ τ, CC b L 8 7 τ := fun τ => chain_eight b L hL τ (exprs_U b L hL _ τ (Nat.le_refl _))
  have step : ∀ (m : Nat) (z : Int), 2 ≤ m → m ≤ 7 → z = m → (∀ τ, CC b L ((m : Int) + 1) m τ) → ∀ τ, CC b L z (m - 1) τ := fun m z h2 h7 hz h τ => chain_fn b L hL τ m h2 h7 z hz (fun ρ _ => h ρ)
  have h7 := step 7 7 (by decide) (by decide) rfl h8
  have h6 := step 6 6 (by decide) (by decide) rfl h7
  have h5 := step 5 5 (by decide) (by decide) rfl h6
  have h4 := step 4 4 (by decide) (by decide) rfl h5
  have h3 := step 3 3 (by decide) (by decide) rfl h4
  have h2 := step 2 2 (by decide) (by decide) rfl h3
  exact expr_fn b L hL σ (fun ρ _ => h2 ρ)
end Go.Proofs.YtjfdcnggnldgdaaGreatDoor
end
