/-
The document's reader: an expression of signs that bind tighter than a number.
The document's reader: a sign ahead, parentheses, or what is made by neither.
-/
import Derived.Test.YtjfdcnggnldgdaaGreatDoorP24a
import Derived.Test.YtjfdcnggnldgdaaGreatDoorP29a
section
namespace Go.Proofs.YtjfdcnggnldgdaaGreatDoor
open Go.ChangeShapes Go.WideShapes Go.ChangeAt Go.RowKit
set_option linter.unusedVariables false
set_option linter.unusedSimpArgs false

/-- how many tokens a reader in a block has ahead, none behind an error -/
def rMeas (b N : Nat) (w : World) : Nat := match w.cell? ⟨b, 3, none⟩, w.cell? ⟨b, 1, none⟩ with | some (.int _ e), some (.int _ t) => if e = 0 then N - t.toNat else 0 | _, _ => 0
theorem St.rMeas {X : Nat → Prop} {w0 w : World} {b : Nat} {L : List Lx.Tok} {σ : Sx.R} {I : List It} (h : St X w0 w (rr b L σ :: I)) : 16 * Go.Proofs.YtjfdcnggnldgdaaGreatDoor.rMeas b L.length w = Sx.M L σ := by
  obtain ⟨a, cap, t, m, e, p, hr, hs⟩ := h.rrOpen
  have h3 : w.cell? ⟨b, 3, none⟩ = some (.int .i64 e) := hs.cell 0 rfl 3
  have h1 : w.cell? ⟨b, 1, none⟩ = some (.int .i64 (t : Int)) := hs.cell 0 rfl 1
  unfold Go.Proofs.YtjfdcnggnldgdaaGreatDoor.rMeas Sx.M
  rw [h3, h1]
  simp only []
  rw [hr.he, Int.toNat_natCast, hr.ht]
  by_cases hz : σ.err = 0
  · rw [if_pos hz, if_neg (by simpa using hz)]
  · rw [if_neg hz, if_pos hz]
set_option maxHeartbeats 8000000 in
set_option maxRecDepth 100000 in
theorem rexpr_of (b : Nat) (L : List Lx.Tok) (hL : Sx.Ok L) (σ : Sx.R) (t : Nat) (hU : rCU b L σ) (hX : ∀ τ, Sx.M L τ + 16 ≤ Sx.M L σ → ∀ n, rCX b L n τ) : rCX b L t σ := by
  intro w P hP h0
  have HS := Lib.hid (St.start hP h0)
  have hat := HS.out.rat
  have hXe := Sx.X_eq hL.ends t hat
  have hUi := Sx.U_in hL.ends hat
  have hUM := Sx.M_le (Sx.le_U hL.ends σ)
  have CU := Lib.hid (show Fn 218 #[.pointer (some ⟨b, 0, none⟩)] [rr b L σ] (REP b L (Sx.U L σ)) from hU)
  generalize Sx.U L σ = y0 at CU hXe hUi hUM
  rw [hXe]
  have HL := Lib.hid hL
  have HX := Lib.hid hX
  have HG := Lib.hid (And.intro hUi hUM)
  clear h0 hP hL hat hXe hU hX hUi hUM
  go_enter Tryz.func185, Tryz.ntmps185
  go_wp2_with (first
    | (refine wpl_alloc HS.out _ rfl exZ ?_; intro b_r w1 HS1; clear HS)
    | (go_at_call 218; refine (HS1.out.call1 CU.out).mono ?_; rintro e w2 ⟨J, ⟨k_u, p_u, n_u, nm_u, v_u, es_u, rfl, rfl, hx_u, h1_u⟩, hs⟩; simp only [List.cons_append, List.nil_append] at hs; have HS2 := Lib.hid hs; clear hs HS1; have HX_u := Lib.hid hx_u; clear hx_u)
    | (refine wpl_alloc HS2.out _ rfl exZ ?_; intro b_x w3 HS3; clear HS2)
    | (refine wpl_storeS HS3.out 1 rfl rfl exT rfl (fitsX h1_u) ?_; intro w4 hs; have HS4 := Lib.hid (show St _ _ _ (_ :: _ :: _ :: _ :: []) from hs.out); clear hs HS3))
  have HI := Lib.hid (show St P w w4 [rr b L y0.2, lsI v_u es_u, .row b_x 55 (exA k_u p_u n_u nm_u v_u), .row b_r 55 (exA 0 0 0 [] (.slice none 0 0))] from HS4.out.sel [0, 1, 0, 0] rfl)
  clear HS4
  go_loopw [6, 7] (fun C Mo wr => ∃ (c : Bool) (m : Nat) (k p n : Int) (nm : List UInt8) (v : Value) (es : List Sx.E) (τ : Sx.R), C = .bool c ∧ Mo = .int .i64 (m : Int) ∧ Hid (St P w wr [rr b L τ, lsI v es, .row b_x 55 (exA k p n nm v), .row b_r 55 (exA 0 0 0 [] (.slice none 0 0))] ∧ v.oneCell' = true ∧ Sx.M L τ ≤ Sx.M L σ ∧ (τ.err = 0 → Sx.Sg L t 7 false y0.1 y0.2 = Sx.Sg L t m c (.mk k p n nm es) τ) ∧ (τ.err ≠ 0 → (Sx.Sg L t 7 false y0.1 y0.2).2 = τ))) (fun _ _ wr => rMeas b L.length wr)
  case atStart =>
    refine ⟨false, 7, k_u, p_u, n_u, nm_u, v_u, es_u, y0.2, rfl, rfl, Lib.hid ⟨HI.out, h1_u, HG.out.2, fun h => ?_, fun h => ?_⟩⟩
    · rw [HX_u.out h]
    · rw [Sx.Sg_err HL.out.ends _ _ _ _ HG.out.1 h]
  case round =>
    obtain ⟨c, m, k, p, n, nm, v, es, τ, rfl, rfl, HK⟩ := hrel
    have HS0 := Lib.hid HK.out.1
    have hv := HK.out.2.1
    have hat := HS0.out.rat
    obtain ⟨a0, cap0, t0, m0, e0, p0, hr, hs3⟩ := HS0.out.rrOpen; have HR0 := Lib.hid hr; have HO0 := Lib.hid hs3; clear hs3 hr
    have HMS := Lib.hid HS0.out.rMeas
    clear HI
    by_cases he : τ.err = 0
    · have he' : e0 = 0 := by rw [HR0.out.he]; exact he
      have C5 := Lib.hid (rtext_fn b L τ)
      have C6 := Lib.hid (tight_fn (Sx.text L τ))
      have hSg := HK.out.2.2.2.1 he
      obtain ⟨nn, hnn⟩ : ∃ nn, (Sx.tight (Sx.text L τ)).1 = nn := ⟨_, rfl⟩
      obtain ⟨kd, hkd⟩ : ∃ kd, (Sx.tight (Sx.text L τ)).2 = kd := ⟨_, rfl⟩
      rw [hnn, hkd] at C6
      by_cases hst : nn ≤ t ∨ m < nn ∨ (nn = 1 ∧ c = true)
      · have hEq : Sx.Sg L t 7 false y0.1 y0.2 = (.mk k p n nm es, τ) := by rw [hSg]; exact Sx.Sg_stop HL.out.ends _ hat (by rw [hnn]; exact hst)
        have HEQ := Lib.hid hEq
        clear hSg hEq hat
        have hz0 : (0 : Int) ≤ (nn : Int) := Int.natCast_nonneg nn
        by_cases hs1 : nn ≤ t
        · have hi1 : (nn : Int) ≤ (t : Int) := by omega
          clear hst
          go_wp2_with (first
            | (refine wpl_load HO0.out 0 rfl rfl intO rfl ?_)
            | (go_at_call 131; refine (HS0.out.call1 C5.out).mono ?_; rintro e w1 ⟨J, ⟨rfl, rfl⟩, hs⟩; simp only [List.cons_append, List.nil_append] at hs; have HS1 := Lib.hid hs; clear hs HS0)
            | (go_at_call 219; refine (St.call (pre := []) HS1.out C6.out).mono ?_; rintro e w2 ⟨J, ⟨rfl, rfl⟩, hs⟩; simp only [List.cons_append, List.nil_append] at hs; have HS2 := Lib.hid hs; clear hs HS1)
            | (refine wpl_loadS HS2.out 2 rfl rfl exT rfl ?_)
            | (refine wpl_storeS HS2.out 3 rfl rfl exT rfl (fitsX hv) ?_; intro w3 hs; have HS3 := Lib.hid (show St _ _ _ (_ :: _ :: _ :: _ :: []) from hs.out); clear hs HS2))
          refine bp_cell HS3.out 3 exT rfl rfl rfl rfl rfl ⟨_, ⟨k, p, n, nm, v, es, rfl, rfl, fun h => by rw [HEQ.out], hv⟩, ?_⟩
          rw [HEQ.out]
          exact HS3.out.sel [0, 0] rfl
        · have hi1 : ¬ (nn : Int) ≤ (t : Int) := by omega
          by_cases hs2 : m < nn
          · have hi2 : (m : Int) < (nn : Int) := by omega
            clear hst
            go_wp2_with (first
              | (refine wpl_load HO0.out 0 rfl rfl intO rfl ?_)
              | (go_at_call 131; refine (HS0.out.call1 C5.out).mono ?_; rintro e w1 ⟨J, ⟨rfl, rfl⟩, hs⟩; simp only [List.cons_append, List.nil_append] at hs; have HS1 := Lib.hid hs; clear hs HS0)
              | (go_at_call 219; refine (St.call (pre := []) HS1.out C6.out).mono ?_; rintro e w2 ⟨J, ⟨rfl, rfl⟩, hs⟩; simp only [List.cons_append, List.nil_append] at hs; have HS2 := Lib.hid hs; clear hs HS1)
              | (refine wpl_loadS HS2.out 2 rfl rfl exT rfl ?_)
              | (refine wpl_storeS HS2.out 3 rfl rfl exT rfl (fitsX hv) ?_; intro w3 hs; have HS3 := Lib.hid (show St _ _ _ (_ :: _ :: _ :: _ :: []) from hs.out); clear hs HS2))
            refine bp_cell HS3.out 3 exT rfl rfl rfl rfl rfl ⟨_, ⟨k, p, n, nm, v, es, rfl, rfl, fun h => by rw [HEQ.out], hv⟩, ?_⟩
            rw [HEQ.out]
            exact HS3.out.sel [0, 0] rfl
          · have hi2 : ¬ (m : Int) < (nn : Int) := by omega
            obtain ⟨hs3, rfl⟩ := (hst.resolve_left hs1).resolve_left hs2
            have hi3 : (nn : Int) = 1 := by omega
            subst hs3
            clear hst
            go_wp2_with (first
              | (refine wpl_load HO0.out 0 rfl rfl intO rfl ?_)
              | (go_at_call 131; refine (HS0.out.call1 C5.out).mono ?_; rintro e w1 ⟨J, ⟨rfl, rfl⟩, hs⟩; simp only [List.cons_append, List.nil_append] at hs; have HS1 := Lib.hid hs; clear hs HS0)
              | (go_at_call 219; refine (St.call (pre := []) HS1.out C6.out).mono ?_; rintro e w2 ⟨J, ⟨rfl, rfl⟩, hs⟩; simp only [List.cons_append, List.nil_append] at hs; have HS2 := Lib.hid hs; clear hs HS1)
              | (refine wpl_loadS HS2.out 2 rfl rfl exT rfl ?_)
              | (refine wpl_storeS HS2.out 3 rfl rfl exT rfl (fitsX hv) ?_; intro w3 hs; have HS3 := Lib.hid (show St _ _ _ (_ :: _ :: _ :: _ :: []) from hs.out); clear hs HS2))
            refine bp_cell HS3.out 3 exT rfl rfl rfl rfl rfl ⟨_, ⟨k, p, n, nm, v, es, rfl, rfl, fun h => by rw [HEQ.out], hv⟩, ?_⟩
            rw [HEQ.out]
            exact HS3.out.sel [0, 0] rfl
      · have hne0 : nn ≠ 0 := fun h => hst (Or.inl (by omega))
        have hkind : (Sx.tk L τ).kind ≠ 0 := Sx.tight_kind (n := 0) (by rw [hnn]; omega)
        have hin := (Sx.le_next HL.out.ends he hkind).2.2.1 hat
        have hMn := Sx.M_next he hat
        have hgo := Sx.Sg_go HL.out.ends (t := t) (m := m) (c := c) (.mk k p n nm es) hat he (by rw [hnn]; exact hst)
        rw [hnn] at hgo
        have hsi := Sx.step_in HL.out.ends (x := .mk k p n nm es) hat he (by rw [hnn]; exact hne0)
        have hi1 : ¬ (nn : Int) ≤ (t : Int) := by omega
        have hi2 : ¬ (m : Int) < (nn : Int) := by omega
        rw [hgo] at hSg
        have hz1 : ([] : List Sx.E).length < nMax := by unfold nMax; decide
        have hz2 : ([] ++ [Sx.E.mk k p n nm es] : List Sx.E).length < nMax := (by unfold nMax; decide : 1 < nMax)
        have HIN := Lib.hid hin
        by_cases h5 : nn = 5
        · have hn1 : ¬ nn = 1 := by omega
          have hi3 : ¬ (nn : Int) = 1 := by omega
          have hi5 : (nn : Int) = 5 := by omega
          cases c
          · clear hne0
            have hstep := Sx.step5 (L := L) (x := .mk k p n nm es) (σ := τ) (by rw [hnn]; exact h5)
            rw [hkd] at hstep
            rw [show (false || decide (nn = 1)) = false from by rw [decide_eq_false hn1]; rfl] at hSg
            have HQ2 := Lib.hid (show (Sx.some L 2 { τ with at' := τ.at' + 1 }).2.at' < L.length by have := hsi.1; rw [hstep] at this; exact this)
            have HQ := Lib.hid (And.intro hSg (And.intro hstep (show Sx.M L (Sx.some L 2 { τ with at' := τ.at' + 1 }).2 + 16 ≤ Sx.M L τ by have := hsi.2; rw [hstep] at this; exact this)))
            have hF2 := tokF2
            have C7 := Lib.hid (rsome_fn b L HL.out { τ with at' := τ.at' + 1 } 2 (by decide))
            clear hst hgo hsi hSg hstep hin hMn hkind hat hnn hkd HX CU HG he
            subst h5
            go_wp2_with (first
              | (refine wpl_load HO0.out 0 rfl rfl intO rfl ?_)
              | (go_at_call 131; refine (HS0.out.call1 C5.out).mono ?_; rintro e w1 ⟨J, ⟨rfl, rfl⟩, hs⟩; simp only [List.cons_append, List.nil_append] at hs; have HS1 := Lib.hid hs; clear hs HS0)
              | (go_at_call 219; refine (St.call (pre := []) HS1.out C6.out).mono ?_; rintro e w2 ⟨J, ⟨rfl, rfl⟩, hs⟩; simp only [List.cons_append, List.nil_append] at hs; have HS2 := Lib.hid hs; clear hs HS1))
            obtain ⟨a2, cap2, t2, m2, e2, p2, hr, hs3⟩ := HS2.out.rrOpen; have HR2 := Lib.hid hr; have HO2 := Lib.hid hs3; clear hs3 hr
            have hb_2 := rr_bound HR2.out
            obtain ⟨hb0_2, hb1_2, hb2_2⟩ := hb_2
            refine wp_region_heldL (S := fun w' => w'.cell? ⟨b, 0, none⟩ = some (.slice (some a2) L.length cap2) ∧ w'.cell? ⟨b, 1, none⟩ = some (.int .i64 (t2 : Int)) ∧ w'.cell? ⟨(a2.add (t2 * 4)).block, (a2.add (t2 * 4)).off + 1, none⟩ = some (.int .i64 ((Sx.tk L τ).pos : Int))) 14 (by kernel_rfl) (⟨HO2.out.drew.cell 0 rfl 0, HO2.out.drew.cell 0 rfl 1, (tk_cells (toks_t ((HO2.out.drew.sep.pick 1 rfl).choose_spec.choose_spec.2.2.2.1) HR2.out)).2.1⟩) (fun hHeld => ?_)
            refine tkL 0 ?_
            refine tkL 1 ?_
            refine tkL 2 ?_
            refine tkL 3 ?_
            refine tkL 4 ?_
            refine tkL 5 ?_
            refine tkL 6 ?_
            refine tkL 7 ?_
            refine tkL 8 ?_
            refine tkL 9 ?_
            refine tkL 10 ?_
            refine tkL 11 ?_
            refine tkL 12 ?_
            refine wpAnyL_one (i := 13) (by kernel_rfl) rfl (fun K hK => ?_)
            (refine wp_alloc HO2.out.drew _ rfl exZ ?_; intro b_y w3 HA; clear HS2)
            refine hK.out _ _ (⟨HA.out.cell 0 rfl 0, HA.out.cell 0 rfl 1, (tk_cells (toks_t ((HA.out.sep.pick 2 rfl).choose_spec.choose_spec.2.2.2.1) HR2.out)).2.1⟩) (fun hHeld => ?_)
            clear hK K
            (try simp only [Act.put, List.setIfInBounds_toArray, List.set_cons_zero, List.set_cons_succ, List.getElem_toArray, List.getElem_cons_succ, List.getElem_cons_zero])
            refine wpAnyL_last (by kernel_rfl) rfl (by kernel_rfl) (fun K hK => ?_)
            (refine wp_storeS HA.out 1 ⟨rfl, rfl⟩ rfl exT rfl (fitsX rfl) ?_; intro w4 hs; have HB := Lib.hid (show St _ _ _ (_ :: _ :: _ :: _ :: _ :: _ :: []) from hs.out); clear hs HA)
            refine hK.out _ _ ?_
            clear hK K
            have HO4 := Lib.hid (HB.out.sel [0, 1, 0, 0, 0, 0] rfl)
            clear HB
            (try simp only [Act.put, List.setIfInBounds_toArray, List.set_cons_zero, List.set_cons_succ, List.getElem_toArray, List.getElem_cons_succ, List.getElem_cons_zero])
            go_wp2_with (first
              | (refine wpl_load HO4.out 0 rfl rfl intO rfl ?_)
              | (refine wpl_store HO4.out 0 rfl rfl intO (of_decide_eq_true rfl) rfl ?_; intro w5x hs; have hs9 : St _ _ _ (.row b 75 #[.slice (some a2) L.length cap2, .int .i64 (wrap64 ((t2 : Int) + 1)), .int .i64 m2, .int .i64 e2, .int .i64 p2] :: .hp (toksHp a2 L) :: _ :: _ :: _ :: _ :: []) := hs.out; rw [(rr_bound HR2.out).2.2] at hs9; have HS5x := Lib.hid hs9; clear hs hs9 HO4; have HSz := Lib.hid (HS5x.out.rrClose (rr_step HR2.out HIN.out)); clear HS5x; have HS5 := Lib.hid ((HSz.out.sel [0, 1, 0, 0, 0] rfl).to fun P h => h.under fun P h => h.under fun P h => lsI_nil h); clear HSz)
              | (refine wpl_load HS5.out 3 rfl rfl exprsO rfl ?_)
              | (refine wpl_loadS HS5.out 4 rfl rfl exT rfl ?_)
              | (refine wpl_slice HS5.out rfl Tryz.underlying51 (exB _ _ _ _ _) ?_; intro b_e w6 HS6; clear HS5)
              | (refine wpl_appE HS6.out 0 rfl rfl Tryz.underlying51 hv hz1 ?_; intro q_e c_e w7 hs; have HS7 := Lib.hid (show St _ _ _ (_ :: _ :: _ :: _ :: _ :: []) from hs.out); clear hs HS6)
              | (refine wpl_store HS7.out 2 rfl rfl exprsO (of_decide_eq_true rfl) rfl ?_; intro w8 hs; have HS8 := Lib.hid (show St _ _ _ (_ :: _ :: _ :: _ :: _ :: []) from hs.out); clear hs HS7)
              | (go_at_call 66; refine (HS8.out.call1 C7.out).mono ?_; rintro e w9 ⟨J, ⟨rfl, rfl⟩, hs⟩; simp only [List.cons_append, List.nil_append] at hs; have HS9 := Lib.hid hs; clear hs HS8)
              | (refine wpl_store HS9.out 2 rfl rfl intO (of_decide_eq_true rfl) rfl ?_; intro w10 hs; have HS10 := Lib.hid (show St _ _ _ (_ :: _ :: _ :: _ :: _ :: []) from hs.out); clear hs HS9)
              | (refine wpl_loadS HS10.out 2 rfl rfl exT rfl ?_)
              | (refine wpl_storeS HS10.out 3 rfl rfl exT rfl (fitsX rfl) ?_; intro w11 hs; have HS11 := Lib.hid (show St _ _ _ (_ :: _ :: _ :: _ :: _ :: []) from hs.out); clear hs HS10))
            refine ⟨⟨_, _, _, _, _, _, _, _, _, _, _, _, _, _, _, _, _, _, _, _, _, _, _, _, _, _, _, _, _, _, _, _, _, _, _, _, _, _, _, _, _, _, _, _, _, _, _, _, _, _, _, _, _, _, _, _, _, _, _, _, _, _, _, _, _, _, _, _, _, _, _, _, _, _, _, _, _, _, _, _, ?rel, rfl⟩, ?measure⟩
            case rel =>
              refine ⟨false, 5, kd, ((Sx.tk L τ).pos : Int), (Sx.some L 2 { τ with at' := τ.at' + 1 }).1.num, [], .slice q_e 1 c_e, [.mk k p n nm es], (Sx.some L 2 { τ with at' := τ.at' + 1 }).2, rfl, by first | rfl | simp, Lib.hid ⟨?_, rfl, ?_, fun h => ?_, fun h => ?_⟩⟩
              · exact HS11.out.sel [0, 0, 1, 1] rfl
              · have := HQ.out.2.2; have := HK.out.2.2.1; omega
              · rw [HQ.out.1, HQ.out.2.1]
              · rw [HQ.out.1, HQ.out.2.1]
                dsimp only
                rw [Sx.Sg_err HL.out.ends _ _ _ _ HQ2.out h]
            case measure =>
              have h9 := (HS11.out.sel [0, 0, 1, 1] rfl).rMeas; have := HMS.out; have := HQ.out.2.2; omega
          · clear hne0
            have hstep := Sx.step5 (L := L) (x := .mk k p n nm es) (σ := τ) (by rw [hnn]; exact h5)
            rw [hkd] at hstep
            rw [show (true || decide (nn = 1)) = true from rfl] at hSg
            have HQ2 := Lib.hid (show (Sx.some L 2 { τ with at' := τ.at' + 1 }).2.at' < L.length by have := hsi.1; rw [hstep] at this; exact this)
            have HQ := Lib.hid (And.intro hSg (And.intro hstep (show Sx.M L (Sx.some L 2 { τ with at' := τ.at' + 1 }).2 + 16 ≤ Sx.M L τ by have := hsi.2; rw [hstep] at this; exact this)))
            have hF2 := tokF2
            have C7 := Lib.hid (rsome_fn b L HL.out { τ with at' := τ.at' + 1 } 2 (by decide))
            clear hst hgo hsi hSg hstep hin hMn hkind hat hnn hkd HX CU HG he
            subst h5
            go_wp2_with (first
              | (refine wpl_load HO0.out 0 rfl rfl intO rfl ?_)
              | (go_at_call 131; refine (HS0.out.call1 C5.out).mono ?_; rintro e w1 ⟨J, ⟨rfl, rfl⟩, hs⟩; simp only [List.cons_append, List.nil_append] at hs; have HS1 := Lib.hid hs; clear hs HS0)
              | (go_at_call 219; refine (St.call (pre := []) HS1.out C6.out).mono ?_; rintro e w2 ⟨J, ⟨rfl, rfl⟩, hs⟩; simp only [List.cons_append, List.nil_append] at hs; have HS2 := Lib.hid hs; clear hs HS1))
            obtain ⟨a2, cap2, t2, m2, e2, p2, hr, hs3⟩ := HS2.out.rrOpen; have HR2 := Lib.hid hr; have HO2 := Lib.hid hs3; clear hs3 hr
            have hb_2 := rr_bound HR2.out
            obtain ⟨hb0_2, hb1_2, hb2_2⟩ := hb_2
            refine wp_region_heldL (S := fun w' => w'.cell? ⟨b, 0, none⟩ = some (.slice (some a2) L.length cap2) ∧ w'.cell? ⟨b, 1, none⟩ = some (.int .i64 (t2 : Int)) ∧ w'.cell? ⟨(a2.add (t2 * 4)).block, (a2.add (t2 * 4)).off + 1, none⟩ = some (.int .i64 ((Sx.tk L τ).pos : Int))) 14 (by kernel_rfl) (⟨HO2.out.drew.cell 0 rfl 0, HO2.out.drew.cell 0 rfl 1, (tk_cells (toks_t ((HO2.out.drew.sep.pick 1 rfl).choose_spec.choose_spec.2.2.2.1) HR2.out)).2.1⟩) (fun hHeld => ?_)
            refine tkL 0 ?_
            refine tkL 1 ?_
            refine tkL 2 ?_
            refine tkL 3 ?_
            refine tkL 4 ?_
            refine tkL 5 ?_
            refine tkL 6 ?_
            refine tkL 7 ?_
            refine tkL 8 ?_
            refine tkL 9 ?_
            refine tkL 10 ?_
            refine tkL 11 ?_
            refine tkL 12 ?_
            refine wpAnyL_one (i := 13) (by kernel_rfl) rfl (fun K hK => ?_)
            (refine wp_alloc HO2.out.drew _ rfl exZ ?_; intro b_y w3 HA; clear HS2)
            refine hK.out _ _ (⟨HA.out.cell 0 rfl 0, HA.out.cell 0 rfl 1, (tk_cells (toks_t ((HA.out.sep.pick 2 rfl).choose_spec.choose_spec.2.2.2.1) HR2.out)).2.1⟩) (fun hHeld => ?_)
            clear hK K
            (try simp only [Act.put, List.setIfInBounds_toArray, List.set_cons_zero, List.set_cons_succ, List.getElem_toArray, List.getElem_cons_succ, List.getElem_cons_zero])
            refine wpAnyL_last (by kernel_rfl) rfl (by kernel_rfl) (fun K hK => ?_)
            (refine wp_storeS HA.out 1 ⟨rfl, rfl⟩ rfl exT rfl (fitsX rfl) ?_; intro w4 hs; have HB := Lib.hid (show St _ _ _ (_ :: _ :: _ :: _ :: _ :: _ :: []) from hs.out); clear hs HA)
            refine hK.out _ _ ?_
            clear hK K
            have HO4 := Lib.hid (HB.out.sel [0, 1, 0, 0, 0, 0] rfl)
            clear HB
            (try simp only [Act.put, List.setIfInBounds_toArray, List.set_cons_zero, List.set_cons_succ, List.getElem_toArray, List.getElem_cons_succ, List.getElem_cons_zero])
            go_wp2_with (first
              | (refine wpl_load HO4.out 0 rfl rfl intO rfl ?_)
              | (refine wpl_store HO4.out 0 rfl rfl intO (of_decide_eq_true rfl) rfl ?_; intro w5x hs; have hs9 : St _ _ _ (.row b 75 #[.slice (some a2) L.length cap2, .int .i64 (wrap64 ((t2 : Int) + 1)), .int .i64 m2, .int .i64 e2, .int .i64 p2] :: .hp (toksHp a2 L) :: _ :: _ :: _ :: _ :: []) := hs.out; rw [(rr_bound HR2.out).2.2] at hs9; have HS5x := Lib.hid hs9; clear hs hs9 HO4; have HSz := Lib.hid (HS5x.out.rrClose (rr_step HR2.out HIN.out)); clear HS5x; have HS5 := Lib.hid ((HSz.out.sel [0, 1, 0, 0, 0] rfl).to fun P h => h.under fun P h => h.under fun P h => lsI_nil h); clear HSz)
              | (refine wpl_load HS5.out 3 rfl rfl exprsO rfl ?_)
              | (refine wpl_loadS HS5.out 4 rfl rfl exT rfl ?_)
              | (refine wpl_slice HS5.out rfl Tryz.underlying51 (exB _ _ _ _ _) ?_; intro b_e w6 HS6; clear HS5)
              | (refine wpl_appE HS6.out 0 rfl rfl Tryz.underlying51 hv hz1 ?_; intro q_e c_e w7 hs; have HS7 := Lib.hid (show St _ _ _ (_ :: _ :: _ :: _ :: _ :: []) from hs.out); clear hs HS6)
              | (refine wpl_store HS7.out 2 rfl rfl exprsO (of_decide_eq_true rfl) rfl ?_; intro w8 hs; have HS8 := Lib.hid (show St _ _ _ (_ :: _ :: _ :: _ :: _ :: []) from hs.out); clear hs HS7)
              | (go_at_call 66; refine (HS8.out.call1 C7.out).mono ?_; rintro e w9 ⟨J, ⟨rfl, rfl⟩, hs⟩; simp only [List.cons_append, List.nil_append] at hs; have HS9 := Lib.hid hs; clear hs HS8)
              | (refine wpl_store HS9.out 2 rfl rfl intO (of_decide_eq_true rfl) rfl ?_; intro w10 hs; have HS10 := Lib.hid (show St _ _ _ (_ :: _ :: _ :: _ :: _ :: []) from hs.out); clear hs HS9)
              | (refine wpl_loadS HS10.out 2 rfl rfl exT rfl ?_)
              | (refine wpl_storeS HS10.out 3 rfl rfl exT rfl (fitsX rfl) ?_; intro w11 hs; have HS11 := Lib.hid (show St _ _ _ (_ :: _ :: _ :: _ :: _ :: []) from hs.out); clear hs HS10))
            refine ⟨⟨_, _, _, _, _, _, _, _, _, _, _, _, _, _, _, _, _, _, _, _, _, _, _, _, _, _, _, _, _, _, _, _, _, _, _, _, _, _, _, _, _, _, _, _, _, _, _, _, _, _, _, _, _, _, _, _, _, _, _, _, _, _, _, _, _, _, _, _, _, _, _, _, _, _, _, _, _, _, _, _, ?rel, rfl⟩, ?measure⟩
            case rel =>
              refine ⟨true, 5, kd, ((Sx.tk L τ).pos : Int), (Sx.some L 2 { τ with at' := τ.at' + 1 }).1.num, [], .slice q_e 1 c_e, [.mk k p n nm es], (Sx.some L 2 { τ with at' := τ.at' + 1 }).2, rfl, by first | rfl | simp, Lib.hid ⟨?_, rfl, ?_, fun h => ?_, fun h => ?_⟩⟩
              · exact HS11.out.sel [0, 0, 1, 1] rfl
              · have := HQ.out.2.2; have := HK.out.2.2.1; omega
              · rw [HQ.out.1, HQ.out.2.1]
              · rw [HQ.out.1, HQ.out.2.1]
                dsimp only
                rw [Sx.Sg_err HL.out.ends _ _ _ _ HQ2.out h]
            case measure =>
              have h9 := (HS11.out.sel [0, 0, 1, 1] rfl).rMeas; have := HMS.out; have := HQ.out.2.2; omega
        · have hi5 : ¬ (nn : Int) = 5 := by omega
          by_cases hn1 : nn = 1
          · have hc : c = false := by cases c with | false => rfl | true => exact absurd (Or.inr (Or.inr ⟨hn1, rfl⟩)) hst
            subst hc
            have hi3 : (nn : Int) = 1 := by omega
            have hstep := Sx.stepN (L := L) (x := .mk k p n nm es) (σ := τ) hnn h5
            rw [hkd] at hstep
            rw [show (false || decide (nn = 1)) = true from by rw [hn1]; rfl] at hSg
            have HQ2 := Lib.hid (show (Sx.X L nn { τ with at' := τ.at' + 1 }).2.at' < L.length by have := hsi.1; rw [hstep] at this; exact this)
            have HQ := Lib.hid (And.intro hSg (And.intro hstep (show Sx.M L (Sx.X L nn { τ with at' := τ.at' + 1 }).2 + 16 ≤ Sx.M L τ by have := hsi.2; rw [hstep] at this; exact this)))
            have CY := Lib.hid (HX.out { τ with at' := τ.at' + 1 } (by have := HK.out.2.2.1; omega) nn)
            clear hst hgo hsi hSg hstep hin hMn hkind hat hnn hkd HX CU HG he
            subst hn1
            go_wp2_with (first
              | (refine wpl_load HO0.out 0 rfl rfl intO rfl ?_)
              | (go_at_call 131; refine (HS0.out.call1 C5.out).mono ?_; rintro e w1 ⟨J, ⟨rfl, rfl⟩, hs⟩; simp only [List.cons_append, List.nil_append] at hs; have HS1 := Lib.hid hs; clear hs HS0)
              | (go_at_call 219; refine (St.call (pre := []) HS1.out C6.out).mono ?_; rintro e w2 ⟨J, ⟨rfl, rfl⟩, hs⟩; simp only [List.cons_append, List.nil_append] at hs; have HS2 := Lib.hid hs; clear hs HS1))
            obtain ⟨a2, cap2, t2, m2, e2, p2, hr, hs3⟩ := HS2.out.rrOpen; have HR2 := Lib.hid hr; have HO2 := Lib.hid hs3; clear hs3 hr
            have hb_2 := rr_bound HR2.out
            obtain ⟨hb0_2, hb1_2, hb2_2⟩ := hb_2
            refine wp_region_heldL (S := fun w' => w'.cell? ⟨b, 0, none⟩ = some (.slice (some a2) L.length cap2) ∧ w'.cell? ⟨b, 1, none⟩ = some (.int .i64 (t2 : Int)) ∧ w'.cell? ⟨(a2.add (t2 * 4)).block, (a2.add (t2 * 4)).off + 1, none⟩ = some (.int .i64 ((Sx.tk L τ).pos : Int))) 14 (by kernel_rfl) (⟨HO2.out.drew.cell 0 rfl 0, HO2.out.drew.cell 0 rfl 1, (tk_cells (toks_t ((HO2.out.drew.sep.pick 1 rfl).choose_spec.choose_spec.2.2.2.1) HR2.out)).2.1⟩) (fun hHeld => ?_)
            refine tkL 0 ?_
            refine tkL 1 ?_
            refine tkL 2 ?_
            refine tkL 3 ?_
            refine tkL 4 ?_
            refine tkL 5 ?_
            refine tkL 6 ?_
            refine tkL 7 ?_
            refine tkL 8 ?_
            refine tkL 9 ?_
            refine tkL 10 ?_
            refine tkL 11 ?_
            refine tkL 12 ?_
            refine wpAnyL_one (i := 13) (by kernel_rfl) rfl (fun K hK => ?_)
            (refine wp_alloc HO2.out.drew _ rfl exZ ?_; intro b_y w3 HA; clear HS2)
            refine hK.out _ _ (⟨HA.out.cell 0 rfl 0, HA.out.cell 0 rfl 1, (tk_cells (toks_t ((HA.out.sep.pick 2 rfl).choose_spec.choose_spec.2.2.2.1) HR2.out)).2.1⟩) (fun hHeld => ?_)
            clear hK K
            (try simp only [Act.put, List.setIfInBounds_toArray, List.set_cons_zero, List.set_cons_succ, List.getElem_toArray, List.getElem_cons_succ, List.getElem_cons_zero])
            refine wpAnyL_last (by kernel_rfl) rfl (by kernel_rfl) (fun K hK => ?_)
            (refine wp_storeS HA.out 1 ⟨rfl, rfl⟩ rfl exT rfl (fitsX rfl) ?_; intro w4 hs; have HB := Lib.hid (show St _ _ _ (_ :: _ :: _ :: _ :: _ :: _ :: []) from hs.out); clear hs HA)
            refine hK.out _ _ ?_
            clear hK K
            have HO4 := Lib.hid (HB.out.sel [0, 1, 0, 0, 0, 0] rfl)
            clear HB
            (try simp only [Act.put, List.setIfInBounds_toArray, List.set_cons_zero, List.set_cons_succ, List.getElem_toArray, List.getElem_cons_succ, List.getElem_cons_zero])
            go_wp2_with (first
              | (refine wpl_load HO4.out 0 rfl rfl intO rfl ?_)
              | (refine wpl_store HO4.out 0 rfl rfl intO (of_decide_eq_true rfl) rfl ?_; intro w5x hs; have hs9 : St _ _ _ (.row b 75 #[.slice (some a2) L.length cap2, .int .i64 (wrap64 ((t2 : Int) + 1)), .int .i64 m2, .int .i64 e2, .int .i64 p2] :: .hp (toksHp a2 L) :: _ :: _ :: _ :: _ :: []) := hs.out; rw [(rr_bound HR2.out).2.2] at hs9; have HS5x := Lib.hid hs9; clear hs hs9 HO4; have HSz := Lib.hid (HS5x.out.rrClose (rr_step HR2.out HIN.out)); clear HS5x; have HS5 := Lib.hid ((HSz.out.sel [0, 1, 0, 0, 0] rfl).to fun P h => h.under fun P h => h.under fun P h => lsI_nil h); clear HSz)
              | (refine wpl_load HS5.out 3 rfl rfl exprsO rfl ?_)
              | (refine wpl_loadS HS5.out 4 rfl rfl exT rfl ?_)
              | (refine wpl_slice HS5.out rfl Tryz.underlying51 (exB _ _ _ _ _) ?_; intro b_e w6 HS6; clear HS5)
              | (refine wpl_appE HS6.out 0 rfl rfl Tryz.underlying51 hv hz1 ?_; intro q_e c_e w7 hs; have HS7 := Lib.hid (show St _ _ _ (_ :: _ :: _ :: _ :: _ :: []) from hs.out); clear hs HS6)
              | (refine wpl_store HS7.out 2 rfl rfl exprsO (of_decide_eq_true rfl) rfl ?_; intro w8 hs; have HS8 := Lib.hid (show St _ _ _ (_ :: _ :: _ :: _ :: _ :: []) from hs.out); clear hs HS7))
            refine wp_region_heldL (S := fun w' => w'.cell? ⟨b_y, 4, none⟩ = some (.slice q_e 1 c_e)) 8 (by kernel_rfl) (HS8.out.drew.cell 2 rfl 4) (fun hHeld => ?_)
            refine tkL 0 ?_
            refine tkL 1 ?_
            refine tkL 2 ?_
            refine tkL 3 ?_
            refine wpAnyL_one (i := 4) (by kernel_rfl) rfl (fun K hK => ?_)
            go_simp
            (go_at_call 185; refine (HS8.out.drew.call1 CY.out).mono ?_; rintro e w9 ⟨J, ⟨k_b, p_b, n_b, nm_b, v_b, es_b, rfl, rfl, hx_b, h1_b⟩, hs⟩; simp only [List.cons_append, List.nil_append] at hs; have HS9 := Lib.hid hs; have HX_b := Lib.hid hx_b; clear hs hx_b HS8)
            refine hK.out _ _ (HS9.out.cell 3 rfl 4) (fun hHeld => ?_)
            clear hK K
            (try simp only [Act.put, List.setIfInBounds_toArray, List.set_cons_zero, List.set_cons_succ, List.getElem_toArray, List.getElem_cons_succ, List.getElem_cons_zero])
            refine wpAnyL_one (i := 5) (by kernel_rfl) rfl (fun K hK => ?_)
            (refine wp_slice HS9.out rfl Tryz.underlying51 (exB _ _ _ _ _) ?_; intro b_b w10 hs; have HS10 := Lib.hid (show St _ _ _ (_ :: _ :: _ :: _ :: _ :: _ :: _ :: []) from hs.out); clear hs HS9)
            refine hK.out _ _ (HS10.out.cell 4 rfl 4) (fun hHeld => ?_)
            clear hK K
            (try simp only [Act.put, List.setIfInBounds_toArray, List.set_cons_zero, List.set_cons_succ, List.getElem_toArray, List.getElem_cons_succ, List.getElem_cons_zero])
            refine wpAnyL_one (i := 6) (by kernel_rfl) rfl (fun K hK => ?_)
            (refine wp_appE HS10.out 0 rfl rfl Tryz.underlying51 h1_b hz2 ?_; intro q_b c_b w11 hs; have HS11 := Lib.hid (show St _ _ _ (_ :: _ :: _ :: _ :: _ :: []) from hs.out); clear hs HS10)
            refine hK.out _ _ (HS11.out.cell 2 rfl 4) (fun hHeld => ?_)
            clear hK K
            (try simp only [Act.put, List.setIfInBounds_toArray, List.set_cons_zero, List.set_cons_succ, List.getElem_toArray, List.getElem_cons_succ, List.getElem_cons_zero])
            refine tkL 7 ?_
            refine wpAnyL_last (by kernel_rfl) rfl (by kernel_rfl) (fun K hK => ?_)
            (refine wp_store1 HS11.out 2 rfl rfl exprsO (of_decide_eq_true rfl) rfl ?_; intro w12 hs; have HS12 := Lib.hid (show St _ _ _ (_ :: _ :: _ :: _ :: _ :: []) from hs.out); clear hs HS11)
            refine hK.out _ _ ?_
            clear hK K
            (try simp only [Act.put, List.setIfInBounds_toArray, List.set_cons_zero, List.set_cons_succ, List.getElem_toArray, List.getElem_cons_succ, List.getElem_cons_zero])
            go_wp2_with (first
              | (refine wpl_loadS HS12.out 2 rfl rfl exT rfl ?_)
              | (refine wpl_storeS HS12.out 3 rfl rfl exT rfl (fitsX rfl) ?_; intro w13 hs; have HS13 := Lib.hid (show St _ _ _ (_ :: _ :: _ :: _ :: _ :: []) from hs.out); clear hs HS12))
            refine ⟨⟨_, _, _, _, _, _, _, _, _, _, _, _, _, _, _, _, _, _, _, _, _, _, _, _, _, _, _, _, _, _, _, _, _, _, _, _, _, _, _, _, _, _, _, _, _, _, _, _, _, _, _, _, _, _, _, _, _, _, _, _, _, _, _, _, _, _, _, _, _, _, _, _, _, _, _, _, _, _, _, _, ?rel, rfl⟩, ?measure⟩
            case rel =>
              refine ⟨true, 1, kd, ((Sx.tk L τ).pos : Int), 0, [], .slice q_b 2 c_b, [.mk k p n nm es, .mk k_b p_b n_b nm_b es_b], (Sx.X L 1 { τ with at' := τ.at' + 1 }).2, rfl, by first | rfl | simp, Lib.hid ⟨?_, rfl, ?_, fun h => ?_, fun h => ?_⟩⟩
              · exact HS13.out.sel [0, 0, 1, 1] rfl
              · have := HQ.out.2.2; have := HK.out.2.2.1; omega
              · rw [HQ.out.1, HQ.out.2.1, HX_b.out h]
              · rw [HQ.out.1, HQ.out.2.1]
                dsimp only
                rw [Sx.Sg_err HL.out.ends _ _ _ _ HQ2.out h]
            case measure =>
              have h9 := (HS13.out.sel [0, 0, 1, 1] rfl).rMeas; have := HMS.out; have := HQ.out.2.2; omega
          · have hi3 : ¬ (nn : Int) = 1 := by omega
            cases c
            · clear hne0
              have hstep := Sx.stepN (L := L) (x := .mk k p n nm es) (σ := τ) hnn h5
              rw [hkd] at hstep
              rw [show (false || decide (nn = 1)) = false from by rw [decide_eq_false hn1]; rfl] at hSg
              have HQ2 := Lib.hid (show (Sx.X L nn { τ with at' := τ.at' + 1 }).2.at' < L.length by have := hsi.1; rw [hstep] at this; exact this)
              have HQ := Lib.hid (And.intro hSg (And.intro hstep (show Sx.M L (Sx.X L nn { τ with at' := τ.at' + 1 }).2 + 16 ≤ Sx.M L τ by have := hsi.2; rw [hstep] at this; exact this)))
              have CY := Lib.hid (HX.out { τ with at' := τ.at' + 1 } (by have := HK.out.2.2.1; omega) nn)
              have hbe : ((nn : Int) == 1) = false := by simpa using hi3
              clear hst hgo hsi hSg hstep hin hMn hkind hat hnn hkd HX CU HG he
              go_wp2_with (first
                | (refine wpl_load HO0.out 0 rfl rfl intO rfl ?_)
                | (go_at_call 131; refine (HS0.out.call1 C5.out).mono ?_; rintro e w1 ⟨J, ⟨rfl, rfl⟩, hs⟩; simp only [List.cons_append, List.nil_append] at hs; have HS1 := Lib.hid hs; clear hs HS0)
                | (go_at_call 219; refine (St.call (pre := []) HS1.out C6.out).mono ?_; rintro e w2 ⟨J, ⟨rfl, rfl⟩, hs⟩; simp only [List.cons_append, List.nil_append] at hs; have HS2 := Lib.hid hs; clear hs HS1))
              obtain ⟨a2, cap2, t2, m2, e2, p2, hr, hs3⟩ := HS2.out.rrOpen; have HR2 := Lib.hid hr; have HO2 := Lib.hid hs3; clear hs3 hr
              have hb_2 := rr_bound HR2.out
              obtain ⟨hb0_2, hb1_2, hb2_2⟩ := hb_2
              refine wp_region_heldL (S := fun w' => w'.cell? ⟨b, 0, none⟩ = some (.slice (some a2) L.length cap2) ∧ w'.cell? ⟨b, 1, none⟩ = some (.int .i64 (t2 : Int)) ∧ w'.cell? ⟨(a2.add (t2 * 4)).block, (a2.add (t2 * 4)).off + 1, none⟩ = some (.int .i64 ((Sx.tk L τ).pos : Int))) 14 (by kernel_rfl) (⟨HO2.out.drew.cell 0 rfl 0, HO2.out.drew.cell 0 rfl 1, (tk_cells (toks_t ((HO2.out.drew.sep.pick 1 rfl).choose_spec.choose_spec.2.2.2.1) HR2.out)).2.1⟩) (fun hHeld => ?_)
              refine tkL 0 ?_
              refine tkL 1 ?_
              refine tkL 2 ?_
              refine tkL 3 ?_
              refine tkL 4 ?_
              refine tkL 5 ?_
              refine tkL 6 ?_
              refine tkL 7 ?_
              refine tkL 8 ?_
              refine tkL 9 ?_
              refine tkL 10 ?_
              refine tkL 11 ?_
              refine tkL 12 ?_
              refine wpAnyL_one (i := 13) (by kernel_rfl) rfl (fun K hK => ?_)
              (refine wp_alloc HO2.out.drew _ rfl exZ ?_; intro b_y w3 HA; clear HS2)
              refine hK.out _ _ (⟨HA.out.cell 0 rfl 0, HA.out.cell 0 rfl 1, (tk_cells (toks_t ((HA.out.sep.pick 2 rfl).choose_spec.choose_spec.2.2.2.1) HR2.out)).2.1⟩) (fun hHeld => ?_)
              clear hK K
              (try simp only [Act.put, List.setIfInBounds_toArray, List.set_cons_zero, List.set_cons_succ, List.getElem_toArray, List.getElem_cons_succ, List.getElem_cons_zero])
              refine wpAnyL_last (by kernel_rfl) rfl (by kernel_rfl) (fun K hK => ?_)
              (refine wp_storeS HA.out 1 ⟨rfl, rfl⟩ rfl exT rfl (fitsX rfl) ?_; intro w4 hs; have HB := Lib.hid (show St _ _ _ (_ :: _ :: _ :: _ :: _ :: _ :: []) from hs.out); clear hs HA)
              refine hK.out _ _ ?_
              clear hK K
              have HO4 := Lib.hid (HB.out.sel [0, 1, 0, 0, 0, 0] rfl)
              clear HB
              (try simp only [Act.put, List.setIfInBounds_toArray, List.set_cons_zero, List.set_cons_succ, List.getElem_toArray, List.getElem_cons_succ, List.getElem_cons_zero])
              go_wp2_with (first
                | (refine wpl_load HO4.out 0 rfl rfl intO rfl ?_)
                | (refine wpl_store HO4.out 0 rfl rfl intO (of_decide_eq_true rfl) rfl ?_; intro w5x hs; have hs9 : St _ _ _ (.row b 75 #[.slice (some a2) L.length cap2, .int .i64 (wrap64 ((t2 : Int) + 1)), .int .i64 m2, .int .i64 e2, .int .i64 p2] :: .hp (toksHp a2 L) :: _ :: _ :: _ :: _ :: []) := hs.out; rw [(rr_bound HR2.out).2.2] at hs9; have HS5x := Lib.hid hs9; clear hs hs9 HO4; have HSz := Lib.hid (HS5x.out.rrClose (rr_step HR2.out HIN.out)); clear HS5x; have HS5 := Lib.hid ((HSz.out.sel [0, 1, 0, 0, 0] rfl).to fun P h => h.under fun P h => h.under fun P h => lsI_nil h); clear HSz)
                | (refine wpl_load HS5.out 3 rfl rfl exprsO rfl ?_)
                | (refine wpl_loadS HS5.out 4 rfl rfl exT rfl ?_)
                | (refine wpl_slice HS5.out rfl Tryz.underlying51 (exB _ _ _ _ _) ?_; intro b_e w6 HS6; clear HS5)
                | (refine wpl_appE HS6.out 0 rfl rfl Tryz.underlying51 hv hz1 ?_; intro q_e c_e w7 hs; have HS7 := Lib.hid (show St _ _ _ (_ :: _ :: _ :: _ :: _ :: []) from hs.out); clear hs HS6)
                | (refine wpl_store HS7.out 2 rfl rfl exprsO (of_decide_eq_true rfl) rfl ?_; intro w8 hs; have HS8 := Lib.hid (show St _ _ _ (_ :: _ :: _ :: _ :: _ :: []) from hs.out); clear hs HS7))
              refine wp_region_heldL (S := fun w' => w'.cell? ⟨b_y, 4, none⟩ = some (.slice q_e 1 c_e)) 8 (by kernel_rfl) (HS8.out.drew.cell 2 rfl 4) (fun hHeld => ?_)
              refine tkL 0 ?_
              refine tkL 1 ?_
              refine tkL 2 ?_
              refine tkL 3 ?_
              refine wpAnyL_one (i := 4) (by kernel_rfl) rfl (fun K hK => ?_)
              go_simp
              (go_at_call 185; refine (HS8.out.drew.call1 CY.out).mono ?_; rintro e w9 ⟨J, ⟨k_b, p_b, n_b, nm_b, v_b, es_b, rfl, rfl, hx_b, h1_b⟩, hs⟩; simp only [List.cons_append, List.nil_append] at hs; have HS9 := Lib.hid hs; have HX_b := Lib.hid hx_b; clear hs hx_b HS8)
              refine hK.out _ _ (HS9.out.cell 3 rfl 4) (fun hHeld => ?_)
              clear hK K
              (try simp only [Act.put, List.setIfInBounds_toArray, List.set_cons_zero, List.set_cons_succ, List.getElem_toArray, List.getElem_cons_succ, List.getElem_cons_zero])
              refine wpAnyL_one (i := 5) (by kernel_rfl) rfl (fun K hK => ?_)
              (refine wp_slice HS9.out rfl Tryz.underlying51 (exB _ _ _ _ _) ?_; intro b_b w10 hs; have HS10 := Lib.hid (show St _ _ _ (_ :: _ :: _ :: _ :: _ :: _ :: _ :: []) from hs.out); clear hs HS9)
              refine hK.out _ _ (HS10.out.cell 4 rfl 4) (fun hHeld => ?_)
              clear hK K
              (try simp only [Act.put, List.setIfInBounds_toArray, List.set_cons_zero, List.set_cons_succ, List.getElem_toArray, List.getElem_cons_succ, List.getElem_cons_zero])
              refine wpAnyL_one (i := 6) (by kernel_rfl) rfl (fun K hK => ?_)
              (refine wp_appE HS10.out 0 rfl rfl Tryz.underlying51 h1_b hz2 ?_; intro q_b c_b w11 hs; have HS11 := Lib.hid (show St _ _ _ (_ :: _ :: _ :: _ :: _ :: []) from hs.out); clear hs HS10)
              refine hK.out _ _ (HS11.out.cell 2 rfl 4) (fun hHeld => ?_)
              clear hK K
              (try simp only [Act.put, List.setIfInBounds_toArray, List.set_cons_zero, List.set_cons_succ, List.getElem_toArray, List.getElem_cons_succ, List.getElem_cons_zero])
              refine tkL 7 ?_
              refine wpAnyL_last (by kernel_rfl) rfl (by kernel_rfl) (fun K hK => ?_)
              (refine wp_store1 HS11.out 2 rfl rfl exprsO (of_decide_eq_true rfl) rfl ?_; intro w12 hs; have HS12 := Lib.hid (show St _ _ _ (_ :: _ :: _ :: _ :: _ :: []) from hs.out); clear hs HS11)
              refine hK.out _ _ ?_
              clear hK K
              (try simp only [Act.put, List.setIfInBounds_toArray, List.set_cons_zero, List.set_cons_succ, List.getElem_toArray, List.getElem_cons_succ, List.getElem_cons_zero])
              go_wp2_with (first
                | (refine wpl_loadS HS12.out 2 rfl rfl exT rfl ?_)
                | (refine wpl_storeS HS12.out 3 rfl rfl exT rfl (fitsX rfl) ?_; intro w13 hs; have HS13 := Lib.hid (show St _ _ _ (_ :: _ :: _ :: _ :: _ :: []) from hs.out); clear hs HS12))
              refine ⟨⟨_, _, _, _, _, _, _, _, _, _, _, _, _, _, _, _, _, _, _, _, _, _, _, _, _, _, _, _, _, _, _, _, _, _, _, _, _, _, _, _, _, _, _, _, _, _, _, _, _, _, _, _, _, _, _, _, _, _, _, _, _, _, _, _, _, _, _, _, _, _, _, _, _, _, _, _, _, _, _, _, ?rel, rfl⟩, ?measure⟩
              case rel =>
                refine ⟨false, nn, kd, ((Sx.tk L τ).pos : Int), 0, [], .slice q_b 2 c_b, [.mk k p n nm es, .mk k_b p_b n_b nm_b es_b], (Sx.X L nn { τ with at' := τ.at' + 1 }).2, rfl, by first | rfl | simp, Lib.hid ⟨?_, rfl, ?_, fun h => ?_, fun h => ?_⟩⟩
                · exact HS13.out.sel [0, 0, 1, 1] rfl
                · have := HQ.out.2.2; have := HK.out.2.2.1; omega
                · rw [HQ.out.1, HQ.out.2.1, HX_b.out h]
                · rw [HQ.out.1, HQ.out.2.1]
                  dsimp only
                  rw [Sx.Sg_err HL.out.ends _ _ _ _ HQ2.out h]
              case measure =>
                have h9 := (HS13.out.sel [0, 0, 1, 1] rfl).rMeas; have := HMS.out; have := HQ.out.2.2; omega
            · clear hne0
              have hstep := Sx.stepN (L := L) (x := .mk k p n nm es) (σ := τ) hnn h5
              rw [hkd] at hstep
              rw [show (true || decide (nn = 1)) = true from rfl] at hSg
              have HQ2 := Lib.hid (show (Sx.X L nn { τ with at' := τ.at' + 1 }).2.at' < L.length by have := hsi.1; rw [hstep] at this; exact this)
              have HQ := Lib.hid (And.intro hSg (And.intro hstep (show Sx.M L (Sx.X L nn { τ with at' := τ.at' + 1 }).2 + 16 ≤ Sx.M L τ by have := hsi.2; rw [hstep] at this; exact this)))
              have CY := Lib.hid (HX.out { τ with at' := τ.at' + 1 } (by have := HK.out.2.2.1; omega) nn)
              clear hst hgo hsi hSg hstep hin hMn hkind hat hnn hkd HX CU HG he
              go_wp2_with (first
                | (refine wpl_load HO0.out 0 rfl rfl intO rfl ?_)
                | (go_at_call 131; refine (HS0.out.call1 C5.out).mono ?_; rintro e w1 ⟨J, ⟨rfl, rfl⟩, hs⟩; simp only [List.cons_append, List.nil_append] at hs; have HS1 := Lib.hid hs; clear hs HS0)
                | (go_at_call 219; refine (St.call (pre := []) HS1.out C6.out).mono ?_; rintro e w2 ⟨J, ⟨rfl, rfl⟩, hs⟩; simp only [List.cons_append, List.nil_append] at hs; have HS2 := Lib.hid hs; clear hs HS1))
              obtain ⟨a2, cap2, t2, m2, e2, p2, hr, hs3⟩ := HS2.out.rrOpen; have HR2 := Lib.hid hr; have HO2 := Lib.hid hs3; clear hs3 hr
              have hb_2 := rr_bound HR2.out
              obtain ⟨hb0_2, hb1_2, hb2_2⟩ := hb_2
              refine wp_region_heldL (S := fun w' => w'.cell? ⟨b, 0, none⟩ = some (.slice (some a2) L.length cap2) ∧ w'.cell? ⟨b, 1, none⟩ = some (.int .i64 (t2 : Int)) ∧ w'.cell? ⟨(a2.add (t2 * 4)).block, (a2.add (t2 * 4)).off + 1, none⟩ = some (.int .i64 ((Sx.tk L τ).pos : Int))) 14 (by kernel_rfl) (⟨HO2.out.drew.cell 0 rfl 0, HO2.out.drew.cell 0 rfl 1, (tk_cells (toks_t ((HO2.out.drew.sep.pick 1 rfl).choose_spec.choose_spec.2.2.2.1) HR2.out)).2.1⟩) (fun hHeld => ?_)
              refine tkL 0 ?_
              refine tkL 1 ?_
              refine tkL 2 ?_
              refine tkL 3 ?_
              refine tkL 4 ?_
              refine tkL 5 ?_
              refine tkL 6 ?_
              refine tkL 7 ?_
              refine tkL 8 ?_
              refine tkL 9 ?_
              refine tkL 10 ?_
              refine tkL 11 ?_
              refine tkL 12 ?_
              refine wpAnyL_one (i := 13) (by kernel_rfl) rfl (fun K hK => ?_)
              (refine wp_alloc HO2.out.drew _ rfl exZ ?_; intro b_y w3 HA; clear HS2)
              refine hK.out _ _ (⟨HA.out.cell 0 rfl 0, HA.out.cell 0 rfl 1, (tk_cells (toks_t ((HA.out.sep.pick 2 rfl).choose_spec.choose_spec.2.2.2.1) HR2.out)).2.1⟩) (fun hHeld => ?_)
              clear hK K
              (try simp only [Act.put, List.setIfInBounds_toArray, List.set_cons_zero, List.set_cons_succ, List.getElem_toArray, List.getElem_cons_succ, List.getElem_cons_zero])
              refine wpAnyL_last (by kernel_rfl) rfl (by kernel_rfl) (fun K hK => ?_)
              (refine wp_storeS HA.out 1 ⟨rfl, rfl⟩ rfl exT rfl (fitsX rfl) ?_; intro w4 hs; have HB := Lib.hid (show St _ _ _ (_ :: _ :: _ :: _ :: _ :: _ :: []) from hs.out); clear hs HA)
              refine hK.out _ _ ?_
              clear hK K
              have HO4 := Lib.hid (HB.out.sel [0, 1, 0, 0, 0, 0] rfl)
              clear HB
              (try simp only [Act.put, List.setIfInBounds_toArray, List.set_cons_zero, List.set_cons_succ, List.getElem_toArray, List.getElem_cons_succ, List.getElem_cons_zero])
              go_wp2_with (first
                | (refine wpl_load HO4.out 0 rfl rfl intO rfl ?_)
                | (refine wpl_store HO4.out 0 rfl rfl intO (of_decide_eq_true rfl) rfl ?_; intro w5x hs; have hs9 : St _ _ _ (.row b 75 #[.slice (some a2) L.length cap2, .int .i64 (wrap64 ((t2 : Int) + 1)), .int .i64 m2, .int .i64 e2, .int .i64 p2] :: .hp (toksHp a2 L) :: _ :: _ :: _ :: _ :: []) := hs.out; rw [(rr_bound HR2.out).2.2] at hs9; have HS5x := Lib.hid hs9; clear hs hs9 HO4; have HSz := Lib.hid (HS5x.out.rrClose (rr_step HR2.out HIN.out)); clear HS5x; have HS5 := Lib.hid ((HSz.out.sel [0, 1, 0, 0, 0] rfl).to fun P h => h.under fun P h => h.under fun P h => lsI_nil h); clear HSz)
                | (refine wpl_load HS5.out 3 rfl rfl exprsO rfl ?_)
                | (refine wpl_loadS HS5.out 4 rfl rfl exT rfl ?_)
                | (refine wpl_slice HS5.out rfl Tryz.underlying51 (exB _ _ _ _ _) ?_; intro b_e w6 HS6; clear HS5)
                | (refine wpl_appE HS6.out 0 rfl rfl Tryz.underlying51 hv hz1 ?_; intro q_e c_e w7 hs; have HS7 := Lib.hid (show St _ _ _ (_ :: _ :: _ :: _ :: _ :: []) from hs.out); clear hs HS6)
                | (refine wpl_store HS7.out 2 rfl rfl exprsO (of_decide_eq_true rfl) rfl ?_; intro w8 hs; have HS8 := Lib.hid (show St _ _ _ (_ :: _ :: _ :: _ :: _ :: []) from hs.out); clear hs HS7))
              refine wp_region_heldL (S := fun w' => w'.cell? ⟨b_y, 4, none⟩ = some (.slice q_e 1 c_e)) 8 (by kernel_rfl) (HS8.out.drew.cell 2 rfl 4) (fun hHeld => ?_)
              refine tkL 0 ?_
              refine tkL 1 ?_
              refine tkL 2 ?_
              refine tkL 3 ?_
              refine wpAnyL_one (i := 4) (by kernel_rfl) rfl (fun K hK => ?_)
              go_simp
              (go_at_call 185; refine (HS8.out.drew.call1 CY.out).mono ?_; rintro e w9 ⟨J, ⟨k_b, p_b, n_b, nm_b, v_b, es_b, rfl, rfl, hx_b, h1_b⟩, hs⟩; simp only [List.cons_append, List.nil_append] at hs; have HS9 := Lib.hid hs; have HX_b := Lib.hid hx_b; clear hs hx_b HS8)
              refine hK.out _ _ (HS9.out.cell 3 rfl 4) (fun hHeld => ?_)
              clear hK K
              (try simp only [Act.put, List.setIfInBounds_toArray, List.set_cons_zero, List.set_cons_succ, List.getElem_toArray, List.getElem_cons_succ, List.getElem_cons_zero])
              refine wpAnyL_one (i := 5) (by kernel_rfl) rfl (fun K hK => ?_)
              (refine wp_slice HS9.out rfl Tryz.underlying51 (exB _ _ _ _ _) ?_; intro b_b w10 hs; have HS10 := Lib.hid (show St _ _ _ (_ :: _ :: _ :: _ :: _ :: _ :: _ :: []) from hs.out); clear hs HS9)
              refine hK.out _ _ (HS10.out.cell 4 rfl 4) (fun hHeld => ?_)
              clear hK K
              (try simp only [Act.put, List.setIfInBounds_toArray, List.set_cons_zero, List.set_cons_succ, List.getElem_toArray, List.getElem_cons_succ, List.getElem_cons_zero])
              refine wpAnyL_one (i := 6) (by kernel_rfl) rfl (fun K hK => ?_)
              (refine wp_appE HS10.out 0 rfl rfl Tryz.underlying51 h1_b hz2 ?_; intro q_b c_b w11 hs; have HS11 := Lib.hid (show St _ _ _ (_ :: _ :: _ :: _ :: _ :: []) from hs.out); clear hs HS10)
              refine hK.out _ _ (HS11.out.cell 2 rfl 4) (fun hHeld => ?_)
              clear hK K
              (try simp only [Act.put, List.setIfInBounds_toArray, List.set_cons_zero, List.set_cons_succ, List.getElem_toArray, List.getElem_cons_succ, List.getElem_cons_zero])
              refine tkL 7 ?_
              refine wpAnyL_last (by kernel_rfl) rfl (by kernel_rfl) (fun K hK => ?_)
              (refine wp_store1 HS11.out 2 rfl rfl exprsO (of_decide_eq_true rfl) rfl ?_; intro w12 hs; have HS12 := Lib.hid (show St _ _ _ (_ :: _ :: _ :: _ :: _ :: []) from hs.out); clear hs HS11)
              refine hK.out _ _ ?_
              clear hK K
              (try simp only [Act.put, List.setIfInBounds_toArray, List.set_cons_zero, List.set_cons_succ, List.getElem_toArray, List.getElem_cons_succ, List.getElem_cons_zero])
              go_wp2_with (first
                | (refine wpl_loadS HS12.out 2 rfl rfl exT rfl ?_)
                | (refine wpl_storeS HS12.out 3 rfl rfl exT rfl (fitsX rfl) ?_; intro w13 hs; have HS13 := Lib.hid (show St _ _ _ (_ :: _ :: _ :: _ :: _ :: []) from hs.out); clear hs HS12))
              refine ⟨⟨_, _, _, _, _, _, _, _, _, _, _, _, _, _, _, _, _, _, _, _, _, _, _, _, _, _, _, _, _, _, _, _, _, _, _, _, _, _, _, _, _, _, _, _, _, _, _, _, _, _, _, _, _, _, _, _, _, _, _, _, _, _, _, _, _, _, _, _, _, _, _, _, _, _, _, _, _, _, _, _, ?rel, rfl⟩, ?measure⟩
              case rel =>
                refine ⟨true, nn, kd, ((Sx.tk L τ).pos : Int), 0, [], .slice q_b 2 c_b, [.mk k p n nm es, .mk k_b p_b n_b nm_b es_b], (Sx.X L nn { τ with at' := τ.at' + 1 }).2, rfl, by first | rfl | simp, Lib.hid ⟨?_, rfl, ?_, fun h => ?_, fun h => ?_⟩⟩
                · exact HS13.out.sel [0, 0, 1, 1] rfl
                · have := HQ.out.2.2; have := HK.out.2.2.1; omega
                · rw [HQ.out.1, HQ.out.2.1, HX_b.out h]
                · rw [HQ.out.1, HQ.out.2.1]
                  dsimp only
                  rw [Sx.Sg_err HL.out.ends _ _ _ _ HQ2.out h]
              case measure =>
                have h9 := (HS13.out.sel [0, 0, 1, 1] rfl).rMeas; have := HMS.out; have := HQ.out.2.2; omega
    · have he' : ¬ e0 = 0 := by rw [HR0.out.he]; exact he
      have HEQ := Lib.hid (HK.out.2.2.2.2 he)
      go_wp2_with (first
        | (refine wpl_load HO0.out 0 rfl rfl intO rfl ?_)
        | (refine wpl_loadS HS0.out 2 rfl rfl exT rfl ?_)
        | (refine wpl_storeS HS0.out 3 rfl rfl exT rfl (fitsX hv) ?_; intro w1 hs; have HS1 := Lib.hid (show St _ _ _ (_ :: _ :: _ :: _ :: []) from hs.out); clear hs HS0))
      refine bp_cell HS1.out 3 exT rfl rfl rfl rfl rfl ⟨_, ⟨k, p, n, nm, v, es, rfl, rfl, fun h => absurd (HEQ.out.symm.trans rfl ▸ h) ?_, hv⟩, ?_⟩
      · exact fun h9 => he h9
      · rw [HEQ.out]
        exact HS1.out.sel [0, 0] rfl
end Go.Proofs.YtjfdcnggnldgdaaGreatDoor
end
section
namespace Go.Proofs.YtjfdcnggnldgdaaGreatDoor
open Go.ChangeShapes Go.WideShapes Go.ChangeAt Go.RowKit
set_option linter.unusedVariables false
set_option linter.unusedSimpArgs false

def rCW (b : Nat) (L : List Lx.Tok) (s : List UInt8) (σ : Sx.R) : Prop := Fn 246 #[.pointer (some ⟨b, 0, none⟩), .string (Lx.S s)] [rr b L σ] (REP b L (Sx.W L s σ))
set_option maxHeartbeats 8000000 in
set_option maxRecDepth 100000 in
theorem runary_err (b : Nat) (L : List Lx.Tok) (hL : Sx.Ok L) (σ : Sx.R) (he : σ.err ≠ 0) : rCU b L σ := by
  intro w P hP h0
  have HS := Lib.hid (St.start hP h0)
  have hat := HS.out.rat
  have ho0 := HS.out.ropn0
  have hU := Sx.U_err hL.ends hat he
  clear h0 hP ho0
  go_enter Tryz.func218, Tryz.ntmps218
  go_wp2_with (first
    | (refine wpl_alloc HS.out _ rfl exZ ?_; intro b_r w1 HS1; clear HS; obtain ⟨a1, cap1, t1, m1, e1, p1, hr, hs3⟩ := HS1.out.rrOpen; have HR1 := Lib.hid hr; have HO1 := Lib.hid hs3; clear hs3 hr; have he' : ¬ e1 = 0 := (by rw [HR1.out.he]; exact he))
    | (refine wpl_load HO1.out 0 rfl rfl intO rfl ?_)
    | (refine wpl_storeS HS1.out 1 rfl rfl exT rfl (fitsX rfl) ?_; intro w2 hs; have HS2 := Lib.hid (show St _ _ _ (_ :: _ :: []) from hs.out); clear hs HS1))
  refine bp_cell HS2.out 1 exT rfl rfl rfl rfl rfl ⟨_, ⟨0, 0, 0, [], .slice none 0 0, [], rfl, rfl, fun h => ?_, rfl⟩, ?_⟩
  · rw [hU] at h; exact absurd h he
  · rw [hU]; exact (HS2.out.sel [0] rfl).to fun P h => h.under fun P h => lsI_nil h
set_option maxHeartbeats 8000000 in
set_option maxRecDepth 100000 in
theorem runary_par (b : Nat) (L : List Lx.Tok) (hL : Sx.Ok L) (σ : Sx.R) (hs : Sx.sees L [40] σ = true) (hX : ∀ τ, Sx.M L τ + 16 ≤ Sx.M L σ → rCX b L 0 τ) : rCU b L σ := by
  intro w P hP h0
  have HS := Lib.hid (St.start hP h0)
  have hat := HS.out.rat
  have ho0 := HS.out.ropn0
  obtain ⟨he, htx⟩ := Sx.sees_text hs
  have hU := Sx.U_par hL.ends hat hs
  have hop : (Sx.nest L [40] σ).opn = σ.opn + 1 := Sx.op_nest L [40] σ
  have herr0 : (Sx.nest L [40] σ).err = 0 → σ.err = 0 := fun h => Sx.nest_err hL (by decide) h
  have hn1 := (Sx.le_nest hL.ends [40] (by decide) σ).2.2.1 hat
  have C1 := Lib.hid (rtext_fn b L σ)
  rw [htx] at C1
  have hT : (Lx.S [40]).toList = [40] := by rw [Lib.toList_data]; rfl
  have C2 := Lib.hid (rnest_fn b L hL σ [40] (by decide))
  have CX := Lib.hid (hX (Sx.nest L [40] σ) (Sx.M_nest he hat))
  have C4 := Lib.hid (runnest_fn b L hL (Sx.X L 0 (Sx.nest L [40] σ)).2 [41] (by decide) (fun h => by
    have h1 : (Sx.X L 0 (Sx.nest L [40] σ)).2.err = 0 := Sx.unnest_err (s := [41]) h
    have h2 : (Sx.nest L [40] σ).err = 0 := by
      apply Classical.byContradiction
      intro h3
      rw [Sx.X_err hL.ends hn1 h3] at h1
      exact h3 h1
    have := ho0 (herr0 h2)
    rw [Sx.op_X, hop]; omega))
  have HE := Lib.hid he
  have HU := Lib.hid hU
  clear h0 hP hL hat ho0 hs hop herr0 hn1 hX he htx hU
  go_enter Tryz.func218, Tryz.ntmps218
  go_wp2_with (first
    | (refine wpl_alloc HS.out _ rfl exZ ?_; intro b_r w1 HS1; clear HS; obtain ⟨a1, cap1, t1, m1, e1, p1, hr, hs3⟩ := HS1.out.rrOpen; have HR1 := Lib.hid hr; have HO1 := Lib.hid hs3; clear hs3 hr; have he' : e1 = 0 := (by rw [HR1.out.he]; exact HE.out))
    | (refine wpl_load HO1.out 0 rfl rfl intO rfl ?_))
  obtain ⟨hb0_1, hb1_1, hb2_1⟩ := rr_bound HR1.out
  refine wp_region_heldL (S := fun w' => w'.cell? ⟨b, 0, none⟩ = some (.slice (some a1) L.length cap1) ∧ w'.cell? ⟨b, 1, none⟩ = some (.int .i64 (t1 : Int)) ∧ w'.cell? ⟨(a1.add (t1 * 4)).block, (a1.add (t1 * 4)).off + 1, none⟩ = some (.int .i64 ((Sx.tk L σ).pos : Int))) 13 (by kernel_rfl) (⟨HO1.out.drew.cell 0 rfl 0, HO1.out.drew.cell 0 rfl 1, (tk_cells (toks_t ((HO1.out.drew.sep.pick 1 rfl).choose_spec.choose_spec.2.2.2.1) HR1.out)).2.1⟩) (fun hHeld => ?_)
  refine tkL 0 ?_
  refine tkL 1 ?_
  refine tkL 2 ?_
  refine tkL 3 ?_
  refine tkL 4 ?_
  refine tkL 5 ?_
  refine tkL 6 ?_
  refine tkL 7 ?_
  refine tkL 8 ?_
  refine tkL 9 ?_
  refine tkL 10 ?_
  refine tkL 11 ?_
  refine wpAnyL_one (i := 12) (by kernel_rfl) rfl (fun K hK => ?_)
  (refine wp_alloc HO1.out.drew _ rfl exZ ?_; intro b_x w181 HA; clear HS1)
  refine hK.out _ _ (⟨HA.out.cell 0 rfl 0, HA.out.cell 0 rfl 1, (tk_cells (toks_t ((HA.out.sep.pick 2 rfl).choose_spec.choose_spec.2.2.2.1) HR1.out)).2.1⟩) (fun hHeld => ?_)
  clear hK K
  (try simp only [Act.put, List.setIfInBounds_toArray, List.set_cons_zero, List.set_cons_succ, List.getElem_toArray, List.getElem_cons_succ, List.getElem_cons_zero])
  refine wpAnyL_last (by kernel_rfl) rfl (by kernel_rfl) (fun K hK => ?_)
  (refine wp_storeS HA.out 1 ⟨rfl, rfl⟩ rfl exT rfl (fitsX rfl) ?_; intro w182 hs; have HB := Lib.hid (show St _ _ _ (_ :: _ :: _ :: _ :: []) from hs.out); clear hs HA)
  refine hK.out _ _ ?_
  clear hK K
  have HS182 := Lib.hid ((HB.out.sel [0, 1, 0, 0] rfl).rrClose HR1.out)
  clear HB HO1
  (try simp only [Act.put, List.setIfInBounds_toArray, List.set_cons_zero, List.set_cons_succ, List.getElem_toArray, List.getElem_cons_succ, List.getElem_cons_zero])
  go_wp2_with (first
    | (go_at_call 131; refine (HS182.out.call1 C1.out).mono ?_; rintro e w21 ⟨J, ⟨rfl, rfl⟩, hs⟩; simp only [List.cons_append, List.nil_append] at hs; have HS21 := Lib.hid hs; clear hs HS182)
    | (go_at_call 133; refine (HS21.out.call1 C2.out).mono ?_; rintro e w22 ⟨J, ⟨rfl, rfl⟩, hs⟩; simp only [List.cons_append, List.nil_append] at hs; have HS22 := Lib.hid hs; clear hs HS21)
    | (go_at_call 185; refine (HS22.out.call1 CX.out).mono ?_; rintro e w23 ⟨J, ⟨k_u, p_u, n_u, nm_u, v_u, es_u, rfl, rfl, hx_u, h1_u⟩, hs⟩; simp only [List.cons_append, List.nil_append] at hs; have HS23 := Lib.hid hs; clear hs HS22; have HX_u := Lib.hid hx_u; clear hx_u)
    | (refine wpl_alloc HS23.out _ rfl exZ ?_; intro b_y w24 HS24; clear HS23)
    | (refine wpl_storeS HS24.out 1 rfl rfl exT rfl (fitsX h1_u) ?_; intro w25 hs; have HS25 := Lib.hid (show St _ _ _ (_ :: _ :: _ :: _ :: _ :: []) from hs.out); clear hs HS24)
    | (go_at_call 135; refine (HS25.out.call1 C4.out).mono ?_; rintro e w26 ⟨J, ⟨rfl, rfl⟩, hs⟩; simp only [List.cons_append, List.nil_append] at hs; have HS26 := Lib.hid hs; clear hs HS25)
    | (refine wpl_loadS HS26.out 1 rfl rfl exT rfl ?_)
    | (refine wpl_storeS HS26.out 4 rfl rfl exT rfl (fitsX h1_u) ?_; intro w27 hs; have HS27 := Lib.hid (show St _ _ _ (_ :: _ :: _ :: _ :: _ :: []) from hs.out); clear hs HS26))
  refine bp_cell HS27.out 4 exT rfl rfl rfl rfl rfl ⟨_, ⟨k_u, p_u, n_u, nm_u, v_u, es_u, rfl, rfl, fun h => ?_, h1_u⟩, ?_⟩
  · rw [HU.out] at h ⊢; exact HX_u.out (Sx.unnest_err h)
  · rw [HU.out]; exact HS27.out.sel [0, 1] rfl
set_option maxHeartbeats 8000000 in
set_option maxRecDepth 100000 in
theorem runary_word (b : Nat) (L : List Lx.Tok) (hL : Sx.Ok L) (σ : Sx.R) (he : σ.err = 0) (hn : Sx.text L σ ≠ [40]) (ht : ¬ (Sx.text L σ = [126] ∨ Sx.text L σ = [45] ∨ Sx.text L σ = [33])) (hW : rCW b L (Sx.text L σ) σ) : rCU b L σ := by
  intro w P hP h0
  have HS := Lib.hid (St.start hP h0)
  have hat := HS.out.rat
  have ho0 := HS.out.ropn0
  have hU := Sx.U_word hL.ends hat he hn ht
  have C1 := Lib.hid (rtext_fn b L σ)
  have CW := Lib.hid (show Fn 246 #[.pointer (some ⟨b, 0, none⟩), .string (Lx.S (Sx.text L σ))] [rr b L σ] (REP b L (Sx.W L (Sx.text L σ) σ)) from hW)
  generalize Sx.text L σ = s at C1 CW hn ht hU
  have hT : (Lx.S s).toList = s := by rw [Lib.toList_data]; rfl
  have g1 : (s == [126]) = false := by simpa using fun h => ht (Or.inl h)
  have g2 : (s == [45]) = false := by simpa using fun h => ht (Or.inr (Or.inl h))
  have g3 : (s == [33]) = false := by simpa using fun h => ht (Or.inr (Or.inr h))
  have g4 : (s == [40]) = false := by simpa using hn
  have HE := Lib.hid he
  have HU := Lib.hid hU
  clear h0 hP hL hat ho0 hn ht hU hW he
  go_enter Tryz.func218, Tryz.ntmps218
  go_wp2_with (first
    | (refine wpl_alloc HS.out _ rfl exZ ?_; intro b_r w1 HS1; clear HS; obtain ⟨a1, cap1, t1, m1, e1, p1, hr, hs3⟩ := HS1.out.rrOpen; have HR1 := Lib.hid hr; have HO1 := Lib.hid hs3; clear hs3 hr; have he' : e1 = 0 := (by rw [HR1.out.he]; exact HE.out))
    | (refine wpl_load HO1.out 0 rfl rfl intO rfl ?_))
  obtain ⟨hb0_1, hb1_1, hb2_1⟩ := rr_bound HR1.out
  refine wp_region_heldL (S := fun w' => w'.cell? ⟨b, 0, none⟩ = some (.slice (some a1) L.length cap1) ∧ w'.cell? ⟨b, 1, none⟩ = some (.int .i64 (t1 : Int)) ∧ w'.cell? ⟨(a1.add (t1 * 4)).block, (a1.add (t1 * 4)).off + 1, none⟩ = some (.int .i64 ((Sx.tk L σ).pos : Int))) 13 (by kernel_rfl) (⟨HO1.out.drew.cell 0 rfl 0, HO1.out.drew.cell 0 rfl 1, (tk_cells (toks_t ((HO1.out.drew.sep.pick 1 rfl).choose_spec.choose_spec.2.2.2.1) HR1.out)).2.1⟩) (fun hHeld => ?_)
  refine tkL 0 ?_
  refine tkL 1 ?_
  refine tkL 2 ?_
  refine tkL 3 ?_
  refine tkL 4 ?_
  refine tkL 5 ?_
  refine tkL 6 ?_
  refine tkL 7 ?_
  refine tkL 8 ?_
  refine tkL 9 ?_
  refine tkL 10 ?_
  refine tkL 11 ?_
  refine wpAnyL_one (i := 12) (by kernel_rfl) rfl (fun K hK => ?_)
  (refine wp_alloc HO1.out.drew _ rfl exZ ?_; intro b_x w181 HA; clear HS1)
  refine hK.out _ _ (⟨HA.out.cell 0 rfl 0, HA.out.cell 0 rfl 1, (tk_cells (toks_t ((HA.out.sep.pick 2 rfl).choose_spec.choose_spec.2.2.2.1) HR1.out)).2.1⟩) (fun hHeld => ?_)
  clear hK K
  (try simp only [Act.put, List.setIfInBounds_toArray, List.set_cons_zero, List.set_cons_succ, List.getElem_toArray, List.getElem_cons_succ, List.getElem_cons_zero])
  refine wpAnyL_last (by kernel_rfl) rfl (by kernel_rfl) (fun K hK => ?_)
  (refine wp_storeS HA.out 1 ⟨rfl, rfl⟩ rfl exT rfl (fitsX rfl) ?_; intro w182 hs; have HB := Lib.hid (show St _ _ _ (_ :: _ :: _ :: _ :: []) from hs.out); clear hs HA)
  refine hK.out _ _ ?_
  clear hK K
  have HS182 := Lib.hid ((HB.out.sel [0, 1, 0, 0] rfl).rrClose HR1.out)
  clear HB HO1
  (try simp only [Act.put, List.setIfInBounds_toArray, List.set_cons_zero, List.set_cons_succ, List.getElem_toArray, List.getElem_cons_succ, List.getElem_cons_zero])
  go_wp2_with (first
    | (go_at_call 131; refine (HS182.out.call1 C1.out).mono ?_; rintro e w21 ⟨J, ⟨rfl, rfl⟩, hs⟩; simp only [List.cons_append, List.nil_append] at hs; have HS21 := Lib.hid hs; clear hs HS182)
    | (go_at_call 246; refine (HS21.out.call1 CW.out).mono ?_; rintro e w22 ⟨J, ⟨k_u, p_u, n_u, nm_u, v_u, es_u, rfl, rfl, hx_u, h1_u⟩, hs⟩; simp only [List.cons_append, List.nil_append] at hs; have HS22 := Lib.hid hs; clear hs HS21; have HX_u := Lib.hid hx_u; clear hx_u)
    | (refine wpl_storeS HS22.out 3 rfl rfl exT rfl (fitsX h1_u) ?_; intro w23 hs; have HS23 := Lib.hid (show St _ _ _ (_ :: _ :: _ :: _ :: []) from hs.out); clear hs HS22))
  refine bp_cell HS23.out 3 exT rfl rfl rfl rfl rfl ⟨_, ⟨k_u, p_u, n_u, nm_u, v_u, es_u, rfl, rfl, fun h => ?_, h1_u⟩, ?_⟩
  · rw [HU.out] at h ⊢; exact HX_u.out h
  · rw [HU.out]; exact HS23.out.sel [0, 0] rfl
set_option maxHeartbeats 8000000 in
set_option maxRecDepth 100000 in
theorem runary_126 (b : Nat) (L : List Lx.Tok) (hL : Sx.Ok L) (σ : Sx.R) (he : σ.err = 0) (htx : Sx.text L σ = [126]) (hU0 : ∀ τ, Sx.M L τ + 16 ≤ Sx.M L σ → rCU b L τ) : rCU b L σ := by
  intro w P hP h0
  have HS := Lib.hid (St.start hP h0)
  have hat := HS.out.rat
  have ho0 := HS.out.ropn0
  have hU := Sx.U_sign hL.ends hat he (by rw [htx]; decide)
  rw [htx, show (if ([126] : List UInt8) = [126] then (5 : Int) else if ([126] : List UInt8) = [45] then 6 else 7) = 5 by decide] at hU
  have hop : (Sx.nest L [126] σ).opn = σ.opn + 1 := Sx.op_nest L [126] σ
  have herr0 : (Sx.nest L [126] σ).err = 0 → σ.err = 0 := fun h => Sx.nest_err hL (by decide) h
  have hn1 := (Sx.le_nest hL.ends [126] (by decide) σ).2.2.1 hat
  have C1 := Lib.hid (rtext_fn b L σ)
  rw [htx] at C1
  have hT : (Lx.S [126]).toList = [126] := by rw [Lib.toList_data]; rfl
  have C2 := Lib.hid (rnest_fn b L hL σ [126] (by decide))
  have CX := Lib.hid (show Fn 218 #[.pointer (some ⟨b, 0, none⟩)] [rr b L (Sx.nest L [126] σ)] (REP b L (Sx.U L (Sx.nest L [126] σ))) from hU0 (Sx.nest L [126] σ) (Sx.M_nest he hat))
  have hle : (Sx.U L (Sx.nest L [126] σ)).2.err = 0 → 1 ≤ (Sx.U L (Sx.nest L [126] σ)).2.opn := fun h1 => by
    have h2 : (Sx.nest L [126] σ).err = 0 := Sx.Le.ok (Sx.le_U hL.ends _) h1
    have := ho0 (herr0 h2)
    rw [(Sx.op_exprs L (Sx.fuel L)).2.2.1 (Sx.nest L [126] σ) |> fun h => (show (Sx.U L (Sx.nest L [126] σ)).2.opn = _ from h), hop]; omega
  have hz0 : ([] : List Sx.E).length < nMax := by unfold nMax; decide
  have HE := Lib.hid he
  have HU := Lib.hid hU
  have HLE := Lib.hid hle
  clear h0 hP hL hat ho0 hop herr0 hn1 hU0 he htx hU hle
  go_enter Tryz.func218, Tryz.ntmps218
  go_wp2_with (first
    | (refine wpl_alloc HS.out _ rfl exZ ?_; intro b_r w1 HS1; clear HS; obtain ⟨a1, cap1, t1, m1, e1, p1, hr, hs3⟩ := HS1.out.rrOpen; have HR1 := Lib.hid hr; have HO1 := Lib.hid hs3; clear hs3 hr; have he' : e1 = 0 := (by rw [HR1.out.he]; exact HE.out))
    | (refine wpl_load HO1.out 0 rfl rfl intO rfl ?_))
  obtain ⟨hb0_1, hb1_1, hb2_1⟩ := rr_bound HR1.out
  refine wp_region_heldL (S := fun w' => w'.cell? ⟨b, 0, none⟩ = some (.slice (some a1) L.length cap1) ∧ w'.cell? ⟨b, 1, none⟩ = some (.int .i64 (t1 : Int)) ∧ w'.cell? ⟨(a1.add (t1 * 4)).block, (a1.add (t1 * 4)).off + 1, none⟩ = some (.int .i64 ((Sx.tk L σ).pos : Int))) 13 (by kernel_rfl) (⟨HO1.out.drew.cell 0 rfl 0, HO1.out.drew.cell 0 rfl 1, (tk_cells (toks_t ((HO1.out.drew.sep.pick 1 rfl).choose_spec.choose_spec.2.2.2.1) HR1.out)).2.1⟩) (fun hHeld => ?_)
  refine tkL 0 ?_
  refine tkL 1 ?_
  refine tkL 2 ?_
  refine tkL 3 ?_
  refine tkL 4 ?_
  refine tkL 5 ?_
  refine tkL 6 ?_
  refine tkL 7 ?_
  refine tkL 8 ?_
  refine tkL 9 ?_
  refine tkL 10 ?_
  refine tkL 11 ?_
  refine wpAnyL_one (i := 12) (by kernel_rfl) rfl (fun K hK => ?_)
  (refine wp_alloc HO1.out.drew _ rfl exZ ?_; intro b_x w181 HA; clear HS1)
  refine hK.out _ _ (⟨HA.out.cell 0 rfl 0, HA.out.cell 0 rfl 1, (tk_cells (toks_t ((HA.out.sep.pick 2 rfl).choose_spec.choose_spec.2.2.2.1) HR1.out)).2.1⟩) (fun hHeld => ?_)
  clear hK K
  (try simp only [Act.put, List.setIfInBounds_toArray, List.set_cons_zero, List.set_cons_succ, List.getElem_toArray, List.getElem_cons_succ, List.getElem_cons_zero])
  refine wpAnyL_last (by kernel_rfl) rfl (by kernel_rfl) (fun K hK => ?_)
  (refine wp_storeS HA.out 1 ⟨rfl, rfl⟩ rfl exT rfl (fitsX rfl) ?_; intro w182 hs; have HB := Lib.hid (show St _ _ _ (_ :: _ :: _ :: _ :: []) from hs.out); clear hs HA)
  refine hK.out _ _ ?_
  clear hK K
  have HS182 := Lib.hid ((HB.out.sel [0, 1, 0, 0] rfl).rrClose HR1.out)
  clear HB HO1
  (try simp only [Act.put, List.setIfInBounds_toArray, List.set_cons_zero, List.set_cons_succ, List.getElem_toArray, List.getElem_cons_succ, List.getElem_cons_zero])
  go_wp2_with (first
    | (go_at_call 131; refine (HS182.out.call1 C1.out).mono ?_; rintro e w21 ⟨J, ⟨rfl, rfl⟩, hs⟩; simp only [List.cons_append, List.nil_append] at hs; have HS21 := Lib.hid hs; clear hs HS182)
    | (refine wpl_store HS21.out 1 rfl rfl intO (of_decide_eq_true rfl) rfl ?_; intro w22 hs; have HS22 := Lib.hid (show St _ _ _ (_ :: _ :: _ :: []) from hs.out); clear hs HS21)
    | (go_at_call 133; refine (HS22.out.call1 C2.out).mono ?_; rintro e w23 ⟨J, ⟨rfl, rfl⟩, hs⟩; simp only [List.cons_append, List.nil_append] at hs; have HS23 := Lib.hid hs; clear hs HS22; have HS24 := Lib.hid (HS23.out.to fun P h => h.under fun P h => lsI_nil h); clear HS23))
  refine wp_region_heldL (S := fun w' => w'.cell? ⟨b_x, 4, none⟩ = some (.slice none 0 0)) 7 (by kernel_rfl) (HS24.out.drew.cell 2 rfl 4) (fun hHeld => ?_)
  refine tkL 0 ?_
  refine tkL 1 ?_
  refine tkL 2 ?_
  refine wpAnyL_one (i := 3) (by kernel_rfl) rfl (fun K hK => ?_)
  go_simp
  (go_at_call 218; refine (HS24.out.drew.call1 CX.out).mono ?_; rintro e w25 ⟨J, ⟨k_a, p_a, n_a, nm_a, v_a, es_a, rfl, rfl, hx_a, h1_a⟩, hs⟩; simp only [List.cons_append, List.nil_append] at hs; have HS25 := Lib.hid hs; have HX_a := Lib.hid hx_a; clear hs hx_a HS24)
  refine hK.out _ _ (HS25.out.cell 3 rfl 4) (fun hHeld => ?_)
  clear hK K
  (try simp only [Act.put, List.setIfInBounds_toArray, List.set_cons_zero, List.set_cons_succ, List.getElem_toArray, List.getElem_cons_succ, List.getElem_cons_zero])
  refine wpAnyL_one (i := 4) (by kernel_rfl) rfl (fun K hK => ?_)
  (refine wp_slice HS25.out rfl Tryz.underlying51 (exB _ _ _ _ _) ?_; intro b_a w26 hs; have HS26 := Lib.hid (show St _ _ _ (_ :: _ :: _ :: _ :: _ :: _ :: []) from hs.out); clear hs HS25)
  refine hK.out _ _ (HS26.out.cell 4 rfl 4) (fun hHeld => ?_)
  clear hK K
  (try simp only [Act.put, List.setIfInBounds_toArray, List.set_cons_zero, List.set_cons_succ, List.getElem_toArray, List.getElem_cons_succ, List.getElem_cons_zero])
  refine wpAnyL_one (i := 5) (by kernel_rfl) rfl (fun K hK => ?_)
  (refine wp_appE HS26.out 0 rfl rfl Tryz.underlying51 h1_a hz0 ?_; intro q_a c_a w27 hs; have HS27 := Lib.hid (show St _ _ _ (_ :: _ :: _ :: _ :: []) from hs.out); clear hs HS26)
  refine hK.out _ _ (HS27.out.cell 2 rfl 4) (fun hHeld => ?_)
  clear hK K
  (try simp only [Act.put, List.setIfInBounds_toArray, List.set_cons_zero, List.set_cons_succ, List.getElem_toArray, List.getElem_cons_succ, List.getElem_cons_zero])
  refine tkL 6 ?_
  refine wpAnyL_last (by kernel_rfl) rfl (by kernel_rfl) (fun K hK => ?_)
  (refine wp_store1 HS27.out 2 rfl rfl exprsO (of_decide_eq_true rfl) rfl ?_; intro w28 hs; have HS28 := Lib.hid (show St _ _ _ (_ :: _ :: _ :: _ :: []) from hs.out); clear hs HS27)
  refine hK.out _ _ ?_
  clear hK K
  (try simp only [Act.put, List.setIfInBounds_toArray, List.set_cons_zero, List.set_cons_succ, List.getElem_toArray, List.getElem_cons_succ, List.getElem_cons_zero])
  obtain ⟨a28, cap28, t28, m28, e28, p28, hr, hs3⟩ := HS28.out.rrOpen; have HR28 := Lib.hid hr; have HO28 := Lib.hid hs3; clear hs3 hr
  go_wp2_with (first
    | (refine wpl_load HO28.out 0 rfl rfl intO rfl ?_)
    | (refine wpl_store HO28.out 0 rfl rfl intO (of_decide_eq_true rfl) rfl ?_; intro w29 hs; have HS29 := Lib.hid (St.rrClose (rr_less HR28.out HLE.out) (show St _ _ _ (.row b 75 (rrC a28 cap28 L t28 (wrap64 (m28 - 1)) e28 p28) :: .hp (toksHp a28 L) :: _ :: _ :: _ :: []) from hs.out)); clear hs HS28 HO28)
    | (refine wpl_loadS HS29.out 2 rfl rfl exT rfl ?_)
    | (refine wpl_storeS HS29.out 3 rfl rfl exT rfl (fitsX rfl) ?_; intro w30 hs; have HS30 := Lib.hid (show St _ _ _ (_ :: _ :: _ :: _ :: []) from hs.out); clear hs HS29))
  refine bp_cell HS30.out 3 exT rfl rfl rfl rfl rfl ⟨_, ⟨5, (Sx.tk L σ).pos, 0, [], _, [.mk k_a p_a n_a nm_a es_a], rfl, rfl, fun h => ?_, rfl⟩, ?_⟩
  · rw [HU.out] at h ⊢; exact congrArg (fun z => Sx.E.mk 5 (Sx.tk L σ).pos 0 [] [z]) (HX_a.out h)
  · rw [HU.out]; exact HS30.out.sel [0, 0] rfl
set_option maxHeartbeats 8000000 in
set_option maxRecDepth 100000 in
theorem runary_45 (b : Nat) (L : List Lx.Tok) (hL : Sx.Ok L) (σ : Sx.R) (he : σ.err = 0) (htx : Sx.text L σ = [45]) (hU0 : ∀ τ, Sx.M L τ + 16 ≤ Sx.M L σ → rCU b L τ) : rCU b L σ := by
  intro w P hP h0
  have HS := Lib.hid (St.start hP h0)
  have hat := HS.out.rat
  have ho0 := HS.out.ropn0
  have hU := Sx.U_sign hL.ends hat he (by rw [htx]; decide)
  rw [htx, show (if ([45] : List UInt8) = [126] then (5 : Int) else if ([45] : List UInt8) = [45] then 6 else 7) = 6 by decide] at hU
  have hop : (Sx.nest L [45] σ).opn = σ.opn + 1 := Sx.op_nest L [45] σ
  have herr0 : (Sx.nest L [45] σ).err = 0 → σ.err = 0 := fun h => Sx.nest_err hL (by decide) h
  have hn1 := (Sx.le_nest hL.ends [45] (by decide) σ).2.2.1 hat
  have C1 := Lib.hid (rtext_fn b L σ)
  rw [htx] at C1
  have hT : (Lx.S [45]).toList = [45] := by rw [Lib.toList_data]; rfl
  have C2 := Lib.hid (rnest_fn b L hL σ [45] (by decide))
  have CX := Lib.hid (show Fn 218 #[.pointer (some ⟨b, 0, none⟩)] [rr b L (Sx.nest L [45] σ)] (REP b L (Sx.U L (Sx.nest L [45] σ))) from hU0 (Sx.nest L [45] σ) (Sx.M_nest he hat))
  have hle : (Sx.U L (Sx.nest L [45] σ)).2.err = 0 → 1 ≤ (Sx.U L (Sx.nest L [45] σ)).2.opn := fun h1 => by
    have h2 : (Sx.nest L [45] σ).err = 0 := Sx.Le.ok (Sx.le_U hL.ends _) h1
    have := ho0 (herr0 h2)
    rw [(Sx.op_exprs L (Sx.fuel L)).2.2.1 (Sx.nest L [45] σ) |> fun h => (show (Sx.U L (Sx.nest L [45] σ)).2.opn = _ from h), hop]; omega
  have hz0 : ([] : List Sx.E).length < nMax := by unfold nMax; decide
  have HE := Lib.hid he
  have HU := Lib.hid hU
  have HLE := Lib.hid hle
  clear h0 hP hL hat ho0 hop herr0 hn1 hU0 he htx hU hle
  go_enter Tryz.func218, Tryz.ntmps218
  go_wp2_with (first
    | (refine wpl_alloc HS.out _ rfl exZ ?_; intro b_r w1 HS1; clear HS; obtain ⟨a1, cap1, t1, m1, e1, p1, hr, hs3⟩ := HS1.out.rrOpen; have HR1 := Lib.hid hr; have HO1 := Lib.hid hs3; clear hs3 hr; have he' : e1 = 0 := (by rw [HR1.out.he]; exact HE.out))
    | (refine wpl_load HO1.out 0 rfl rfl intO rfl ?_))
  obtain ⟨hb0_1, hb1_1, hb2_1⟩ := rr_bound HR1.out
  refine wp_region_heldL (S := fun w' => w'.cell? ⟨b, 0, none⟩ = some (.slice (some a1) L.length cap1) ∧ w'.cell? ⟨b, 1, none⟩ = some (.int .i64 (t1 : Int)) ∧ w'.cell? ⟨(a1.add (t1 * 4)).block, (a1.add (t1 * 4)).off + 1, none⟩ = some (.int .i64 ((Sx.tk L σ).pos : Int))) 13 (by kernel_rfl) (⟨HO1.out.drew.cell 0 rfl 0, HO1.out.drew.cell 0 rfl 1, (tk_cells (toks_t ((HO1.out.drew.sep.pick 1 rfl).choose_spec.choose_spec.2.2.2.1) HR1.out)).2.1⟩) (fun hHeld => ?_)
  refine tkL 0 ?_
  refine tkL 1 ?_
  refine tkL 2 ?_
  refine tkL 3 ?_
  refine tkL 4 ?_
  refine tkL 5 ?_
  refine tkL 6 ?_
  refine tkL 7 ?_
  refine tkL 8 ?_
  refine tkL 9 ?_
  refine tkL 10 ?_
  refine tkL 11 ?_
  refine wpAnyL_one (i := 12) (by kernel_rfl) rfl (fun K hK => ?_)
  (refine wp_alloc HO1.out.drew _ rfl exZ ?_; intro b_x w181 HA; clear HS1)
  refine hK.out _ _ (⟨HA.out.cell 0 rfl 0, HA.out.cell 0 rfl 1, (tk_cells (toks_t ((HA.out.sep.pick 2 rfl).choose_spec.choose_spec.2.2.2.1) HR1.out)).2.1⟩) (fun hHeld => ?_)
  clear hK K
  (try simp only [Act.put, List.setIfInBounds_toArray, List.set_cons_zero, List.set_cons_succ, List.getElem_toArray, List.getElem_cons_succ, List.getElem_cons_zero])
  refine wpAnyL_last (by kernel_rfl) rfl (by kernel_rfl) (fun K hK => ?_)
  (refine wp_storeS HA.out 1 ⟨rfl, rfl⟩ rfl exT rfl (fitsX rfl) ?_; intro w182 hs; have HB := Lib.hid (show St _ _ _ (_ :: _ :: _ :: _ :: []) from hs.out); clear hs HA)
  refine hK.out _ _ ?_
  clear hK K
  have HS182 := Lib.hid ((HB.out.sel [0, 1, 0, 0] rfl).rrClose HR1.out)
  clear HB HO1
  (try simp only [Act.put, List.setIfInBounds_toArray, List.set_cons_zero, List.set_cons_succ, List.getElem_toArray, List.getElem_cons_succ, List.getElem_cons_zero])
  go_wp2_with (first
    | (go_at_call 131; refine (HS182.out.call1 C1.out).mono ?_; rintro e w21 ⟨J, ⟨rfl, rfl⟩, hs⟩; simp only [List.cons_append, List.nil_append] at hs; have HS21 := Lib.hid hs; clear hs HS182)
    | (refine wpl_store HS21.out 1 rfl rfl intO (of_decide_eq_true rfl) rfl ?_; intro w22 hs; have HS22 := Lib.hid (show St _ _ _ (_ :: _ :: _ :: []) from hs.out); clear hs HS21)
    | (go_at_call 133; refine (HS22.out.call1 C2.out).mono ?_; rintro e w23 ⟨J, ⟨rfl, rfl⟩, hs⟩; simp only [List.cons_append, List.nil_append] at hs; have HS23 := Lib.hid hs; clear hs HS22; have HS24 := Lib.hid (HS23.out.to fun P h => h.under fun P h => lsI_nil h); clear HS23))
  refine wp_region_heldL (S := fun w' => w'.cell? ⟨b_x, 4, none⟩ = some (.slice none 0 0)) 7 (by kernel_rfl) (HS24.out.drew.cell 2 rfl 4) (fun hHeld => ?_)
  refine tkL 0 ?_
  refine tkL 1 ?_
  refine tkL 2 ?_
  refine wpAnyL_one (i := 3) (by kernel_rfl) rfl (fun K hK => ?_)
  go_simp
  (go_at_call 218; refine (HS24.out.drew.call1 CX.out).mono ?_; rintro e w25 ⟨J, ⟨k_a, p_a, n_a, nm_a, v_a, es_a, rfl, rfl, hx_a, h1_a⟩, hs⟩; simp only [List.cons_append, List.nil_append] at hs; have HS25 := Lib.hid hs; have HX_a := Lib.hid hx_a; clear hs hx_a HS24)
  refine hK.out _ _ (HS25.out.cell 3 rfl 4) (fun hHeld => ?_)
  clear hK K
  (try simp only [Act.put, List.setIfInBounds_toArray, List.set_cons_zero, List.set_cons_succ, List.getElem_toArray, List.getElem_cons_succ, List.getElem_cons_zero])
  refine wpAnyL_one (i := 4) (by kernel_rfl) rfl (fun K hK => ?_)
  (refine wp_slice HS25.out rfl Tryz.underlying51 (exB _ _ _ _ _) ?_; intro b_a w26 hs; have HS26 := Lib.hid (show St _ _ _ (_ :: _ :: _ :: _ :: _ :: _ :: []) from hs.out); clear hs HS25)
  refine hK.out _ _ (HS26.out.cell 4 rfl 4) (fun hHeld => ?_)
  clear hK K
  (try simp only [Act.put, List.setIfInBounds_toArray, List.set_cons_zero, List.set_cons_succ, List.getElem_toArray, List.getElem_cons_succ, List.getElem_cons_zero])
  refine wpAnyL_one (i := 5) (by kernel_rfl) rfl (fun K hK => ?_)
  (refine wp_appE HS26.out 0 rfl rfl Tryz.underlying51 h1_a hz0 ?_; intro q_a c_a w27 hs; have HS27 := Lib.hid (show St _ _ _ (_ :: _ :: _ :: _ :: []) from hs.out); clear hs HS26)
  refine hK.out _ _ (HS27.out.cell 2 rfl 4) (fun hHeld => ?_)
  clear hK K
  (try simp only [Act.put, List.setIfInBounds_toArray, List.set_cons_zero, List.set_cons_succ, List.getElem_toArray, List.getElem_cons_succ, List.getElem_cons_zero])
  refine tkL 6 ?_
  refine wpAnyL_last (by kernel_rfl) rfl (by kernel_rfl) (fun K hK => ?_)
  (refine wp_store1 HS27.out 2 rfl rfl exprsO (of_decide_eq_true rfl) rfl ?_; intro w28 hs; have HS28 := Lib.hid (show St _ _ _ (_ :: _ :: _ :: _ :: []) from hs.out); clear hs HS27)
  refine hK.out _ _ ?_
  clear hK K
  (try simp only [Act.put, List.setIfInBounds_toArray, List.set_cons_zero, List.set_cons_succ, List.getElem_toArray, List.getElem_cons_succ, List.getElem_cons_zero])
  obtain ⟨a28, cap28, t28, m28, e28, p28, hr, hs3⟩ := HS28.out.rrOpen; have HR28 := Lib.hid hr; have HO28 := Lib.hid hs3; clear hs3 hr
  go_wp2_with (first
    | (refine wpl_load HO28.out 0 rfl rfl intO rfl ?_)
    | (refine wpl_store HO28.out 0 rfl rfl intO (of_decide_eq_true rfl) rfl ?_; intro w29 hs; have HS29 := Lib.hid (St.rrClose (rr_less HR28.out HLE.out) (show St _ _ _ (.row b 75 (rrC a28 cap28 L t28 (wrap64 (m28 - 1)) e28 p28) :: .hp (toksHp a28 L) :: _ :: _ :: _ :: []) from hs.out)); clear hs HS28 HO28)
    | (refine wpl_loadS HS29.out 2 rfl rfl exT rfl ?_)
    | (refine wpl_storeS HS29.out 3 rfl rfl exT rfl (fitsX rfl) ?_; intro w30 hs; have HS30 := Lib.hid (show St _ _ _ (_ :: _ :: _ :: _ :: []) from hs.out); clear hs HS29))
  refine bp_cell HS30.out 3 exT rfl rfl rfl rfl rfl ⟨_, ⟨6, (Sx.tk L σ).pos, 0, [], _, [.mk k_a p_a n_a nm_a es_a], rfl, rfl, fun h => ?_, rfl⟩, ?_⟩
  · rw [HU.out] at h ⊢; exact congrArg (fun z => Sx.E.mk 6 (Sx.tk L σ).pos 0 [] [z]) (HX_a.out h)
  · rw [HU.out]; exact HS30.out.sel [0, 0] rfl
set_option maxHeartbeats 8000000 in
set_option maxRecDepth 100000 in
theorem runary_33 (b : Nat) (L : List Lx.Tok) (hL : Sx.Ok L) (σ : Sx.R) (he : σ.err = 0) (htx : Sx.text L σ = [33]) (hU0 : ∀ τ, Sx.M L τ + 16 ≤ Sx.M L σ → rCU b L τ) : rCU b L σ := by
  intro w P hP h0
  have HS := Lib.hid (St.start hP h0)
  have hat := HS.out.rat
  have ho0 := HS.out.ropn0
  have hU := Sx.U_sign hL.ends hat he (by rw [htx]; decide)
  rw [htx, show (if ([33] : List UInt8) = [126] then (5 : Int) else if ([33] : List UInt8) = [45] then 6 else 7) = 7 by decide] at hU
  have hop : (Sx.nest L [33] σ).opn = σ.opn + 1 := Sx.op_nest L [33] σ
  have herr0 : (Sx.nest L [33] σ).err = 0 → σ.err = 0 := fun h => Sx.nest_err hL (by decide) h
  have hn1 := (Sx.le_nest hL.ends [33] (by decide) σ).2.2.1 hat
  have C1 := Lib.hid (rtext_fn b L σ)
  rw [htx] at C1
  have hT : (Lx.S [33]).toList = [33] := by rw [Lib.toList_data]; rfl
  have C2 := Lib.hid (rnest_fn b L hL σ [33] (by decide))
  have CX := Lib.hid (show Fn 218 #[.pointer (some ⟨b, 0, none⟩)] [rr b L (Sx.nest L [33] σ)] (REP b L (Sx.U L (Sx.nest L [33] σ))) from hU0 (Sx.nest L [33] σ) (Sx.M_nest he hat))
  have hle : (Sx.U L (Sx.nest L [33] σ)).2.err = 0 → 1 ≤ (Sx.U L (Sx.nest L [33] σ)).2.opn := fun h1 => by
    have h2 : (Sx.nest L [33] σ).err = 0 := Sx.Le.ok (Sx.le_U hL.ends _) h1
    have := ho0 (herr0 h2)
    rw [(Sx.op_exprs L (Sx.fuel L)).2.2.1 (Sx.nest L [33] σ) |> fun h => (show (Sx.U L (Sx.nest L [33] σ)).2.opn = _ from h), hop]; omega
  have hz0 : ([] : List Sx.E).length < nMax := by unfold nMax; decide
  have HE := Lib.hid he
  have HU := Lib.hid hU
  have HLE := Lib.hid hle
  clear h0 hP hL hat ho0 hop herr0 hn1 hU0 he htx hU hle
  go_enter Tryz.func218, Tryz.ntmps218
  go_wp2_with (first
    | (refine wpl_alloc HS.out _ rfl exZ ?_; intro b_r w1 HS1; clear HS; obtain ⟨a1, cap1, t1, m1, e1, p1, hr, hs3⟩ := HS1.out.rrOpen; have HR1 := Lib.hid hr; have HO1 := Lib.hid hs3; clear hs3 hr; have he' : e1 = 0 := (by rw [HR1.out.he]; exact HE.out))
    | (refine wpl_load HO1.out 0 rfl rfl intO rfl ?_))
  obtain ⟨hb0_1, hb1_1, hb2_1⟩ := rr_bound HR1.out
  refine wp_region_heldL (S := fun w' => w'.cell? ⟨b, 0, none⟩ = some (.slice (some a1) L.length cap1) ∧ w'.cell? ⟨b, 1, none⟩ = some (.int .i64 (t1 : Int)) ∧ w'.cell? ⟨(a1.add (t1 * 4)).block, (a1.add (t1 * 4)).off + 1, none⟩ = some (.int .i64 ((Sx.tk L σ).pos : Int))) 13 (by kernel_rfl) (⟨HO1.out.drew.cell 0 rfl 0, HO1.out.drew.cell 0 rfl 1, (tk_cells (toks_t ((HO1.out.drew.sep.pick 1 rfl).choose_spec.choose_spec.2.2.2.1) HR1.out)).2.1⟩) (fun hHeld => ?_)
  refine tkL 0 ?_
  refine tkL 1 ?_
  refine tkL 2 ?_
  refine tkL 3 ?_
  refine tkL 4 ?_
  refine tkL 5 ?_
  refine tkL 6 ?_
  refine tkL 7 ?_
  refine tkL 8 ?_
  refine tkL 9 ?_
  refine tkL 10 ?_
  refine tkL 11 ?_
  refine wpAnyL_one (i := 12) (by kernel_rfl) rfl (fun K hK => ?_)
  (refine wp_alloc HO1.out.drew _ rfl exZ ?_; intro b_x w181 HA; clear HS1)
  refine hK.out _ _ (⟨HA.out.cell 0 rfl 0, HA.out.cell 0 rfl 1, (tk_cells (toks_t ((HA.out.sep.pick 2 rfl).choose_spec.choose_spec.2.2.2.1) HR1.out)).2.1⟩) (fun hHeld => ?_)
  clear hK K
  (try simp only [Act.put, List.setIfInBounds_toArray, List.set_cons_zero, List.set_cons_succ, List.getElem_toArray, List.getElem_cons_succ, List.getElem_cons_zero])
  refine wpAnyL_last (by kernel_rfl) rfl (by kernel_rfl) (fun K hK => ?_)
  (refine wp_storeS HA.out 1 ⟨rfl, rfl⟩ rfl exT rfl (fitsX rfl) ?_; intro w182 hs; have HB := Lib.hid (show St _ _ _ (_ :: _ :: _ :: _ :: []) from hs.out); clear hs HA)
  refine hK.out _ _ ?_
  clear hK K
  have HS182 := Lib.hid ((HB.out.sel [0, 1, 0, 0] rfl).rrClose HR1.out)
  clear HB HO1
  (try simp only [Act.put, List.setIfInBounds_toArray, List.set_cons_zero, List.set_cons_succ, List.getElem_toArray, List.getElem_cons_succ, List.getElem_cons_zero])
  go_wp2_with (first
    | (go_at_call 131; refine (HS182.out.call1 C1.out).mono ?_; rintro e w21 ⟨J, ⟨rfl, rfl⟩, hs⟩; simp only [List.cons_append, List.nil_append] at hs; have HS21 := Lib.hid hs; clear hs HS182)
    | (refine wpl_store HS21.out 1 rfl rfl intO (of_decide_eq_true rfl) rfl ?_; intro w22 hs; have HS22 := Lib.hid (show St _ _ _ (_ :: _ :: _ :: []) from hs.out); clear hs HS21)
    | (go_at_call 133; refine (HS22.out.call1 C2.out).mono ?_; rintro e w23 ⟨J, ⟨rfl, rfl⟩, hs⟩; simp only [List.cons_append, List.nil_append] at hs; have HS23 := Lib.hid hs; clear hs HS22; have HS24 := Lib.hid (HS23.out.to fun P h => h.under fun P h => lsI_nil h); clear HS23))
  refine wp_region_heldL (S := fun w' => w'.cell? ⟨b_x, 4, none⟩ = some (.slice none 0 0)) 7 (by kernel_rfl) (HS24.out.drew.cell 2 rfl 4) (fun hHeld => ?_)
  refine tkL 0 ?_
  refine tkL 1 ?_
  refine tkL 2 ?_
  refine wpAnyL_one (i := 3) (by kernel_rfl) rfl (fun K hK => ?_)
  go_simp
  (go_at_call 218; refine (HS24.out.drew.call1 CX.out).mono ?_; rintro e w25 ⟨J, ⟨k_a, p_a, n_a, nm_a, v_a, es_a, rfl, rfl, hx_a, h1_a⟩, hs⟩; simp only [List.cons_append, List.nil_append] at hs; have HS25 := Lib.hid hs; have HX_a := Lib.hid hx_a; clear hs hx_a HS24)
  refine hK.out _ _ (HS25.out.cell 3 rfl 4) (fun hHeld => ?_)
  clear hK K
  (try simp only [Act.put, List.setIfInBounds_toArray, List.set_cons_zero, List.set_cons_succ, List.getElem_toArray, List.getElem_cons_succ, List.getElem_cons_zero])
  refine wpAnyL_one (i := 4) (by kernel_rfl) rfl (fun K hK => ?_)
  (refine wp_slice HS25.out rfl Tryz.underlying51 (exB _ _ _ _ _) ?_; intro b_a w26 hs; have HS26 := Lib.hid (show St _ _ _ (_ :: _ :: _ :: _ :: _ :: _ :: []) from hs.out); clear hs HS25)
  refine hK.out _ _ (HS26.out.cell 4 rfl 4) (fun hHeld => ?_)
  clear hK K
  (try simp only [Act.put, List.setIfInBounds_toArray, List.set_cons_zero, List.set_cons_succ, List.getElem_toArray, List.getElem_cons_succ, List.getElem_cons_zero])
  refine wpAnyL_one (i := 5) (by kernel_rfl) rfl (fun K hK => ?_)
  (refine wp_appE HS26.out 0 rfl rfl Tryz.underlying51 h1_a hz0 ?_; intro q_a c_a w27 hs; have HS27 := Lib.hid (show St _ _ _ (_ :: _ :: _ :: _ :: []) from hs.out); clear hs HS26)
  refine hK.out _ _ (HS27.out.cell 2 rfl 4) (fun hHeld => ?_)
  clear hK K
  (try simp only [Act.put, List.setIfInBounds_toArray, List.set_cons_zero, List.set_cons_succ, List.getElem_toArray, List.getElem_cons_succ, List.getElem_cons_zero])
  refine tkL 6 ?_
  refine wpAnyL_last (by kernel_rfl) rfl (by kernel_rfl) (fun K hK => ?_)
  (refine wp_store1 HS27.out 2 rfl rfl exprsO (of_decide_eq_true rfl) rfl ?_; intro w28 hs; have HS28 := Lib.hid (show St _ _ _ (_ :: _ :: _ :: _ :: []) from hs.out); clear hs HS27)
  refine hK.out _ _ ?_
  clear hK K
  (try simp only [Act.put, List.setIfInBounds_toArray, List.set_cons_zero, List.set_cons_succ, List.getElem_toArray, List.getElem_cons_succ, List.getElem_cons_zero])
  obtain ⟨a28, cap28, t28, m28, e28, p28, hr, hs3⟩ := HS28.out.rrOpen; have HR28 := Lib.hid hr; have HO28 := Lib.hid hs3; clear hs3 hr
  go_wp2_with (first
    | (refine wpl_load HO28.out 0 rfl rfl intO rfl ?_)
    | (refine wpl_store HO28.out 0 rfl rfl intO (of_decide_eq_true rfl) rfl ?_; intro w29 hs; have HS29 := Lib.hid (St.rrClose (rr_less HR28.out HLE.out) (show St _ _ _ (.row b 75 (rrC a28 cap28 L t28 (wrap64 (m28 - 1)) e28 p28) :: .hp (toksHp a28 L) :: _ :: _ :: _ :: []) from hs.out)); clear hs HS28 HO28)
    | (refine wpl_loadS HS29.out 2 rfl rfl exT rfl ?_)
    | (refine wpl_storeS HS29.out 3 rfl rfl exT rfl (fitsX rfl) ?_; intro w30 hs; have HS30 := Lib.hid (show St _ _ _ (_ :: _ :: _ :: _ :: []) from hs.out); clear hs HS29))
  refine bp_cell HS30.out 3 exT rfl rfl rfl rfl rfl ⟨_, ⟨7, (Sx.tk L σ).pos, 0, [], _, [.mk k_a p_a n_a nm_a es_a], rfl, rfl, fun h => ?_, rfl⟩, ?_⟩
  · rw [HU.out] at h ⊢; exact congrArg (fun z => Sx.E.mk 7 (Sx.tk L σ).pos 0 [] [z]) (HX_a.out h)
  · rw [HU.out]; exact HS30.out.sel [0, 0] rfl
theorem runary_of (b : Nat) (L : List Lx.Tok) (hL : Sx.Ok L) (σ : Sx.R) (hat : σ.at' < L.length) (hX : ∀ τ, Sx.M L τ + 16 ≤ Sx.M L σ → rCX b L 0 τ) (hU : ∀ τ, Sx.M L τ + 16 ≤ Sx.M L σ → rCU b L τ) (hW : σ.err = 0 → rCW b L (Sx.text L σ) σ) : rCU b L σ := by
  by_cases he : σ.err = 0
  · by_cases h1 : Sx.text L σ = [126]
    · exact runary_126 b L hL σ he h1 hU
    by_cases h2 : Sx.text L σ = [45]
    · exact runary_45 b L hL σ he h2 hU
    by_cases h3 : Sx.text L σ = [33]
    · exact runary_33 b L hL σ he h3 hU
    by_cases h4 : Sx.text L σ = [40]
    · exact runary_par b L hL σ (by unfold Sx.sees; rw [decide_eq_true he, decide_eq_true h4]; rfl) hX
    · exact runary_word b L hL σ he h4 (fun h => by rcases h with h | h | h; exact h1 h; exact h2 h; exact h3 h) (hW he)
  · exact runary_err b L hL σ he
end Go.Proofs.YtjfdcnggnldgdaaGreatDoor
end
