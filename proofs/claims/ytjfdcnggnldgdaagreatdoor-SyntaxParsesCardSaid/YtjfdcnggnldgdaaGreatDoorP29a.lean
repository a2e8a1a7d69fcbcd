/-
The document's reader: what is handed over to a name; how tight a sign binds.
The document's reader: how tight a sign binds; the signs behind an expression.
-/
import Derived.Test.YtjfdcnggnldgdaaGreatDoorP24a
import Derived.Test.YtjfdcnggnldgdaaGreatDoorP27a
import Derived.Test.YtjfdcnggnldgdaaGreatDoorP23a
section
namespace Go.Proofs.YtjfdcnggnldgdaaGreatDoor
open Go.ChangeShapes Go.WideShapes Go.ChangeAt Go.RowKit
set_option linter.unusedVariables false
set_option linter.unusedSimpArgs false

theorem Sx.eat_is {L : List Lx.Tok} {s : List UInt8} {σ : Sx.R} (h : Sx.sees L s σ = true) : Sx.eat L s σ = { σ with at' := σ.at' + 1 } := by
  obtain ⟨he, ht⟩ := Sx.sees_text h
  unfold Sx.eat
  rw [if_neg (by simpa using he), if_neg (by simpa using ht)]
theorem Sx.le_Cm {L : List Lx.Tok} (hL : Sx.Ends L) (σ : Sx.R) : Sx.Le L σ (Sx.Cm L σ).2 := (Sx.le_exprs hL _).2.2.2.2.2.2 σ
set_option maxHeartbeats 8000000 in
set_option maxRecDepth 100000 in
theorem rbehind_args (b : Nat) (L : List Lx.Tok) (hL : Sx.Ok L) (τ : Sx.R) (t : Lx.Tok) (hE : ∀ ρ, Sx.M L ρ ≤ Sx.M L τ → rCX b L 0 ρ) (h1 : Sx.sees L [40] τ = true) (h2 : Sx.sees L [41] (Sx.nest L [40] τ) = false) : Fn 220 #[.pointer (some ⟨b, 0, none⟩), .agg (tkA t.kind t.pos t.num (Lx.S t.text))] [rr b L τ] (REP b L (Sx.Bh L t τ)) := by
  intro w P hP h0
  have HS := Lib.hid (St.start hP h0)
  have hat := HS.out.rat
  have ho0 := HS.out.ropn0
  have C1 := Lib.hid (rsees_fn b L τ [40])
  have hop : (Sx.nest L [40] τ).opn = τ.opn + 1 := Sx.op_nest L [40] τ
  have herr0 : (Sx.nest L [40] τ).err = 0 → τ.err = 0 := fun h => Sx.nest_err hL (by decide) h
  have hn1 := (Sx.le_nest hL.ends [40] (by decide) τ).2.2.1 hat
  have hM1 := Sx.M_le (Sx.le_nest hL.ends [40] (by decide) τ)
  have C2 := Lib.hid (rnest_fn b L hL τ [40] (by decide))
  rw [h1] at C1
  rw [Sx.Bh_call hL.ends t hat h1]
  have hA : Sx.Ar L 0 (Sx.nest L [40] τ) = ((Sx.X L 0 (Sx.nest L [40] τ)).1 :: (Sx.Cm L (Sx.X L 0 (Sx.nest L [40] τ)).2).1, (Sx.Cm L (Sx.X L 0 (Sx.nest L [40] τ)).2).2) := by unfold Sx.Ar; rw [if_pos rfl, if_neg (by rw [h2]; decide)]
  rw [hA]
  have C3 := Lib.hid (rsees_fn b L (Sx.nest L [40] τ) [41])
  rw [h2] at C3
  have CX := Lib.hid (hE (Sx.nest L [40] τ) hM1)
  have hz0 : ([] : List Sx.E).length < nMax := by unfold nMax; decide
  have hat0 : (Sx.X L 0 (Sx.nest L [40] τ)).2.err = 0 → 1 ≤ (Sx.X L 0 (Sx.nest L [40] τ)).2.at' := fun h => by
    have := Sx.X_at hL.ends hn1 h
    omega
  have hop0 : (Sx.X L 0 (Sx.nest L [40] τ)).2.opn = τ.opn + 1 := by rw [Sx.op_X, hop]
  have her0 : (Sx.X L 0 (Sx.nest L [40] τ)).2.err = 0 → τ.err = 0 := fun h => herr0 (Sx.Le.ok (Sx.le_X hL.ends 0 _) h)
  have hMx := Nat.le_trans (Sx.M_le (Sx.le_X hL.ends 0 (Sx.nest L [40] τ))) hM1
  generalize hX : Sx.X L 0 (Sx.nest L [40] τ) = y0 at *
  have HG := Lib.hid (And.intro hat0 (And.intro hop0 (And.intro her0 (And.intro ho0 hMx))))
  have HL := Lib.hid hL
  have HE := Lib.hid hE
  clear h0 hP hL hat ho0 h1 h2 hop herr0 hn1 hM1 hA hE hat0 hop0 her0 hMx
  have CX : Hid (Fn 185 #[.pointer (some ⟨b, 0, none⟩), .int .i64 ((0 : Nat) : Int)] [rr b L (Sx.nest L [40] τ)] (REP b L y0)) := Lib.hid (by have := CX.out; unfold rCX at this; rw [hX] at this; exact this)
  clear hX
  go_enter Tryz.func220, Tryz.ntmps220
  go_wp2_with (first
    | (refine wpl_box HS.out rfl rfl ?_; intro b_n w1 HS1; clear HS)
    | (refine wpl_alloc HS1.out _ rfl exZ ?_; intro b_r w2 HS2; clear HS1)
    | (refine wpl_load HS2.out 2 rfl rfl intO rfl ?_)
    | (refine wpl_load HS2.out 2 rfl rfl strO rfl ?_)
    | (refine wpl_alloc HS2.out _ rfl exZ ?_; intro b_x w3 HS3; clear HS2)
    | (refine wpl_storeS HS3.out 1 rfl rfl exT rfl (fitsX rfl) ?_; intro w4 hs; have HS4 := Lib.hid (show St _ _ _ (_ :: _ :: _ :: _ :: []) from hs.out); clear hs HS3)
    | (go_at_call 67; refine (HS4.out.call1 C1.out).mono ?_; rintro e w5 ⟨J, ⟨rfl, rfl⟩, hs⟩; simp only [List.cons_append, List.nil_append] at hs; have HS5 := Lib.hid hs; clear hs HS4)
    | (refine wpl_store HS5.out 1 rfl rfl intO (of_decide_eq_true rfl) rfl ?_; intro w6 hs; have HS6 := Lib.hid (show St _ _ _ (_ :: _ :: _ :: _ :: []) from hs.out); clear hs HS5)
    | (go_at_call 133; refine (HS6.out.call1 C2.out).mono ?_; rintro e w7 ⟨J, ⟨rfl, rfl⟩, hs⟩; simp only [List.cons_append, List.nil_append] at hs; have HS7 := Lib.hid hs; clear hs HS6)
    | (go_at_call 67; refine (HS7.out.call1 C3.out).mono ?_; rintro e w8 ⟨J, ⟨rfl, rfl⟩, hs⟩; simp only [List.cons_append, List.nil_append] at hs; have HS8 := Lib.hid hs; clear hs HS7; have HS9 := Lib.hid (HS8.out.to fun P h => h.under fun P h => lsI_nil h); clear HS8))
  refine wp_region_heldL (S := fun w' => w'.cell? ⟨b_x, 4, none⟩ = some (.slice none 0 0)) 7 (by kernel_rfl) (HS9.out.drew.cell 2 rfl 4) (fun hHeld => ?_)
  refine tkL 0 ?_
  refine tkL 1 ?_
  refine tkL 2 ?_
  refine wpAnyL_one (i := 3) (by kernel_rfl) rfl (fun K hK => ?_)
  go_simp
  (go_at_call 185; refine (HS9.out.drew.call1 CX.out).mono ?_; rintro e w10 ⟨J, ⟨k_a, p_a, n_a, nm_a, v_a, es_a, rfl, rfl, hx_a, h1_a⟩, hs⟩; simp only [List.cons_append, List.nil_append] at hs; have HS10 := Lib.hid hs; have HX_a := Lib.hid hx_a; clear hs hx_a HS9)
  refine hK.out _ _ (HS10.out.cell 3 rfl 4) (fun hHeld => ?_)
  clear hK K
  (try simp only [Act.put, List.setIfInBounds_toArray, List.set_cons_zero, List.set_cons_succ, List.getElem_toArray, List.getElem_cons_succ, List.getElem_cons_zero])
  refine wpAnyL_one (i := 4) (by kernel_rfl) rfl (fun K hK => ?_)
  (refine wp_slice HS10.out rfl Tryz.underlying51 (exB _ _ _ _ _) ?_; intro b_a w11 hs; have HS11 := Lib.hid (show St _ _ _ (_ :: _ :: _ :: _ :: _ :: _ :: _ :: []) from hs.out); clear hs HS10)
  refine hK.out _ _ (HS11.out.cell 4 rfl 4) (fun hHeld => ?_)
  clear hK K
  (try simp only [Act.put, List.setIfInBounds_toArray, List.set_cons_zero, List.set_cons_succ, List.getElem_toArray, List.getElem_cons_succ, List.getElem_cons_zero])
  refine wpAnyL_one (i := 5) (by kernel_rfl) rfl (fun K hK => ?_)
  (refine wp_appE HS11.out 0 rfl rfl Tryz.underlying51 h1_a hz0 ?_; intro q_a c_a w12 hs; have HS12 := Lib.hid (show St _ _ _ (_ :: _ :: _ :: _ :: _ :: []) from hs.out); clear hs HS11)
  refine hK.out _ _ (HS12.out.cell 2 rfl 4) (fun hHeld => ?_)
  clear hK K
  (try simp only [Act.put, List.setIfInBounds_toArray, List.set_cons_zero, List.set_cons_succ, List.getElem_toArray, List.getElem_cons_succ, List.getElem_cons_zero])
  refine tkL 6 ?_
  refine wpAnyL_last (by kernel_rfl) rfl (by kernel_rfl) (fun K hK => ?_)
  (refine wp_store1 HS12.out 2 rfl rfl exprsO (of_decide_eq_true rfl) rfl ?_; intro w13 hs; have HS13 := Lib.hid (show St _ _ _ (_ :: _ :: _ :: _ :: _ :: []) from hs.out); clear hs HS12)
  refine hK.out _ _ ?_
  clear hK K
  have HI := Lib.hid (show St P w w13 [rr b L y0.2, lsI (.slice q_a 1 c_a) [.mk k_a p_a n_a nm_a es_a], .row b_x 55 (exA 4 t.pos 0 t.text (.slice q_a 1 c_a)), .row b_r 55 (exA 0 0 0 [] (.slice none 0 0))] from HS13.out.sel [0, 0, 0, 0] rfl)
  obtain ⟨N, hN⟩ : ∃ N : Nat, N = 65537 := ⟨_, rfl⟩
  have HNN := Lib.hid hN
  clear hN
  have HXA := HX_a
  (try simp only [Act.put, List.setIfInBounds_toArray, List.set_cons_zero, List.set_cons_succ, List.getElem_toArray, List.getElem_cons_succ, List.getElem_cons_zero])
  go_wp2_with (first | fail)
  go_loopw [] (fun wr => ∃ (k : Nat) (q : Option Addr) (c : Nat) (es : List Sx.E) (ρ : Sx.R), k ≤ N ∧ Hid (es.length = k ∧ St P w wr [rr b L ρ, lsI (.slice q k c) es, .row b_x 55 (exA 4 t.pos 0 t.text (.slice q k c)), .row b_r 55 (exA 0 0 0 [] (.slice none 0 0))] ∧ ρ.opn = τ.opn + 1 ∧ (ρ.err = 0 → τ.err = 0) ∧ Sx.M L ρ ≤ Sx.M L τ ∧ (ρ.err = 0 → k ≤ ρ.at') ∧ (Sx.Cm L y0.2).2 = (Sx.Cm L ρ).2 ∧ ((Sx.Cm L ρ).2.err = 0 → y0.1 :: (Sx.Cm L y0.2).1 = es ++ (Sx.Cm L ρ).1))) (fun wr => N + 1 - eLen b_x wr)
  case atStart =>
    refine ⟨1, q_a, c_a, [.mk k_a p_a n_a nm_a es_a], y0.2, by have := HNN.out; omega, Lib.hid ⟨rfl, HI.out, HG.out.2.1, HG.out.2.2.1, HG.out.2.2.2.2, HG.out.1, rfl, fun h => ?_⟩⟩
    rw [HX_a.out (Sx.Le.ok (Sx.le_Cm HL.out.ends _) h)]
    rfl
  case round =>
    obtain ⟨k, q, c, es, ρ, hk, HK⟩ := hrel
    have HST := Lib.hid HK.out.2.1
    have hat := HST.out.rat
    have C7 := Lib.hid (rmay_fn b L HL.out ρ [44] (by decide))
    by_cases hs : Sx.sees L [44] ρ = true
    · rw [Sx.may_is hs] at C7
      obtain ⟨he, htx⟩ := Sx.sees_text hs
      have hCm := Sx.Cm_go HL.out.ends hat hs
      rw [Sx.eat_is hs] at hCm
      have hM2 := Sx.M_next he hat
      have hin := (Sx.le_next HL.out.ends he (Sx.text_kind (by rw [htx]; decide))).2.2.1 hat
      have CY := Lib.hid (HE.out { ρ with at' := ρ.at' + 1 } (by have := HK.out.2.2.2.2.1; omega))
      have hkn : k < 65537 := by
        have h1 := HK.out.2.2.2.2.2.1 he
        have h2 := HL.out.len
        omega
      have hlen := HK.out.1
      have hnm : es.length < nMax := by rw [hlen]; unfold nMax; omega
      have hXM := Sx.M_le (Sx.le_X HL.out.ends 0 { ρ with at' := ρ.at' + 1 })
      have hXat : (Sx.X L 0 { ρ with at' := ρ.at' + 1 }).2.err = 0 → k + 1 ≤ (Sx.X L 0 { ρ with at' := ρ.at' + 1 }).2.at' := fun h => by
        have h1 := Sx.X_at HL.out.ends hin h
        have h3 : ρ.at' + 1 + 1 ≤ (Sx.X L 0 { ρ with at' := ρ.at' + 1 }).2.at' := h1
        have h2 := HK.out.2.2.2.2.2.1 he
        omega
      have hXop : (Sx.X L 0 { ρ with at' := ρ.at' + 1 }).2.opn = τ.opn + 1 := by rw [Sx.op_X]; exact HK.out.2.2.1
      have hXer : (Sx.X L 0 { ρ with at' := ρ.at' + 1 }).2.err = 0 → τ.err = 0 := fun _ => HK.out.2.2.2.1 he
      have HQ := Lib.hid (And.intro hCm (And.intro (show Sx.M L (Sx.X L 0 { ρ with at' := ρ.at' + 1 }).2 ≤ Sx.M L τ by have := HK.out.2.2.2.2.1; omega) (And.intro hXat (And.intro hXop (And.intro hXer (And.intro hkn (And.intro hlen HK.out.2.2.2.2.2.2)))))))
      have HMS := Lib.hid (HST.out.eLen 2 rfl rfl)
      clear hs he htx hCm hM2 hin hkn hXM hXat hXop hXer hat hk HK HG HI HX_a HXA CX HE
      go_wp2_with (first
        | (go_at_call 69; refine (HST.out.call1 C7.out).mono ?_; rintro e w70 ⟨J, ⟨rfl, rfl⟩, hs⟩; simp only [List.cons_append, List.nil_append] at hs; have HS70 := Lib.hid (show St _ _ _ [_, lsI (.slice q k c) es, _, _] from hs); clear hs))
      refine wp_region_heldL (S := fun w' => w'.cell? ⟨b_x, 4, none⟩ = some (.slice q k c)) 7 (by kernel_rfl) (HS70.out.drew.cell 2 rfl 4) (fun hHeld => ?_)
      refine tkL 0 ?_
      refine tkL 1 ?_
      refine tkL 2 ?_
      refine wpAnyL_one (i := 3) (by kernel_rfl) rfl (fun K hK => ?_)
      go_simp
      (go_at_call 185; refine (HS70.out.drew.call1 CY.out).mono ?_; rintro e w71 ⟨J, ⟨k_b, p_b, n_b, nm_b, v_b, es_b, rfl, rfl, hx_b, h1_b⟩, hs⟩; simp only [List.cons_append, List.nil_append] at hs; have HS71 := Lib.hid hs; have HX_b := Lib.hid hx_b; clear hs hx_b HS70)
      refine hK.out _ _ (HS71.out.cell 3 rfl 4) (fun hHeld => ?_)
      clear hK K
      (try simp only [Act.put, List.setIfInBounds_toArray, List.set_cons_zero, List.set_cons_succ, List.getElem_toArray, List.getElem_cons_succ, List.getElem_cons_zero])
      refine wpAnyL_one (i := 4) (by kernel_rfl) rfl (fun K hK => ?_)
      (refine wp_slice HS71.out rfl Tryz.underlying51 (exB _ _ _ _ _) ?_; intro b_b w72 hs; have HS72 := Lib.hid (show St _ _ _ (_ :: _ :: _ :: _ :: _ :: _ :: []) from hs.out); clear hs HS71)
      refine hK.out _ _ (HS72.out.cell 4 rfl 4) (fun hHeld => ?_)
      clear hK K
      (try simp only [Act.put, List.setIfInBounds_toArray, List.set_cons_zero, List.set_cons_succ, List.getElem_toArray, List.getElem_cons_succ, List.getElem_cons_zero])
      refine wpAnyL_one (i := 5) (by kernel_rfl) rfl (fun K hK => ?_)
      (refine wp_appE HS72.out 0 rfl rfl Tryz.underlying51 h1_b hnm ?_; intro q_b c_b w73 hs; have HS73 := Lib.hid (show St _ _ _ (_ :: _ :: _ :: _ :: []) from hs.out); clear hs HS72)
      refine hK.out _ _ (HS73.out.cell 2 rfl 4) (fun hHeld => ?_)
      clear hK K
      (try simp only [Act.put, List.setIfInBounds_toArray, List.set_cons_zero, List.set_cons_succ, List.getElem_toArray, List.getElem_cons_succ, List.getElem_cons_zero])
      refine tkL 6 ?_
      refine wpAnyL_last (by kernel_rfl) rfl (by kernel_rfl) (fun K hK => ?_)
      (refine wp_store1 HS73.out 2 rfl rfl exprsO (of_decide_eq_true rfl) rfl ?_; intro w74 hs; have HS74 := Lib.hid (show St _ _ _ (_ :: _ :: _ :: _ :: []) from hs.out); clear hs HS73)
      refine hK.out _ _ ?_
      clear hK K
      (try simp only [Act.put, List.setIfInBounds_toArray, List.set_cons_zero, List.set_cons_succ, List.getElem_toArray, List.getElem_cons_succ, List.getElem_cons_zero])
      refine ⟨⟨_, _, _, _, _, _, _, _, _, ?rel, rfl⟩, ?measure⟩
      case rel =>
        refine ⟨k + 1, q_b, c_b, es ++ [.mk k_b p_b n_b nm_b es_b], (Sx.X L 0 { ρ with at' := ρ.at' + 1 }).2, ?_, Lib.hid ⟨?_, ?_, HQ.out.2.2.2.1, HQ.out.2.2.2.2.1, HQ.out.2.1, HQ.out.2.2.1, ?_, ?_⟩⟩
        · have := HQ.out.2.2.2.2.2.1; have := HNN.out; omega
        · rw [List.length_append, HQ.out.2.2.2.2.2.2.1]; rfl
        · have h9 := HS74.out
          rw [HQ.out.2.2.2.2.2.2.1] at h9
          exact h9
        · rw [HQ.out.2.2.2.2.2.2.2.1, HQ.out.1]
        · intro h
          rw [HQ.out.2.2.2.2.2.2.2.2 (by rw [HQ.out.1]; exact h), HQ.out.1, List.append_assoc, HX_b.out (Sx.Le.ok (Sx.le_Cm HL.out.ends _) h)]
          rfl
      case measure =>
        show N + 1 - eLen b_x w74 < N + 1 - eLen b_x wr
        rw [HS74.out.eLen 2 rfl rfl, HMS.out, HQ.out.2.2.2.2.2.2.1]
        have := HQ.out.2.2.2.2.2.1
        have := HNN.out
        omega
    · have hs' : Sx.sees L [44] ρ = false := by simpa using hs
      rw [Sx.may_no hs'] at C7
      have hCm := Sx.Cm_stop HL.out.ends hat hs'
      have C8 := Lib.hid (runnest_fn b L HL.out ρ [41] (by decide) (fun h => by
        have h1 : ρ.err = 0 := Sx.unnest_err (s := [41]) h
        have h2 := HG.out.2.2.2.1 (HK.out.2.2.2.1 h1)
        rw [HK.out.2.2.1]; omega))
      have hEq : (Sx.Cm L y0.2).2 = ρ := by rw [HK.out.2.2.2.2.2.2.1, hCm]
      have HEQ := Lib.hid hEq
      clear hEq
      have hval : (Sx.unnest L [41] ρ).err = 0 → y0.1 :: (Sx.Cm L y0.2).1 = es := fun h => by
        have h1 : ρ.err = 0 := Sx.unnest_err (s := [41]) h
        rw [HK.out.2.2.2.2.2.2.2 (by rw [hCm]; exact h1), hCm, List.append_nil]
      have HV := Lib.hid hval
      clear hs hs' hCm hval hat hk HK HG HI HX_a HXA CX HE
      go_wp2_with (first
        | (go_at_call 69; refine (HST.out.call1 C7.out).mono ?_; rintro e w40 ⟨J, ⟨rfl, rfl⟩, hs⟩; simp only [List.cons_append, List.nil_append] at hs; have HS40 := Lib.hid hs; clear hs)
        | (go_at_call 135; refine (HS40.out.call1 C8.out).mono ?_; rintro e w41 ⟨J, ⟨rfl, rfl⟩, hs⟩; simp only [List.cons_append, List.nil_append] at hs; have HS41 := Lib.hid hs; clear hs HS40)
        | (refine wpl_loadS HS41.out 2 rfl rfl exT rfl ?_)
        | (refine wpl_storeS HS41.out 3 rfl rfl exT rfl (fitsX rfl) ?_; intro w42 hs; have HS42 := Lib.hid (show St _ _ _ (_ :: _ :: _ :: _ :: []) from hs.out); clear hs HS41))
      refine bp_cell HS42.out 3 exT rfl rfl rfl rfl rfl ⟨_, ⟨4, t.pos, 0, t.text, _, es, rfl, rfl, fun h => ?_, rfl⟩, ?_⟩
      · have h9 : (Sx.unnest L [41] (Sx.Cm L y0.2).2).err = 0 := h
        rw [HEQ.out] at h9
        exact congrArg (fun z => Sx.E.mk 4 t.pos 0 t.text z) (HV.out h9)
      · show St _ _ _ [rr b L (Sx.unnest L [41] (Sx.Cm L y0.2).2), _]
        rw [HEQ.out]
        exact HS42.out.sel [0, 0] rfl
theorem rbehind_fn (b : Nat) (L : List Lx.Tok) (hL : Sx.Ok L) (τ : Sx.R) (t : Lx.Tok) (hE : ∀ ρ, Sx.M L ρ ≤ Sx.M L τ → rCX b L 0 ρ) : Fn 220 #[.pointer (some ⟨b, 0, none⟩), .agg (tkA t.kind t.pos t.num (Lx.S t.text))] [rr b L τ] (REP b L (Sx.Bh L t τ)) := by
  cases h1 : Sx.sees L [40] τ
  · cases h2 : Sx.sees L [91] τ
    · exact rbehind_bare b L hL τ t h1 h2
    · exact rbehind_index b L hL τ t hE h1 h2
  · cases h2 : Sx.sees L [41] (Sx.nest L [40] τ)
    · exact rbehind_args b L hL τ t hE h1 h2
    · exact rbehind_none b L hL τ t h1 h2
end Go.Proofs.YtjfdcnggnldgdaaGreatDoor
end
section
namespace Go.Proofs.YtjfdcnggnldgdaaGreatDoor
open Go.ChangeShapes Go.WideShapes Go.ChangeAt Go.RowKit
set_option linter.unusedVariables false
set_option linter.unusedSimpArgs false

section
variable {ops : Array Oper} {rest : List Oper} {o : Oper} {a : Act} {w w0 : World} {X : Nat → Prop} {I : List It} {Q : Exit → Act → World → Prop} {t e : TypeId} {cs : Array Value} {n : Nat} {ps : List (Nat × Value)}
/-- a slice literal of several elements -/
theorem wpl_sliceN (h : St X w0 w I) (ho : bsOf a o = some (t, n, ps)) (hu : Tryz.prog.underlying t = some (.slice e)) (hb : Tryz.prog.builtSlice e n ps = some cs)
    (k : ∀ (b : Nat) (w' : World), Hid (St X w0 w' (.row b e cs :: I)) → wpList Tryz.prog ops Q rest (a.put o.dst (.slice (some ⟨b, 0, none⟩) n n)) w') : wpList Tryz.prog ops Q (o :: rest) a w := by
  unfold bsOf at ho
  split at ho
  · next t' n' parts hg hop =>
    simp only [Option.some.injEq, Prod.mk.injEq] at ho
    obtain ⟨rfl, rfl, hy⟩ := ho
    exact Great.wpList_buildSliceTo hg t' e n' parts hop w.heap.size rfl o.dst rfl hu cs (by rw [Array.toList_map]; exact (congrArg _ hy).trans hb) (k _ _ (Lib.hid (h.alloc0 cs e)))
  · cases ho
end
def tgS : Array Value := (Sx.tights.map fun x => Value.string (Lx.S x.1)).toArray
def tgK : Array Value := (Sx.tights.map fun x => Value.int .i64 x.2.2).toArray
def tgT : Array Value := (Sx.tights.map fun x => Value.int .i64 (x.2.1 : Int)).toArray
theorem tg_get (k : Nat) (x : List UInt8 × Nat × Int) (h : Sx.tights[k]? = some x) : tgS[k]? = some (.string (Lx.S x.1)) ∧ tgK[k]? = some (.int .i64 x.2.2) ∧ tgT[k]? = some (.int .i64 (x.2.1 : Int)) := by
  unfold tgS tgK tgT
  simp [h]
set_option maxHeartbeats 8000000 in
set_option maxRecDepth 100000 in
theorem tight_fn (s : List UInt8) : Fn 219 #[.string (Lx.S s)] []
    fun e J => e = .returned (.tuple #[.int .i64 ((Sx.tight s).1 : Int), .int .i64 (Sx.tight s).2]) ∧ J = [] := by
  intro w P hP hs
  have HS := Lib.hid (St.start hP hs)
  have hT : (Lx.S s).toList = s := by rw [Lib.toList_data]; rfl
  have HA := Lib.hid (Sx.seek_all s)
  clear hs hP
  by_cases h0 : s = []
  · subst h0
    have hz : (Lx.S []).toList = [] := hT
    have hz2 : (Lx.S []).toList.isEmpty = true := by rw [hz]; rfl
    have HE : Hid (Sx.tight [] = (0, 0)) := Lib.hid Sx.tight_nil
    clear hT HA
    go_enter Tryz.func219, Tryz.ntmps219
    go_wp2
    go_ret2
    exact ⟨_, ⟨by rw [HE.out]; rfl, rfl⟩, HS.out⟩
  · have hz : ¬ (Lx.S s).toList = [] := by rw [hT]; exact h0
    have hz2 : (Lx.S s).toList.isEmpty = false := by rw [hT]; cases s with | nil => exact absurd rfl h0 | cons a b => rfl
    have hz3 : s.isEmpty = false := by cases s with | nil => exact absurd rfl h0 | cons a b => rfl
    go_enter Tryz.func219, Tryz.ntmps219
    go_wp2_with (first
      | (first | (refine wpl_sliceN (cs := tgS) HS.out rfl Tryz.underlying155 (by kernel_rfl) ?_; intro b1 w1 HS1; clear HS) | (refine wpl_sliceN (cs := tgK) HS1.out rfl Tryz.underlying111 (by kernel_rfl) ?_; intro b2 w2 HS2; clear HS1) | (refine wpl_sliceN (cs := tgT) HS2.out rfl Tryz.underlying111 (by kernel_rfl) ?_; intro b3 w3 HS3; clear HS2)))
    go_loopw [7] (fun K wr => ∃ k : Nat, k ≤ 14 ∧ K = .int .i64 (k : Int) ∧ Hid (Sx.seek (Sx.tights.drop k) s = Sx.tight s ∧ St P w wr [.row b3 3 tgT, .row b2 3 tgK, .row b1 9 tgS])) (fun K _ => 14 - (intOf K).toNat)
    case atStart => exact ⟨0, Nat.zero_le _, rfl, Lib.hid ⟨rfl, HS3.out⟩⟩
    case round =>
      obtain ⟨k, hk, rfl, HK⟩ := hrel
      by_cases hlt : k < 14
      · have hlt' : (k : Int) < 14 := by omega
        obtain ⟨x, hx⟩ : ∃ x, Sx.tights[k]? = some x := ⟨Sx.tights[k]'(by rw [Sx.tights_len]; exact hlt), List.getElem?_eq_getElem _⟩
        obtain ⟨g1, g2, g3⟩ := tg_get k x hx
        have e1 : wr.cell? ⟨b1, k, none⟩ = some (.string (Lx.S x.1)) := (HK.out.2.cell 2 rfl k).trans g1
        have e2 : wr.cell? ⟨b2, k, none⟩ = some (.int .i64 x.2.2) := (HK.out.2.cell 1 rfl k).trans g2
        have e3 : wr.cell? ⟨b3, k, none⟩ = some (.int .i64 (x.2.1 : Int)) := (HK.out.2.cell 0 rfl k).trans g3
        have hT2 : (Lx.S x.1).toList = x.1 := by rw [Lib.toList_data]; rfl
        have HX := Lib.hid hx
        clear hx g1 g2 g3
        by_cases hp : x.1 = s
        · have HP := Lib.hid hp
          have g : (x.1 == s) = true := by simpa using hp
          clear hp
          go_wp2
          go_quiet (fail)
          go_wp2
          go_ret2
          refine ⟨_, ⟨?_, rfl⟩, St.sel (HK.out.2.drewN _) [] rfl⟩
          have h := HK.out.1
          rw [Sx.seek_hit HX.out HP.out] at h
          rw [← h]; rfl
        · have HP := Lib.hid hp
          have g : (x.1 == s) = false := by simpa using hp
          clear hp
          go_wp2
          exact ⟨⟨k + 1, by omega, by go_num, Lib.hid ⟨(Sx.seek_miss HX.out HP.out).trans HK.out.1, HK.out.2⟩⟩, by simp [intOf]; omega⟩
      · have hge : ¬ (k : Int) < 14 := by omega
        have HE : Hid (Sx.tight s = (0, 0)) := Lib.hid (by
          rw [← HK.out.1, List.drop_of_length_le (by rw [Sx.tights_len]; omega)]; rfl)
        go_wp2
        go_ret2
        exact ⟨_, ⟨by rw [HE.out]; rfl, rfl⟩, HK.out.2.sel [] rfl⟩
end Go.Proofs.YtjfdcnggnldgdaaGreatDoor
end
