/-
The document's reader: an expression and the sign behind it; a statement that begins with a name.
The document's reader: a statement by what it begins with.
-/
import Derived.Test.YtjfdcnggnldgdaaGreatDoorP33b
import Derived.Test.YtjfdcnggnldgdaaGreatDoorP24a
import Derived.Test.YtjfdcnggnldgdaaGreatDoorP33a
import Derived.Test.YtjfdcnggnldgdaaGreatDoorP31b
section
namespace Go.Proofs.YtjfdcnggnldgdaaGreatDoor
open Go.ChangeShapes Go.WideShapes Go.ChangeAt Go.RowKit
set_option linter.unusedVariables false
set_option linter.unusedSimpArgs false

/-- what the document's reader of a statement hands back -/
def RSP (b : Nat) (L : List Lx.Tok) (r : Sx.S × Sx.R) (e : Ending) (J : List It) : Prop :=
  ∃ (k p m : Int) (nm : List UInt8) (te tl tb : Int) (q1 q2 q3 : Option Addr) (l1 l2 l3 c1 c2 c3 : Nat) (es : List Sx.E) (bs cs : List Sx.S) (h : Bool), e = .returned (.agg (stA k p m nm te tl tb (.slice q1 l1 c1) (.slice q2 l2 c2) (.slice q3 l3 c3) h)) ∧ J = [rr b L r.2, lsI (.slice q1 l1 c1) es, ssI (.slice q2 l2 c2) bs, ssI (.slice q3 l3 c3) cs] ∧ (r.2.err = 0 → r.1 = .mk k p m nm ⟨te, tl, tb⟩ es bs cs h)
/-- what value hands back, behind what is there -/
def RVP (b : Nat) (L : List Lx.Tok) (es0 : List Sx.E) (σ : Sx.R) (e : Ending) (J : List It) : Prop :=
  ∃ (q : Option Addr) (c : Nat) (k p n : Int) (nm : List UInt8) (es : List Sx.E), e = .returned (.slice q (es0.length + 1) c) ∧ J = [rr b L (Sx.eat L [59] (Sx.X L 0 σ).2), lsI (.slice q (es0.length + 1) c) (es0 ++ [.mk k p n nm es])] ∧ ((Sx.eat L [59] (Sx.X L 0 σ).2).err = 0 → (Sx.X L 0 σ).1 = .mk k p n nm es)
set_option maxHeartbeats 8000000 in
set_option maxRecDepth 100000 in
theorem rvalue_fn (b : Nat) (L : List Lx.Tok) (hL : Sx.Ok L) (σ : Sx.R) (vl : Value) (es0 : List Sx.E) (hlen : es0.length < nMax) : Fn 184 #[.pointer (some ⟨b, 0, none⟩), vl] [rr b L σ, lsI vl es0] (RVP b L es0 σ) := by
  intro w P hP h0
  have HS := Lib.hid (St.start hP h0)
  have CX := Lib.hid (rexpr_any b L hL σ 0)
  have C2 := Lib.hid (reat_fn b L hL (Sx.X L 0 σ).2 [59] (by decide))
  clear h0 hP hL
  go_enter Tryz.func184, Tryz.ntmps184
  go_wp2_with (first
    | (go_at_call 185; refine (HS.out.call1 CX.out).mono ?_; rintro e w1 ⟨J, ⟨k_u, p_u, n_u, nm_u, v_u, es_u, rfl, rfl, hx_u, h1_u⟩, hs⟩; simp only [List.cons_append, List.nil_append] at hs; have HS1 := Lib.hid hs; clear hs HS; have HX_u := Lib.hid hx_u; clear hx_u)
    | (refine wpl_alloc HS1.out _ rfl exZ ?_; intro b_x w2 HS2; clear HS1)
    | (refine wpl_storeS HS2.out 1 rfl rfl exT rfl (fitsX h1_u) ?_; intro w3 hs; have HS3 := Lib.hid (show St _ _ _ (_ :: _ :: _ :: _ :: []) from hs.out); clear hs HS2)
    | (go_at_call 65; refine (HS3.out.call1 C2.out).mono ?_; rintro e w4 ⟨J, ⟨rfl, rfl⟩, hs⟩; simp only [List.cons_append, List.nil_append] at hs; have HS4 := Lib.hid hs; clear hs HS3; have HS5 := Lib.hid (HS4.out.sel [0, 1, 1, 0] rfl); clear HS4)
    | (refine wpl_loadS HS5.out 3 rfl rfl exT rfl ?_)
    | (refine wpl_slice HS5.out rfl Tryz.underlying51 (exB _ _ _ _ _) ?_; intro b_e w6 HS6; clear HS5)
    | (refine wpl_appE HS6.out 0 rfl rfl Tryz.underlying51 h1_u hlen ?_; intro q_e c_e w7 hs; have HS7 := Lib.hid (show St _ _ _ (_ :: _ :: _ :: []) from hs.out); clear hs HS6))
  go_ret
  exact ⟨_, ⟨q_e, c_e, k_u, p_u, n_u, nm_u, es_u, rfl, rfl, fun h => HX_u.out (Sx.eat_ok h)⟩, HS7.out.sel [0, 0] rfl⟩
set_option maxHeartbeats 8000000 in
set_option maxRecDepth 100000 in
theorem rbehind_index1 (b : Nat) (L : List Lx.Tok) (hL : Sx.Ok L) (τ : Sx.R) (t : Lx.Tok) (hE : ∀ ρ, Sx.M L ρ ≤ Sx.M L τ → rCX b L 0 ρ) (h1 : Sx.sees L [40] τ = false) (h2 : Sx.sees L [91] τ = true) : Fn 220 #[.pointer (some ⟨b, 0, none⟩), .agg (tkA t.kind t.pos t.num (Lx.S t.text))] [rr b L τ] (fun e J => ∃ (k p n : Int) (nm : List UInt8) (v : Value) (x : Sx.E), e = .returned (.agg #[.int .i64 k, .int .i64 p, .int .i64 n, .string (Lx.S nm), v]) ∧ J = [rr b L (Sx.Bh L t τ).2, lsI v [x]] ∧ ((Sx.Bh L t τ).2.err = 0 → (Sx.Bh L t τ).1 = .mk k p n nm [x]) ∧ v.oneCell' = true) := by
  intro w P hP h0
  have HS := Lib.hid (St.start hP h0)
  have hat := HS.out.rat
  have ho0 := HS.out.ropn0
  have C1 := Lib.hid (rsees_fn b L τ [40])
  have hop : (Sx.nest L [91] τ).opn = τ.opn + 1 := Sx.op_nest L [91] τ
  have herr0 : (Sx.nest L [91] τ).err = 0 → τ.err = 0 := fun h => Sx.nest_err hL (by decide) h
  have hn1 := (Sx.le_nest hL.ends [91] (by decide) τ).2.2.1 hat
  have hM1 := Sx.M_le (Sx.le_nest hL.ends [91] (by decide) τ)
  have C2 := Lib.hid (rnest_fn b L hL τ [91] (by decide))
  rw [h1] at C1
  rw [Sx.Bh_index hL.ends t hat h2]
  have C5 := Lib.hid (rsees_fn b L τ [91])
  rw [h2] at C5
  have CX := Lib.hid (hE (Sx.nest L [91] τ) hM1)
  have C4 := Lib.hid (runnest_fn b L hL (Sx.X L 0 (Sx.nest L [91] τ)).2 [93] (by decide) (fun h => by
    have h1 : (Sx.X L 0 (Sx.nest L [91] τ)).2.err = 0 := Sx.unnest_err (s := [93]) h
    have h2 : (Sx.nest L [91] τ).err = 0 := by
      apply Classical.byContradiction
      intro h3
      rw [Sx.X_err hL.ends hn1 h3] at h1
      exact h3 h1
    have := ho0 (herr0 h2)
    rw [Sx.op_X, hop]; omega))
  have hz0 : ([] : List Sx.E).length < nMax := by unfold nMax; decide
  clear h0 hP hL hat ho0 h1 h2 hop herr0 hn1 hM1 hE
  go_enter Tryz.func220, Tryz.ntmps220
  go_wp2_with (first
    | (refine wpl_box HS.out rfl rfl ?_; intro b_n w1 HS1; clear HS)
    | (refine wpl_alloc HS1.out _ rfl exZ ?_; intro b_r w2 HS2; clear HS1)
    | (refine wpl_load HS2.out 2 rfl rfl intO rfl ?_)
    | (refine wpl_load HS2.out 2 rfl rfl strO rfl ?_)
    | (refine wpl_alloc HS2.out _ rfl exZ ?_; intro b_x w3 HS3; clear HS2)
    | (refine wpl_storeS HS3.out 1 rfl rfl exT rfl (fitsX rfl) ?_; intro w4 hs; have HS4 := Lib.hid (show St _ _ _ (_ :: _ :: _ :: _ :: []) from hs.out); clear hs HS3)
    | (go_at_call 67; refine (HS4.out.call1 C1.out).mono ?_; rintro e w5 ⟨J, ⟨rfl, rfl⟩, hs⟩; simp only [List.cons_append, List.nil_append] at hs; have HS5 := Lib.hid hs; clear hs HS4)
    | (go_at_call 67; refine (HS5.out.call1 C5.out).mono ?_; rintro e w6 ⟨J, ⟨rfl, rfl⟩, hs⟩; simp only [List.cons_append, List.nil_append] at hs; have HS6 := Lib.hid hs; clear hs HS5)
    | (refine wpl_store HS6.out 1 rfl rfl intO (of_decide_eq_true rfl) rfl ?_; intro w7 hs; have HS7 := Lib.hid (show St _ _ _ (_ :: _ :: _ :: _ :: []) from hs.out); clear hs HS6)
    | (go_at_call 133; refine (HS7.out.call1 C2.out).mono ?_; rintro e w8 ⟨J, ⟨rfl, rfl⟩, hs⟩; simp only [List.cons_append, List.nil_append] at hs; have HS8 := Lib.hid hs; clear hs HS7; have HS9 := Lib.hid (HS8.out.to fun P h => h.under fun P h => lsI_nil h); clear HS8))
  refine wp_region_held_drew (S := fun _ => True) (by kernel_rfl) (trivial) (fun hHeld => ?_)
  refine tkH 0 ?_
  refine tkH 2 ?_
  refine wpAnyH_ready (rs := [1, 3]) (by kernel_rfl) (by simp) ?_
  refine AllReadyH.cons rfl (fun K hK => ?_) (AllReadyH.cons rfl (fun K hK => ?_) AllReadyH.nil)
  · (refine wp_load1 HS9.out.drew 2 rfl rfl exprsO rfl ?_)
    refine hK.out _ _ (trivial) (fun hHeld => ?_)
    clear hK K
    (try simp only [Act.put, List.setIfInBounds_toArray, List.set_cons_zero, List.set_cons_succ, List.getElem_toArray, List.getElem_cons_succ, List.getElem_cons_zero])
    refine wpAnyH_ready (rs := [3]) (by kernel_rfl) (by simp) ?_
    refine AllReadyH.cons rfl (fun K hK => ?_) AllReadyH.nil
    go_simp
    (go_at_call 185; refine (HS9.out.drew.call1 CX.out).mono ?_; rintro e w10 ⟨J, ⟨k_a, p_a, n_a, nm_a, v_a, es_a, rfl, rfl, hx_a, h1_a⟩, hs⟩; simp only [List.cons_append, List.nil_append] at hs; have HS10 := Lib.hid hs; have HX_a := Lib.hid hx_a; clear hs hx_a)
    refine hK.out _ _ (trivial) (fun hHeld => ?_)
    clear hK K
    (try simp only [Act.put, List.setIfInBounds_toArray, List.set_cons_zero, List.set_cons_succ, List.getElem_toArray, List.getElem_cons_succ, List.getElem_cons_zero])
    refine wpAnyH_ready (rs := [4]) (by kernel_rfl) (by simp) ?_
    refine AllReadyH.cons rfl (fun K hK => ?_) AllReadyH.nil
    (refine wp_slice HS10.out rfl Tryz.underlying51 (exB _ _ _ _ _) ?_; intro b_a w11 hs; have HS11 := Lib.hid (show St _ _ _ (_ :: _ :: _ :: _ :: _ :: _ :: _ :: []) from hs.out); clear hs)
    refine hK.out _ _ (trivial) (fun hHeld => ?_)
    clear hK K
    (try simp only [Act.put, List.setIfInBounds_toArray, List.set_cons_zero, List.set_cons_succ, List.getElem_toArray, List.getElem_cons_succ, List.getElem_cons_zero])
    refine wpAnyH_ready (rs := [5]) (by kernel_rfl) (by simp) ?_
    refine AllReadyH.cons rfl (fun K hK => ?_) AllReadyH.nil
    (refine wp_appE HS11.out 0 rfl rfl Tryz.underlying51 h1_a hz0 ?_; intro q_a c_a w12 hs; have HS12 := Lib.hid (show St _ _ _ (_ :: _ :: _ :: _ :: _ :: []) from hs.out); clear hs)
    refine hK.out _ _ (trivial) (fun hHeld => ?_)
    clear hK K
    (try simp only [Act.put, List.setIfInBounds_toArray, List.set_cons_zero, List.set_cons_succ, List.getElem_toArray, List.getElem_cons_succ, List.getElem_cons_zero])
    refine tkH 6 ?_
    refine wpAnyH_ready (rs := [7]) (by kernel_rfl) (by simp) ?_
    refine AllReadyH.cons rfl (fun K hK => ?_) AllReadyH.nil
    (refine wp_store1 HS12.out 2 rfl rfl exprsO (of_decide_eq_true rfl) rfl ?_; intro w13 hs; have HS13 := Lib.hid (show St _ _ _ (_ :: _ :: _ :: _ :: _ :: []) from hs.out); clear hs)
    refine hK.out _ _ (trivial) (fun hHeld => ?_)
    clear hK K
    (try simp only [Act.put, List.setIfInBounds_toArray, List.set_cons_zero, List.set_cons_succ, List.getElem_toArray, List.getElem_cons_succ, List.getElem_cons_zero])
    refine wpAnyH_done (by kernel_rfl) ?_ _
    go_wp2_with (first
      | (go_at_call 135; refine (HS13.out.call1 C4.out).mono ?_; rintro e w14 ⟨J, ⟨rfl, rfl⟩, hs⟩; simp only [List.cons_append, List.nil_append] at hs; have HS14 := Lib.hid hs; clear hs HS13)
      | (refine wpl_loadS HS14.out 2 rfl rfl exT rfl ?_)
      | (refine wpl_storeS HS14.out 3 rfl rfl exT rfl (fitsX rfl) ?_; intro w15 hs; have HS15 := Lib.hid (show St _ _ _ (_ :: _ :: _ :: _ :: _ :: []) from hs.out); clear hs HS14))
    refine bp_cell HS15.out 3 exT rfl rfl rfl rfl rfl ⟨_, ⟨3, t.pos, 0, t.text, _, .mk k_a p_a n_a nm_a es_a, rfl, rfl, fun h => ?_, rfl⟩, HS15.out.sel [0, 0] rfl⟩
    exact congrArg (fun z => Sx.E.mk 3 t.pos 0 t.text [z]) (HX_a.out (Sx.unnest_err h))
  · go_simp
    (go_at_call 185; refine (HS9.out.drew.call1 CX.out).mono ?_; rintro e w10 ⟨J, ⟨k_a, p_a, n_a, nm_a, v_a, es_a, rfl, rfl, hx_a, h1_a⟩, hs⟩; simp only [List.cons_append, List.nil_append] at hs; have HS10 := Lib.hid hs; have HX_a := Lib.hid hx_a; clear hs hx_a)
    refine hK.out _ _ (trivial) (fun hHeld => ?_)
    clear hK K
    (try simp only [Act.put, List.setIfInBounds_toArray, List.set_cons_zero, List.set_cons_succ, List.getElem_toArray, List.getElem_cons_succ, List.getElem_cons_zero])
    refine wpAnyH_ready (rs := [1, 4]) (by kernel_rfl) (by simp) ?_
    refine AllReadyH.cons rfl (fun K hK => ?_) (AllReadyH.cons rfl (fun K hK => ?_) AllReadyH.nil)
    · (refine wp_load1 HS10.out 3 rfl rfl exprsO rfl ?_)
      refine hK.out _ _ (trivial) (fun hHeld => ?_)
      clear hK K
      (try simp only [Act.put, List.setIfInBounds_toArray, List.set_cons_zero, List.set_cons_succ, List.getElem_toArray, List.getElem_cons_succ, List.getElem_cons_zero])
      refine wpAnyH_ready (rs := [4]) (by kernel_rfl) (by simp) ?_
      refine AllReadyH.cons rfl (fun K hK => ?_) AllReadyH.nil
      (refine wp_slice HS10.out rfl Tryz.underlying51 (exB _ _ _ _ _) ?_; intro b_a w11 hs; have HS11 := Lib.hid (show St _ _ _ (_ :: _ :: _ :: _ :: _ :: _ :: _ :: []) from hs.out); clear hs)
      refine hK.out _ _ (trivial) (fun hHeld => ?_)
      clear hK K
      (try simp only [Act.put, List.setIfInBounds_toArray, List.set_cons_zero, List.set_cons_succ, List.getElem_toArray, List.getElem_cons_succ, List.getElem_cons_zero])
      refine wpAnyH_ready (rs := [5]) (by kernel_rfl) (by simp) ?_
      refine AllReadyH.cons rfl (fun K hK => ?_) AllReadyH.nil
      (refine wp_appE HS11.out 0 rfl rfl Tryz.underlying51 h1_a hz0 ?_; intro q_a c_a w12 hs; have HS12 := Lib.hid (show St _ _ _ (_ :: _ :: _ :: _ :: _ :: []) from hs.out); clear hs)
      refine hK.out _ _ (trivial) (fun hHeld => ?_)
      clear hK K
      (try simp only [Act.put, List.setIfInBounds_toArray, List.set_cons_zero, List.set_cons_succ, List.getElem_toArray, List.getElem_cons_succ, List.getElem_cons_zero])
      refine tkH 6 ?_
      refine wpAnyH_ready (rs := [7]) (by kernel_rfl) (by simp) ?_
      refine AllReadyH.cons rfl (fun K hK => ?_) AllReadyH.nil
      (refine wp_store1 HS12.out 2 rfl rfl exprsO (of_decide_eq_true rfl) rfl ?_; intro w13 hs; have HS13 := Lib.hid (show St _ _ _ (_ :: _ :: _ :: _ :: _ :: []) from hs.out); clear hs)
      refine hK.out _ _ (trivial) (fun hHeld => ?_)
      clear hK K
      (try simp only [Act.put, List.setIfInBounds_toArray, List.set_cons_zero, List.set_cons_succ, List.getElem_toArray, List.getElem_cons_succ, List.getElem_cons_zero])
      refine wpAnyH_done (by kernel_rfl) ?_ _
      go_wp2_with (first
        | (go_at_call 135; refine (HS13.out.call1 C4.out).mono ?_; rintro e w14 ⟨J, ⟨rfl, rfl⟩, hs⟩; simp only [List.cons_append, List.nil_append] at hs; have HS14 := Lib.hid hs; clear hs HS13)
        | (refine wpl_loadS HS14.out 2 rfl rfl exT rfl ?_)
        | (refine wpl_storeS HS14.out 3 rfl rfl exT rfl (fitsX rfl) ?_; intro w15 hs; have HS15 := Lib.hid (show St _ _ _ (_ :: _ :: _ :: _ :: _ :: []) from hs.out); clear hs HS14))
      refine bp_cell HS15.out 3 exT rfl rfl rfl rfl rfl ⟨_, ⟨3, t.pos, 0, t.text, _, .mk k_a p_a n_a nm_a es_a, rfl, rfl, fun h => ?_, rfl⟩, HS15.out.sel [0, 0] rfl⟩
      exact congrArg (fun z => Sx.E.mk 3 t.pos 0 t.text [z]) (HX_a.out (Sx.unnest_err h))
    · (refine wp_slice HS10.out rfl Tryz.underlying51 (exB _ _ _ _ _) ?_; intro b_a w11 hs; have HS11 := Lib.hid (show St _ _ _ (_ :: _ :: _ :: _ :: _ :: _ :: _ :: []) from hs.out); clear hs)
      refine hK.out _ _ (trivial) (fun hHeld => ?_)
      clear hK K
      (try simp only [Act.put, List.setIfInBounds_toArray, List.set_cons_zero, List.set_cons_succ, List.getElem_toArray, List.getElem_cons_succ, List.getElem_cons_zero])
      refine wpAnyH_ready (rs := [1]) (by kernel_rfl) (by simp) ?_
      refine AllReadyH.cons rfl (fun K hK => ?_) AllReadyH.nil
      (refine wp_load1 HS11.out 4 rfl rfl exprsO rfl ?_)
      refine hK.out _ _ (trivial) (fun hHeld => ?_)
      clear hK K
      (try simp only [Act.put, List.setIfInBounds_toArray, List.set_cons_zero, List.set_cons_succ, List.getElem_toArray, List.getElem_cons_succ, List.getElem_cons_zero])
      refine wpAnyH_ready (rs := [5]) (by kernel_rfl) (by simp) ?_
      refine AllReadyH.cons rfl (fun K hK => ?_) AllReadyH.nil
      (refine wp_appE HS11.out 0 rfl rfl Tryz.underlying51 h1_a hz0 ?_; intro q_a c_a w12 hs; have HS12 := Lib.hid (show St _ _ _ (_ :: _ :: _ :: _ :: _ :: []) from hs.out); clear hs)
      refine hK.out _ _ (trivial) (fun hHeld => ?_)
      clear hK K
      (try simp only [Act.put, List.setIfInBounds_toArray, List.set_cons_zero, List.set_cons_succ, List.getElem_toArray, List.getElem_cons_succ, List.getElem_cons_zero])
      refine tkH 6 ?_
      refine wpAnyH_ready (rs := [7]) (by kernel_rfl) (by simp) ?_
      refine AllReadyH.cons rfl (fun K hK => ?_) AllReadyH.nil
      (refine wp_store1 HS12.out 2 rfl rfl exprsO (of_decide_eq_true rfl) rfl ?_; intro w13 hs; have HS13 := Lib.hid (show St _ _ _ (_ :: _ :: _ :: _ :: _ :: []) from hs.out); clear hs)
      refine hK.out _ _ (trivial) (fun hHeld => ?_)
      clear hK K
      (try simp only [Act.put, List.setIfInBounds_toArray, List.set_cons_zero, List.set_cons_succ, List.getElem_toArray, List.getElem_cons_succ, List.getElem_cons_zero])
      refine wpAnyH_done (by kernel_rfl) ?_ _
      go_wp2_with (first
        | (go_at_call 135; refine (HS13.out.call1 C4.out).mono ?_; rintro e w14 ⟨J, ⟨rfl, rfl⟩, hs⟩; simp only [List.cons_append, List.nil_append] at hs; have HS14 := Lib.hid hs; clear hs HS13)
        | (refine wpl_loadS HS14.out 2 rfl rfl exT rfl ?_)
        | (refine wpl_storeS HS14.out 3 rfl rfl exT rfl (fitsX rfl) ?_; intro w15 hs; have HS15 := Lib.hid (show St _ _ _ (_ :: _ :: _ :: _ :: _ :: []) from hs.out); clear hs HS14))
      refine bp_cell HS15.out 3 exT rfl rfl rfl rfl rfl ⟨_, ⟨3, t.pos, 0, t.text, _, .mk k_a p_a n_a nm_a es_a, rfl, rfl, fun h => ?_, rfl⟩, HS15.out.sel [0, 0] rfl⟩
      exact congrArg (fun z => Sx.E.mk 3 t.pos 0 t.text [z]) (HX_a.out (Sx.unnest_err h))
set_option maxHeartbeats 8000000 in
set_option maxRecDepth 100000 in
theorem rnamed_call (b : Nat) (L : List Lx.Tok) (hL : Sx.Ok L) (σ : Sx.R) (pos : Int) (hs : Sx.sees L [40] (Sx.some L 1 σ).2 = true) : Fn 186 #[.pointer (some ⟨b, 0, none⟩), .agg (stA 0 pos 0 [] 0 0 0 (.slice none 0 0) (.slice none 0 0) (.slice none 0 0) false)] [rr b L σ] (RSP b L (Sx.named L pos σ)) := by
  intro w P hP h0
  have HS := Lib.hid (St.start hP h0)
  have C1 := Lib.hid (rsome_fn b L hL σ 1 (by decide))
  have hat := (Sx.le_some hL.ends 1 (by decide) σ).2.2.1 HS.out.rat
  unfold Sx.named
  simp only []
  generalize Sx.some L 1 σ = sm at C1 hat hs ⊢
  obtain ⟨t, τ⟩ := sm
  simp only [] at C1 hat hs ⊢
  have C2 := Lib.hid (rsees_fn b L τ [40])
  rw [hs] at C2
  rw [if_pos hs]
  have CB := Lib.hid (rbehind_fn b L hL τ t (fun ρ _ => rexpr_any b L hL ρ 0))
  have C5 := Lib.hid (reat_fn b L hL (Sx.Bh L t τ).2 [59] (by decide))
  have hz0 : ([] : List Sx.E).length < nMax := by unfold nMax; decide
  clear h0 hP hL hat hs
  go_enter Tryz.func186, Tryz.ntmps186
  go_wp2_with (first
    | (refine wpl_box HS.out rfl rfl ?_; intro b_s w1 HS1; clear HS)
    | (refine wpl_alloc HS1.out _ rfl stZ ?_; intro b_r w2 HS2; clear HS1)
    | (go_at_call 66; refine (HS2.out.call1 C1.out).mono ?_; rintro e w3 ⟨J, ⟨rfl, rfl⟩, hs⟩; simp only [List.cons_append, List.nil_append] at hs; have HS3 := Lib.hid hs; clear hs HS2)
    | (refine wpl_alloc HS3.out _ rfl tokZ ?_; intro b_n w4 HS4; clear HS3)
    | (refine wpl_storeS HS4.out 1 rfl rfl tokT rfl (fitsT _ _ _ _) ?_; intro w5 hs; have HS5 := Lib.hid (show St _ _ _ (_ :: _ :: _ :: _ :: []) from hs.out); clear hs HS4)
    | (go_at_call 67; refine (HS5.out.call1 C2.out).mono ?_; rintro e w6 ⟨J, ⟨rfl, rfl⟩, hs⟩; simp only [List.cons_append, List.nil_append] at hs; have HS6 := Lib.hid hs; clear hs HS5)
    | (refine wpl_store HS6.out 3 rfl rfl intO (of_decide_eq_true rfl) rfl ?_; intro w7 hs; have HS7 := Lib.hid (show St _ _ _ (_ :: _ :: _ :: _ :: []) from hs.out); clear hs HS6; have HS8 := Lib.hid (HS7.out.to fun P h => h.under fun P h => lsI_nil h); clear HS7))
  refine wp_region_heldL (S := fun w' => w'.cell? ⟨b_s, 7, none⟩ = some (.slice none 0 0) ∧ w'.heap[b_n]? = some (.cells (tkA t.kind t.pos t.num (Lx.S t.text)) 77 (0, 0))) 8 (by kernel_rfl) (⟨HS8.out.drew.cell 4 rfl 7, HS8.out.drew.row 2 rfl⟩) (fun hHeld => ?_)
  refine tkL 0 ?_
  refine tkL 1 ?_
  refine tkL 2 ?_
  refine wpAnyL_take (i := 3) (v := _) (by kernel_rfl) rfl (by kernel_rfl) (by kernel_rfl) (by kernel_rfl) (fun _ _ _ h => h) (yieldsIf_loadS (by rfl) rfl tokT rfl (fun _ h => h.2)) (by assumption) ?_
  (try simp only [Act.put, List.setIfInBounds_toArray, List.set_cons_zero, List.set_cons_succ, List.getElem_toArray, List.getElem_cons_succ, List.getElem_cons_zero])
  refine wpAnyL_one (i := 4) (by kernel_rfl) rfl (fun K hK => ?_)
  go_simp
  (go_at_call 220; refine (HS8.out.drew.call1 CB.out).mono ?_; rintro e w9 ⟨J, ⟨k_a, p_a, n_a, nm_a, v_a, es_a, rfl, rfl, hx_a, h1_a⟩, hs⟩; simp only [List.cons_append, List.nil_append] at hs; have HS9 := Lib.hid hs; have HX_a := Lib.hid hx_a; clear hs hx_a HS8)
  refine hK.out _ _ (⟨HS9.out.cell 5 rfl 7, HS9.out.row 3 rfl⟩) (fun hHeld => ?_)
  clear hK K
  (try simp only [Act.put, List.setIfInBounds_toArray, List.set_cons_zero, List.set_cons_succ, List.getElem_toArray, List.getElem_cons_succ, List.getElem_cons_zero])
  refine wpAnyL_one (i := 5) (by kernel_rfl) rfl (fun K hK => ?_)
  (refine wp_slice HS9.out rfl Tryz.underlying51 (exB _ _ _ _ _) ?_; intro b_a w10 hs; have HS10 := Lib.hid (show St _ _ _ (_ :: _ :: _ :: _ :: _ :: _ :: _ :: []) from hs.out); clear hs HS9)
  refine hK.out _ _ (⟨HS10.out.cell 6 rfl 7, HS10.out.row 4 rfl⟩) (fun hHeld => ?_)
  clear hK K
  (try simp only [Act.put, List.setIfInBounds_toArray, List.set_cons_zero, List.set_cons_succ, List.getElem_toArray, List.getElem_cons_succ, List.getElem_cons_zero])
  refine wpAnyL_one (i := 6) (by kernel_rfl) rfl (fun K hK => ?_)
  (refine wp_appE HS10.out 0 rfl rfl Tryz.underlying51 h1_a hz0 ?_; intro q_a c_a w11 hs; have HS11 := Lib.hid (show St _ _ _ (_ :: _ :: _ :: _ :: _ :: []) from hs.out); clear hs HS10)
  refine hK.out _ _ (⟨HS11.out.cell 4 rfl 7, HS11.out.row 2 rfl⟩) (fun hHeld => ?_)
  clear hK K
  (try simp only [Act.put, List.setIfInBounds_toArray, List.set_cons_zero, List.set_cons_succ, List.getElem_toArray, List.getElem_cons_succ, List.getElem_cons_zero])
  refine tkL 7 ?_
  refine wpAnyL_last (by kernel_rfl) rfl (by kernel_rfl) (fun K hK => ?_)
  (refine wp_store1 HS11.out 4 rfl rfl exprsO (of_decide_eq_true rfl) rfl ?_; intro w12 hs; have HS12 := Lib.hid (show St _ _ _ (_ :: _ :: _ :: _ :: _ :: []) from hs.out); clear hs HS11)
  refine hK.out _ _ ?_
  clear hK K
  (try simp only [Act.put, List.setIfInBounds_toArray, List.set_cons_zero, List.set_cons_succ, List.getElem_toArray, List.getElem_cons_succ, List.getElem_cons_zero])
  go_wp2_with (first
    | (go_at_call 65; refine (HS12.out.call1 C5.out).mono ?_; rintro e w13 ⟨J, ⟨rfl, rfl⟩, hs⟩; simp only [List.cons_append, List.nil_append] at hs; have HS13 := Lib.hid hs; clear hs HS12)
    | (refine wpl_loadS HS13.out 4 rfl rfl stT rfl ?_)
    | (refine wpl_storeS HS13.out 3 rfl rfl stT rfl fitsS ?_; intro w14 hs; have HS14 := Lib.hid (show St _ _ _ (_ :: _ :: _ :: _ :: _ :: []) from hs.out); clear hs HS13))
  refine bp_cell HS14.out 3 stT rfl rfl rfl rfl rfl ⟨_, ⟨7, pos, 0, [], 0, 0, 0, _, _, _, _, _, _, _, _, _, [.mk k_a p_a n_a nm_a es_a], [], [], false, rfl, rfl, fun h => ?_⟩, (HS14.out.sel [0, 0] rfl).to fun P h => h.under fun P h => h.under fun P h => ssI_nil (ssI_nil h)⟩
  exact congrArg (fun z => Sx.S.mk 7 pos 0 [] Sx.noTy [z] [] [] false) (HX_a.out (Sx.eat_ok h))
set_option maxHeartbeats 8000000 in
set_option maxRecDepth 100000 in
theorem rnamed_store (b : Nat) (L : List Lx.Tok) (hL : Sx.Ok L) (σ : Sx.R) (pos : Int) (hs : Sx.sees L [91] (Sx.some L 1 σ).2 = true) : Fn 186 #[.pointer (some ⟨b, 0, none⟩), .agg (stA 0 pos 0 [] 0 0 0 (.slice none 0 0) (.slice none 0 0) (.slice none 0 0) false)] [rr b L σ] (RSP b L (Sx.named L pos σ)) := by
  intro w P hP h0
  have HS := Lib.hid (St.start hP h0)
  have C1 := Lib.hid (rsome_fn b L hL σ 1 (by decide))
  have hat := (Sx.le_some hL.ends 1 (by decide) σ).2.2.1 HS.out.rat
  unfold Sx.named
  simp only []
  generalize Sx.some L 1 σ = sm at C1 hat hs ⊢
  obtain ⟨t, τ⟩ := sm
  simp only [] at C1 hat hs ⊢
  have C2 := Lib.hid (rsees_fn b L τ [40])
  have C4 := Lib.hid (rsees_fn b L τ [91])
  have h40 : Sx.sees L [40] τ = false := Sx.sees_two hs (by decide)
  rw [hs] at C4
  rw [h40] at C2
  rw [if_neg (by rw [h40]; decide), if_pos hs]
  have CB := Lib.hid (rbehind_index1 b L hL τ t (fun ρ _ => rexpr_any b L hL ρ 0) h40 hs)
  have C5 := Lib.hid (reat_fn b L hL (Sx.Bh L t τ).2 [61] (by decide))
  have CV := Lib.hid (fun vl x => rvalue_fn b L hL (Sx.eat L [61] (Sx.Bh L t τ).2) vl [x] (by unfold nMax; simp))
  have hok : (Sx.eat L [59] (Sx.X L 0 (Sx.eat L [61] (Sx.Bh L t τ).2)).2).err = 0 → (Sx.Bh L t τ).2.err = 0 := fun h => Sx.eat_ok (Sx.Le.ok ((Sx.le_X hL.ends 0 _).trans (Sx.le_eat hL.ends [59] (by decide) _)) h)
  have HOK := Lib.hid hok
  clear h0 hP hL hat hs h40 hok
  go_enter Tryz.func186, Tryz.ntmps186
  go_wp2_with (first
    | (refine wpl_box HS.out rfl rfl ?_; intro b_s w1 HS1; clear HS)
    | (refine wpl_alloc HS1.out _ rfl stZ ?_; intro b_r w2 HS2; clear HS1)
    | (go_at_call 66; refine (HS2.out.call1 C1.out).mono ?_; rintro e w3 ⟨J, ⟨rfl, rfl⟩, hs⟩; simp only [List.cons_append, List.nil_append] at hs; have HS3 := Lib.hid hs; clear hs HS2)
    | (refine wpl_alloc HS3.out _ rfl tokZ ?_; intro b_n w4 HS4; clear HS3)
    | (refine wpl_storeS HS4.out 1 rfl rfl tokT rfl (fitsT _ _ _ _) ?_; intro w5 hs; have HS5 := Lib.hid (show St _ _ _ (_ :: _ :: _ :: _ :: []) from hs.out); clear hs HS4)
    | (go_at_call 67; refine (HS5.out.call1 C2.out).mono ?_; rintro e w6 ⟨J, ⟨rfl, rfl⟩, hs⟩; simp only [List.cons_append, List.nil_append] at hs; have HS6 := Lib.hid hs; clear hs HS5)
    | (go_at_call 67; refine (HS6.out.call1 C4.out).mono ?_; rintro e w7 ⟨J, ⟨rfl, rfl⟩, hs⟩; simp only [List.cons_append, List.nil_append] at hs; have HS7 := Lib.hid hs; clear hs HS6)
    | (refine wpl_store HS7.out 3 rfl rfl intO (of_decide_eq_true rfl) rfl ?_; intro w8 hs; have HS8 := Lib.hid (show St _ _ _ (_ :: _ :: _ :: _ :: []) from hs.out); clear hs HS7)
    | (refine wpl_load HS8.out 1 rfl rfl strO rfl ?_)
    | (refine wpl_store HS8.out 3 rfl rfl strO (of_decide_eq_true rfl) rfl ?_; intro w9 hs; have HS9 := Lib.hid (show St _ _ _ (_ :: _ :: _ :: _ :: []) from hs.out); clear hs HS8)
    | (refine wpl_loadS HS9.out 1 rfl rfl tokT rfl ?_)
    | (go_at_call 220; refine (HS9.out.call1 CB.out).mono ?_; rintro e w10 ⟨J, ⟨k_u, p_u, n_u, nm_u, v_u, x_u, rfl, rfl, hx_u, h1_u⟩, hs⟩; simp only [List.cons_append, List.nil_append] at hs; have HS10 := Lib.hid hs; clear hs HS9; have HX_u := Lib.hid hx_u; clear hx_u)
    | (refine wpl_alloc HS10.out _ rfl exZ ?_; intro b_at w11 HS11; clear HS10)
    | (refine wpl_storeS HS11.out 1 rfl rfl exT rfl (fitsX h1_u) ?_; intro w12 hs; have HS12 := Lib.hid (show St _ _ _ (_ :: _ :: _ :: _ :: _ :: _ :: []) from hs.out); clear hs HS11)
    | (go_at_call 65; refine (HS12.out.call1 C5.out).mono ?_; rintro e w13 ⟨J, ⟨rfl, rfl⟩, hs⟩; simp only [List.cons_append, List.nil_append] at hs; have HS13 := Lib.hid hs; clear hs HS12; have HS14 := Lib.hid (HS13.out.sel [0, 1, 0, 0, 0, 0] rfl); clear HS13)
    | (refine wpl_load HS14.out 2 rfl rfl exprsO rfl ?_)
    | (go_at_call 184; refine (St.call (pre := [_, _]) HS14.out (CV.out _ x_u)).mono ?_; rintro e w15 ⟨J, ⟨q_v, c_v, k_v, p_v, n_v, nm_v, es_v, rfl, rfl, hx_v⟩, hs⟩; simp only [List.cons_append, List.nil_append] at hs; have HS15 := Lib.hid hs; clear hs HS14; have HX_v := Lib.hid hx_v; clear hx_v)
    | (refine wpl_store HS15.out 5 rfl rfl exprsO (of_decide_eq_true rfl) rfl ?_; intro w16 hs; have HS16 := Lib.hid (show St _ _ _ (_ :: _ :: _ :: _ :: _ :: _ :: []) from hs.out); clear hs HS15)
    | (refine wpl_loadS HS16.out 5 rfl rfl stT rfl ?_)
    | (refine wpl_storeS HS16.out 4 rfl rfl stT rfl fitsS ?_; intro w17 hs; have HS17 := Lib.hid (show St _ _ _ (_ :: _ :: _ :: _ :: _ :: _ :: []) from hs.out); clear hs HS16))
  refine bp_cell HS17.out 4 stT rfl rfl rfl rfl rfl ⟨_, ⟨4, pos, 0, t.text, 0, 0, 0, _, _, _, _, _, _, _, _, _, [x_u, .mk k_v p_v n_v nm_v es_v], [], [], false, rfl, rfl, fun h => ?_⟩, (HS17.out.sel [0, 0] rfl).to fun P h => h.under fun P h => h.under fun P h => ssI_nil (ssI_nil h)⟩
  have h3 : (Sx.eat L [59] (Sx.X L 0 (Sx.eat L [61] (Sx.Bh L t τ).2)).2).err = 0 := h
  have h4 := HX_v.out h3
  have h2 := HX_u.out (HOK.out h3)
  show Sx.S.mk 4 pos 0 t.text Sx.noTy ((Sx.Bh L t τ).1.args ++ [(Sx.X L 0 (Sx.eat L [61] (Sx.Bh L t τ).2)).1]) [] [] false = _
  rw [h4, h2]
  rfl
set_option maxHeartbeats 8000000 in
set_option maxRecDepth 100000 in
theorem rnamed_set (b : Nat) (L : List Lx.Tok) (hL : Sx.Ok L) (σ : Sx.R) (pos : Int) (hs1 : Sx.sees L [40] (Sx.some L 1 σ).2 = false) (hs2 : Sx.sees L [91] (Sx.some L 1 σ).2 = false) : Fn 186 #[.pointer (some ⟨b, 0, none⟩), .agg (stA 0 pos 0 [] 0 0 0 (.slice none 0 0) (.slice none 0 0) (.slice none 0 0) false)] [rr b L σ] (RSP b L (Sx.named L pos σ)) := by
  intro w P hP h0
  have HS := Lib.hid (St.start hP h0)
  have C1 := Lib.hid (rsome_fn b L hL σ 1 (by decide))
  have hat := (Sx.le_some hL.ends 1 (by decide) σ).2.2.1 HS.out.rat
  unfold Sx.named
  simp only []
  generalize Sx.some L 1 σ = sm at C1 hat hs1 hs2 ⊢
  obtain ⟨t, τ⟩ := sm
  simp only [] at C1 hat hs1 hs2 ⊢
  have C2 := Lib.hid (rsees_fn b L τ [40])
  have C4 := Lib.hid (rsees_fn b L τ [91])
  rw [hs2] at C4
  rw [hs1] at C2
  rw [if_neg (by rw [hs1]; decide), if_neg (by rw [hs2]; decide)]
  have C5 := Lib.hid (reat_fn b L hL τ [61] (by decide))
  have CV := Lib.hid (rvalue_fn b L hL (Sx.eat L [61] τ) (.slice none 0 0) [] (by unfold nMax; decide))
  clear h0 hP hL hat hs1 hs2
  go_enter Tryz.func186, Tryz.ntmps186
  go_wp2_with (first
    | (refine wpl_box HS.out rfl rfl ?_; intro b_s w1 HS1; clear HS)
    | (refine wpl_alloc HS1.out _ rfl stZ ?_; intro b_r w2 HS2; clear HS1)
    | (go_at_call 66; refine (HS2.out.call1 C1.out).mono ?_; rintro e w3 ⟨J, ⟨rfl, rfl⟩, hs⟩; simp only [List.cons_append, List.nil_append] at hs; have HS3 := Lib.hid hs; clear hs HS2)
    | (refine wpl_alloc HS3.out _ rfl tokZ ?_; intro b_n w4 HS4; clear HS3)
    | (refine wpl_storeS HS4.out 1 rfl rfl tokT rfl (fitsT _ _ _ _) ?_; intro w5 hs; have HS5 := Lib.hid (show St _ _ _ (_ :: _ :: _ :: _ :: []) from hs.out); clear hs HS4)
    | (go_at_call 67; refine (HS5.out.call1 C2.out).mono ?_; rintro e w6 ⟨J, ⟨rfl, rfl⟩, hs⟩; simp only [List.cons_append, List.nil_append] at hs; have HS6 := Lib.hid hs; clear hs HS5)
    | (go_at_call 67; refine (HS6.out.call1 C4.out).mono ?_; rintro e w7 ⟨J, ⟨rfl, rfl⟩, hs⟩; simp only [List.cons_append, List.nil_append] at hs; have HS7 := Lib.hid hs; clear hs HS6)
    | (refine wpl_store HS7.out 3 rfl rfl intO (of_decide_eq_true rfl) rfl ?_; intro w8 hs; have HS8 := Lib.hid (show St _ _ _ (_ :: _ :: _ :: _ :: []) from hs.out); clear hs HS7)
    | (refine wpl_load HS8.out 1 rfl rfl strO rfl ?_)
    | (refine wpl_store HS8.out 3 rfl rfl strO (of_decide_eq_true rfl) rfl ?_; intro w9 hs; have HS9 := Lib.hid (show St _ _ _ (_ :: _ :: _ :: _ :: []) from hs.out); clear hs HS8)
    | (go_at_call 65; refine (HS9.out.call1 C5.out).mono ?_; rintro e w10 ⟨J, ⟨rfl, rfl⟩, hs⟩; simp only [List.cons_append, List.nil_append] at hs; have HS10 := Lib.hid hs; clear hs HS9; have HS11 := Lib.hid (HS10.out.to fun P h => h.under fun P h => lsI_nil h); clear HS10)
    | (go_at_call 184; refine (St.call (pre := [_, _]) HS11.out CV.out).mono ?_; rintro e w12 ⟨J, ⟨q_v, c_v, k_v, p_v, n_v, nm_v, es_v, rfl, rfl, hx_v⟩, hs⟩; simp only [List.cons_append, List.nil_append] at hs; have HS12 := Lib.hid hs; clear hs HS11; have HX_v := Lib.hid hx_v; clear hx_v)
    | (refine wpl_store HS12.out 4 rfl rfl exprsO (of_decide_eq_true rfl) rfl ?_; intro w13 hs; have HS13 := Lib.hid (show St _ _ _ (_ :: _ :: _ :: _ :: _ :: []) from hs.out); clear hs HS12)
    | (refine wpl_loadS HS13.out 4 rfl rfl stT rfl ?_)
    | (refine wpl_storeS HS13.out 3 rfl rfl stT rfl fitsS ?_; intro w14 hs; have HS14 := Lib.hid (show St _ _ _ (_ :: _ :: _ :: _ :: _ :: []) from hs.out); clear hs HS13))
  refine bp_cell HS14.out 3 stT rfl rfl rfl rfl rfl ⟨_, ⟨3, pos, 0, t.text, 0, 0, 0, _, _, _, _, _, _, _, _, _, [.mk k_v p_v n_v nm_v es_v], [], [], false, rfl, rfl, fun h => ?_⟩, (HS14.out.sel [0, 0] rfl).to fun P h => h.under fun P h => h.under fun P h => ssI_nil (ssI_nil h)⟩
  exact congrArg (fun z => Sx.S.mk 3 pos 0 t.text Sx.noTy [z] [] [] false) (HX_v.out h)
theorem rnamed_fn (b : Nat) (L : List Lx.Tok) (hL : Sx.Ok L) (σ : Sx.R) (pos : Int) : Fn 186 #[.pointer (some ⟨b, 0, none⟩), .agg (stA 0 pos 0 [] 0 0 0 (.slice none 0 0) (.slice none 0 0) (.slice none 0 0) false)] [rr b L σ] (RSP b L (Sx.named L pos σ)) := by
  by_cases h1 : Sx.sees L [40] (Sx.some L 1 σ).2 = true
  · exact rnamed_call b L hL σ pos h1
  by_cases h2 : Sx.sees L [91] (Sx.some L 1 σ).2 = true
  · exact rnamed_store b L hL σ pos h2
  exact rnamed_set b L hL σ pos (by simpa using h1) (by simpa using h2)
end Go.Proofs.YtjfdcnggnldgdaaGreatDoor
end
section
namespace Go.Proofs.YtjfdcnggnldgdaaGreatDoor
open Go.ChangeShapes Go.WideShapes Go.ChangeAt Go.RowKit
set_option linter.unusedVariables false
set_option linter.unusedSimpArgs false

/-- what the document's reader of a block hands back -/
def RSS (b : Nat) (L : List Lx.Tok) (r : List Sx.S × Sx.R) (e : Ending) (J : List It) : Prop :=
  ∃ (q : Option Addr) (l c : Nat) (ss : List Sx.S), e = .returned (.slice q l c) ∧ J = [rr b L r.2, ssI (.slice q l c) ss] ∧ (r.2.err = 0 → r.1 = ss)
def rCB (b : Nat) (L : List Lx.Tok) (σ : Sx.R) : Prop := Fn 72 #[.pointer (some ⟨b, 0, none⟩)] [rr b L σ] (RSS b L (Sx.Bl L σ))
def rCS (b : Nat) (L : List Lx.Tok) (σ : Sx.R) : Prop := Fn 134 #[.pointer (some ⟨b, 0, none⟩)] [rr b L σ] (RSP b L (Sx.St L σ))
set_option maxHeartbeats 8000000 in
set_option maxRecDepth 100000 in
theorem rstmt_let (b : Nat) (L : List Lx.Tok) (hL : Sx.Ok L) (σ : Sx.R) (he : σ.err = 0) (hB : ∀ τ, Sx.M L τ + 16 ≤ Sx.M L σ → rCB b L τ) (hse : Sx.sees L Sx.wLet σ = true) : rCS b L σ := by
  intro w P hP h0
  have HS := Lib.hid (St.start hP h0)
  have hat := HS.out.rat
  have M0 := Lib.hid (rmay_fn b L hL σ Sx.wLet (by decide))
  rw [Sx.may_is hse] at M0
  have hst : Sx.stm L σ = Sx.lett L { σ with at' := σ.at' + 1 } := by
    unfold Sx.stm
    simp only []
    rw [if_pos hse]
  rw [Sx.St_eq hL.ends hat he, hst]
  have hF2 := tokF2
  have hF3 := tokF3
  have C2 := Lib.hid (rsome_fn b L hL { σ with at' := σ.at' + 1 } 1 (by decide))
  have C5 := Lib.hid (reat_fn b L hL (Sx.some L 1 { σ with at' := σ.at' + 1 }).2 [61] (by decide))
  have CV := Lib.hid (rvalue_fn b L hL (Sx.eat L [61] (Sx.some L 1 { σ with at' := σ.at' + 1 }).2) (.slice none 0 0) [] (by unfold nMax; decide))
  clear h0 hP hL hB hat he hst hse
  go_enter Tryz.func134, Tryz.ntmps134
  go_wp2_with (first
    | (refine wpl_alloc HS.out _ rfl stZ ?_; intro b_r w1 HS1; clear HS; obtain ⟨a1, cap1, t1, m1, e1, p1, hr, hs3⟩ := HS1.out.rrOpen; have HR1 := Lib.hid hr; have HO1 := Lib.hid hs3; clear hs3 hr))
  obtain ⟨hb0_1, hb1_1, hb2_1⟩ := rr_bound HR1.out
  refine wp_region_heldL (S := fun w' => w'.cell? ⟨b, 0, none⟩ = some (.slice (some a1) L.length cap1) ∧ w'.cell? ⟨b, 1, none⟩ = some (.int .i64 (t1 : Int)) ∧ w'.cell? ⟨(a1.add (t1 * 4)).block, (a1.add (t1 * 4)).off + 1, none⟩ = some (.int .i64 ((Sx.tk L σ).pos : Int))) 13 (by kernel_rfl) (⟨HO1.out.drew.cell 0 rfl 0, HO1.out.drew.cell 0 rfl 1, (tk_cells (toks_t ((HO1.out.drew.sep.pick 1 rfl).choose_spec.choose_spec.2.2.2.1) HR1.out)).2.1⟩) (fun hHeld => ?_)
  refine tkL 0 ?_
  refine tkL 1 ?_
  refine tkL 2 ?_
  refine tkL 3 ?_
  refine tkL 4 ?_
  refine tkL 5 ?_
  refine tkL 6 ?_
  refine tkL 7 ?_
  refine tkL 8 ?_
  refine tkL 9 ?_
  refine tkL 10 ?_
  refine tkL 11 ?_
  refine wpAnyL_one (i := 12) (by kernel_rfl) rfl (fun K hK => ?_)
  (refine wp_alloc HO1.out.drew _ rfl stZ ?_; intro b_s w_2a HA2; clear HS1)
  refine hK.out _ _ (⟨HA2.out.cell 0 rfl 0, HA2.out.cell 0 rfl 1, (tk_cells (toks_t ((HA2.out.sep.pick 2 rfl).choose_spec.choose_spec.2.2.2.1) HR1.out)).2.1⟩) (fun hHeld => ?_)
  clear hK K
  (try simp only [Act.put, List.setIfInBounds_toArray, List.set_cons_zero, List.set_cons_succ, List.getElem_toArray, List.getElem_cons_succ, List.getElem_cons_zero])
  refine wpAnyL_last (by kernel_rfl) rfl (by kernel_rfl) (fun K hK => ?_)
  (refine wp_storeS HA2.out 1 ⟨rfl, rfl⟩ rfl stT rfl fitsS ?_; intro w2 hs; have HT2 := Lib.hid (show St _ _ _ (_ :: _ :: _ :: _ :: []) from hs.out); clear hs HA2)
  refine hK.out _ _ ?_
  clear hK K
  have HS2 := Lib.hid ((HT2.out.sel [0, 1, 0, 0] rfl).rrClose HR1.out)
  clear HT2 HO1
  go_wp2_with (first
    | (go_at_call 69; refine (HS2.out.call1 M0.out).mono ?_; rintro e w3 ⟨J, ⟨rfl, rfl⟩, hs⟩; simp only [List.cons_append, List.nil_append] at hs; have HS3 := Lib.hid hs; clear hs HS2)
    | (refine wpl_store HS3.out 1 rfl rfl intO (of_decide_eq_true rfl) rfl ?_; intro w4 hs; have HS4 := Lib.hid (show St _ _ _ (_ :: _ :: _ :: []) from hs.out); clear hs HS3)
    | (go_at_call 66; refine (HS4.out.call1 C2.out).mono ?_; rintro e w5 ⟨J, ⟨rfl, rfl⟩, hs⟩; simp only [List.cons_append, List.nil_append] at hs; have HS5 := Lib.hid hs; clear hs HS4)
    | (refine wpl_store HS5.out 1 rfl rfl strO (of_decide_eq_true rfl) rfl ?_; intro w6 hs; have HS6 := Lib.hid (show St _ _ _ (_ :: _ :: _ :: []) from hs.out); clear hs HS5)
    | (go_at_call 65; refine (HS6.out.call1 C5.out).mono ?_; rintro e w7 ⟨J, ⟨rfl, rfl⟩, hs⟩; simp only [List.cons_append, List.nil_append] at hs; have HS7 := Lib.hid hs; clear hs HS6; have HS8 := Lib.hid (HS7.out.to fun P h => h.under fun P h => lsI_nil h); clear HS7)
    | (go_at_call 184; refine (St.call (pre := [_, _]) HS8.out CV.out).mono ?_; rintro e w9 ⟨J, ⟨q_v, c_v, k_v, p_v, n_v, nm_v, es_v, rfl, rfl, hx_v⟩, hs⟩; simp only [List.cons_append, List.nil_append] at hs; have HS9 := Lib.hid hs; clear hs HS8; have HX_v := Lib.hid hx_v; clear hx_v)
    | (refine wpl_store HS9.out 2 rfl rfl exprsO (of_decide_eq_true rfl) rfl ?_; intro w10 hs; have HS10 := Lib.hid (show St _ _ _ (_ :: _ :: _ :: _ :: []) from hs.out); clear hs HS9)
    | (refine wpl_loadS HS10.out 2 rfl rfl stT rfl ?_)
    | (refine wpl_storeS HS10.out 3 rfl rfl stT rfl fitsS ?_; intro w11 hs; have HS11 := Lib.hid (show St _ _ _ (_ :: _ :: _ :: _ :: []) from hs.out); clear hs HS10))
  refine bp_cell HS11.out 3 stT rfl rfl rfl rfl rfl ⟨_, ⟨1, (Sx.tk L σ).pos, 0, (Sx.some L 1 { σ with at' := σ.at' + 1 }).1.text, 0, 0, 0, _, _, _, _, _, _, _, _, _, [.mk k_v p_v n_v nm_v es_v], [], [], false, rfl, rfl, fun h => ?_⟩, (HS11.out.sel [0, 0] rfl).to fun P h => h.under fun P h => h.under fun P h => ssI_nil (ssI_nil h)⟩
  exact congrArg (fun z => Sx.S.mk 1 (Sx.tk L σ).pos 0 (Sx.some L 1 { σ with at' := σ.at' + 1 }).1.text Sx.noTy [z] [] [] false) (HX_v.out h)
set_option maxHeartbeats 8000000 in
set_option maxRecDepth 100000 in
theorem rstmt_var (b : Nat) (L : List Lx.Tok) (hL : Sx.Ok L) (σ : Sx.R) (he : σ.err = 0) (hB : ∀ τ, Sx.M L τ + 16 ≤ Sx.M L σ → rCB b L τ) (hse : Sx.sees L Sx.wVar σ = true) : rCS b L σ := by
  intro w P hP h0
  have HS := Lib.hid (St.start hP h0)
  have hat := HS.out.rat
  have N0 : Sx.sees L Sx.wLet σ = false := Sx.sees_two hse (by decide)
  have M0 := Lib.hid (rmay_fn b L hL σ Sx.wLet (by decide))
  rw [Sx.may_no N0] at M0
  have M1 := Lib.hid (rmay_fn b L hL σ Sx.wVar (by decide))
  rw [Sx.may_is hse] at M1
  have hst : Sx.stm L σ = Sx.dcl L { σ with at' := σ.at' + 1 } := by
    unfold Sx.stm
    simp only []
    rw [if_neg (by rw [N0]; exact Bool.false_ne_true), if_pos hse]
  rw [Sx.St_eq hL.ends hat he, hst]
  have hF2 := tokF2
  have hF3 := tokF3
  have C2 := Lib.hid (rlabel_fn b L hL { σ with at' := σ.at' + 1 })
  have C3 := Lib.hid (rsome_fn b L hL (Sx.label L { σ with at' := σ.at' + 1 }).2 1 (by decide))
  have C4 := Lib.hid (reat_fn b L hL (Sx.some L 1 (Sx.label L { σ with at' := σ.at' + 1 }).2).2 [58] (by decide))
  have C5 := Lib.hid (rkind_fn b L hL (Sx.eat L [58] (Sx.some L 1 (Sx.label L { σ with at' := σ.at' + 1 }).2).2) false (Sx.label L { σ with at' := σ.at' + 1 }).1)
  have C6 := Lib.hid (reat_fn b L hL (Sx.type L false (Sx.label L { σ with at' := σ.at' + 1 }).1 (Sx.eat L [58] (Sx.some L 1 (Sx.label L { σ with at' := σ.at' + 1 }).2).2)).2 [59] (by decide))
  clear h0 hP hL hB hat he hst hse N0
  go_enter Tryz.func134, Tryz.ntmps134
  go_wp2_with (first
    | (refine wpl_alloc HS.out _ rfl stZ ?_; intro b_r w1 HS1; clear HS; obtain ⟨a1, cap1, t1, m1, e1, p1, hr, hs3⟩ := HS1.out.rrOpen; have HR1 := Lib.hid hr; have HO1 := Lib.hid hs3; clear hs3 hr))
  obtain ⟨hb0_1, hb1_1, hb2_1⟩ := rr_bound HR1.out
  refine wp_region_heldL (S := fun w' => w'.cell? ⟨b, 0, none⟩ = some (.slice (some a1) L.length cap1) ∧ w'.cell? ⟨b, 1, none⟩ = some (.int .i64 (t1 : Int)) ∧ w'.cell? ⟨(a1.add (t1 * 4)).block, (a1.add (t1 * 4)).off + 1, none⟩ = some (.int .i64 ((Sx.tk L σ).pos : Int))) 13 (by kernel_rfl) (⟨HO1.out.drew.cell 0 rfl 0, HO1.out.drew.cell 0 rfl 1, (tk_cells (toks_t ((HO1.out.drew.sep.pick 1 rfl).choose_spec.choose_spec.2.2.2.1) HR1.out)).2.1⟩) (fun hHeld => ?_)
  refine tkL 0 ?_
  refine tkL 1 ?_
  refine tkL 2 ?_
  refine tkL 3 ?_
  refine tkL 4 ?_
  refine tkL 5 ?_
  refine tkL 6 ?_
  refine tkL 7 ?_
  refine tkL 8 ?_
  refine tkL 9 ?_
  refine tkL 10 ?_
  refine tkL 11 ?_
  refine wpAnyL_one (i := 12) (by kernel_rfl) rfl (fun K hK => ?_)
  (refine wp_alloc HO1.out.drew _ rfl stZ ?_; intro b_s w_2a HA2; clear HS1)
  refine hK.out _ _ (⟨HA2.out.cell 0 rfl 0, HA2.out.cell 0 rfl 1, (tk_cells (toks_t ((HA2.out.sep.pick 2 rfl).choose_spec.choose_spec.2.2.2.1) HR1.out)).2.1⟩) (fun hHeld => ?_)
  clear hK K
  (try simp only [Act.put, List.setIfInBounds_toArray, List.set_cons_zero, List.set_cons_succ, List.getElem_toArray, List.getElem_cons_succ, List.getElem_cons_zero])
  refine wpAnyL_last (by kernel_rfl) rfl (by kernel_rfl) (fun K hK => ?_)
  (refine wp_storeS HA2.out 1 ⟨rfl, rfl⟩ rfl stT rfl fitsS ?_; intro w2 hs; have HT2 := Lib.hid (show St _ _ _ (_ :: _ :: _ :: _ :: []) from hs.out); clear hs HA2)
  refine hK.out _ _ ?_
  clear hK K
  have HS2 := Lib.hid ((HT2.out.sel [0, 1, 0, 0] rfl).rrClose HR1.out)
  clear HT2 HO1
  go_wp2_with (first
    | (go_at_call 69; refine (HS2.out.call1 M0.out).mono ?_; rintro e w3 ⟨J, ⟨rfl, rfl⟩, hs⟩; simp only [List.cons_append, List.nil_append] at hs; have HS3 := Lib.hid hs; clear hs HS2)
    | (go_at_call 69; refine (HS3.out.call1 M1.out).mono ?_; rintro e w4 ⟨J, ⟨rfl, rfl⟩, hs⟩; simp only [List.cons_append, List.nil_append] at hs; have HS4 := Lib.hid hs; clear hs HS3)
    | (refine wpl_store HS4.out 1 rfl rfl intO (of_decide_eq_true rfl) rfl ?_; intro w5 hs; have HS5 := Lib.hid (show St _ _ _ (_ :: _ :: _ :: []) from hs.out); clear hs HS4)
    | (go_at_call 70; refine (HS5.out.call1 C2.out).mono ?_; rintro e w6 ⟨J, ⟨rfl, rfl⟩, hs⟩; simp only [List.cons_append, List.nil_append] at hs; have HS6 := Lib.hid hs; clear hs HS5)
    | (go_at_call 66; refine (HS6.out.call1 C3.out).mono ?_; rintro e w7 ⟨J, ⟨rfl, rfl⟩, hs⟩; simp only [List.cons_append, List.nil_append] at hs; have HS7 := Lib.hid hs; clear hs HS6)
    | (refine wpl_store HS7.out 1 rfl rfl strO (of_decide_eq_true rfl) rfl ?_; intro w8 hs; have HS8 := Lib.hid (show St _ _ _ (_ :: _ :: _ :: []) from hs.out); clear hs HS7)
    | (go_at_call 65; refine (HS8.out.call1 C4.out).mono ?_; rintro e w9 ⟨J, ⟨rfl, rfl⟩, hs⟩; simp only [List.cons_append, List.nil_append] at hs; have HS9 := Lib.hid hs; clear hs HS8)
    | (go_at_call 71; refine (HS9.out.call1 C5.out).mono ?_; rintro e w10 ⟨J, ⟨rfl, rfl⟩, hs⟩; simp only [List.cons_append, List.nil_append] at hs; have HS10 := Lib.hid hs; clear hs HS9)
    | (refine wpl_storeMid HS10.out 1 rfl rfl tyT (fits3i _ _ _) (of_decide_eq_true rfl) ?_; intro w11 hs; have HS11 := Lib.hid (show St _ _ _ (_ :: _ :: _ :: []) from hs.out); clear hs HS10)
    | (go_at_call 65; refine (HS11.out.call1 C6.out).mono ?_; rintro e w12 ⟨J, ⟨rfl, rfl⟩, hs⟩; simp only [List.cons_append, List.nil_append] at hs; have HS12 := Lib.hid hs; clear hs HS11)
    | (refine wpl_loadS HS12.out 1 rfl rfl stT rfl ?_)
    | (refine wpl_storeS HS12.out 2 rfl rfl stT rfl fitsS ?_; intro w13 hs; have HS13 := Lib.hid (show St _ _ _ (_ :: _ :: _ :: []) from hs.out); clear hs HS12))
  exact bp_cell HS13.out 2 stT rfl rfl rfl rfl rfl ⟨_, ⟨2, (Sx.tk L σ).pos, 0, (Sx.some L 1 (Sx.label L { σ with at' := σ.at' + 1 }).2).1.text, (Sx.type L false (Sx.label L { σ with at' := σ.at' + 1 }).1 (Sx.eat L [58] (Sx.some L 1 (Sx.label L { σ with at' := σ.at' + 1 }).2).2)).1.elem, (Sx.type L false (Sx.label L { σ with at' := σ.at' + 1 }).1 (Sx.eat L [58] (Sx.some L 1 (Sx.label L { σ with at' := σ.at' + 1 }).2).2)).1.len, (Sx.type L false (Sx.label L { σ with at' := σ.at' + 1 }).1 (Sx.eat L [58] (Sx.some L 1 (Sx.label L { σ with at' := σ.at' + 1 }).2).2)).1.label, _, _, _, _, _, _, _, _, _, [], [], [], false, rfl, rfl, fun h => rfl⟩, (HS13.out.sel [0] rfl).to fun P h => h.under fun P h => lsI_nil (ssI_nil (ssI_nil h))⟩
set_option maxHeartbeats 8000000 in
set_option maxRecDepth 100000 in
theorem rstmt_if (b : Nat) (L : List Lx.Tok) (hL : Sx.Ok L) (σ : Sx.R) (he : σ.err = 0) (hB : ∀ τ, Sx.M L τ + 16 ≤ Sx.M L σ → rCB b L τ) (hse : Sx.sees L Sx.wIf σ = true) (hel : Sx.sees L Sx.wElse (Sx.Bl L (Sx.X L 0 { σ with at' := σ.at' + 1 }).2).2 = false) : rCS b L σ := by
  intro w P hP h0
  have HS := Lib.hid (St.start hP h0)
  have hat := HS.out.rat
  have N0 : Sx.sees L Sx.wLet σ = false := Sx.sees_two hse (by decide)
  have M0 := Lib.hid (rmay_fn b L hL σ Sx.wLet (by decide))
  rw [Sx.may_no N0] at M0
  have N1 : Sx.sees L Sx.wVar σ = false := Sx.sees_two hse (by decide)
  have M1 := Lib.hid (rmay_fn b L hL σ Sx.wVar (by decide))
  rw [Sx.may_no N1] at M1
  have M2 := Lib.hid (rmay_fn b L hL σ Sx.wIf (by decide))
  rw [Sx.may_is hse] at M2
  have hst : Sx.stm L σ = Sx.brn L { σ with at' := σ.at' + 1 } := by
    unfold Sx.stm
    simp only []
    rw [if_neg (by rw [N0]; exact Bool.false_ne_true), if_neg (by rw [N1]; exact Bool.false_ne_true), if_pos hse]
  rw [Sx.St_eq hL.ends hat he, hst]
  have hF2 := tokF2
  have hF3 := tokF3
  have hM0 := Sx.M_next he hat
  have hin := Sx.X_in hL.ends (t := 0) (σ := { σ with at' := σ.at' + 1 }) ((Sx.le_next hL.ends he (Sx.text_kind (by rw [(Sx.sees_text hse).2]; decide))).2.2.1 hat)
  have hM1 := Sx.M_le (Sx.le_X hL.ends 0 { σ with at' := σ.at' + 1 })
  have hM2 := Sx.M_le (Sx.le_Bl hL.ends (Sx.X L 0 { σ with at' := σ.at' + 1 }).2)
  have CX := Lib.hid (rexpr_any b L hL { σ with at' := σ.at' + 1 } 0)
  have CB1 := Lib.hid (hB (Sx.X L 0 { σ with at' := σ.at' + 1 }).2 (Nat.le_trans (Nat.add_le_add_right hM1 16) hM0))
  have C3 := Lib.hid (rmay_fn b L hL (Sx.Bl L (Sx.X L 0 { σ with at' := σ.at' + 1 }).2).2 Sx.wElse (by decide))
  have hok := fun h => Sx.Le.ok (Sx.le_Bl hL.ends (Sx.X L 0 { σ with at' := σ.at' + 1 }).2) h
  unfold Sx.brn
  simp only []
  rw [Sx.may_no hel] at C3
  rw [if_neg (by rw [hel]; exact Bool.false_ne_true)]
  have HOK := Lib.hid hok
  have hz0 : ([] : List Sx.E).length < nMax := by unfold nMax; decide
  clear h0 hP hL hB hat he hst hse N0 N1 hM0 hin hM1 hM2 hel hok
  go_enter Tryz.func134, Tryz.ntmps134
  go_wp2_with (first
    | (refine wpl_alloc HS.out _ rfl stZ ?_; intro b_r w1 HS1; clear HS; obtain ⟨a1, cap1, t1, m1, e1, p1, hr, hs3⟩ := HS1.out.rrOpen; have HR1 := Lib.hid hr; have HO1 := Lib.hid hs3; clear hs3 hr))
  obtain ⟨hb0_1, hb1_1, hb2_1⟩ := rr_bound HR1.out
  refine wp_region_heldL (S := fun w' => w'.cell? ⟨b, 0, none⟩ = some (.slice (some a1) L.length cap1) ∧ w'.cell? ⟨b, 1, none⟩ = some (.int .i64 (t1 : Int)) ∧ w'.cell? ⟨(a1.add (t1 * 4)).block, (a1.add (t1 * 4)).off + 1, none⟩ = some (.int .i64 ((Sx.tk L σ).pos : Int))) 13 (by kernel_rfl) (⟨HO1.out.drew.cell 0 rfl 0, HO1.out.drew.cell 0 rfl 1, (tk_cells (toks_t ((HO1.out.drew.sep.pick 1 rfl).choose_spec.choose_spec.2.2.2.1) HR1.out)).2.1⟩) (fun hHeld => ?_)
  refine tkL 0 ?_
  refine tkL 1 ?_
  refine tkL 2 ?_
  refine tkL 3 ?_
  refine tkL 4 ?_
  refine tkL 5 ?_
  refine tkL 6 ?_
  refine tkL 7 ?_
  refine tkL 8 ?_
  refine tkL 9 ?_
  refine tkL 10 ?_
  refine tkL 11 ?_
  refine wpAnyL_one (i := 12) (by kernel_rfl) rfl (fun K hK => ?_)
  (refine wp_alloc HO1.out.drew _ rfl stZ ?_; intro b_s w_2a HA2; clear HS1)
  refine hK.out _ _ (⟨HA2.out.cell 0 rfl 0, HA2.out.cell 0 rfl 1, (tk_cells (toks_t ((HA2.out.sep.pick 2 rfl).choose_spec.choose_spec.2.2.2.1) HR1.out)).2.1⟩) (fun hHeld => ?_)
  clear hK K
  (try simp only [Act.put, List.setIfInBounds_toArray, List.set_cons_zero, List.set_cons_succ, List.getElem_toArray, List.getElem_cons_succ, List.getElem_cons_zero])
  refine wpAnyL_last (by kernel_rfl) rfl (by kernel_rfl) (fun K hK => ?_)
  (refine wp_storeS HA2.out 1 ⟨rfl, rfl⟩ rfl stT rfl fitsS ?_; intro w2 hs; have HT2 := Lib.hid (show St _ _ _ (_ :: _ :: _ :: _ :: []) from hs.out); clear hs HA2)
  refine hK.out _ _ ?_
  clear hK K
  have HS2 := Lib.hid ((HT2.out.sel [0, 1, 0, 0] rfl).rrClose HR1.out)
  clear HT2 HO1
  go_wp2_with (first
    | (go_at_call 69; refine (HS2.out.call1 M0.out).mono ?_; rintro e w3 ⟨J, ⟨rfl, rfl⟩, hs⟩; simp only [List.cons_append, List.nil_append] at hs; have HS3 := Lib.hid hs; clear hs HS2)
    | (go_at_call 69; refine (HS3.out.call1 M1.out).mono ?_; rintro e w4 ⟨J, ⟨rfl, rfl⟩, hs⟩; simp only [List.cons_append, List.nil_append] at hs; have HS4 := Lib.hid hs; clear hs HS3)
    | (go_at_call 69; refine (HS4.out.call1 M2.out).mono ?_; rintro e w5 ⟨J, ⟨rfl, rfl⟩, hs⟩; simp only [List.cons_append, List.nil_append] at hs; have HS5 := Lib.hid hs; clear hs HS4)
    | (refine wpl_store HS5.out 1 rfl rfl intO (of_decide_eq_true rfl) rfl ?_; intro w6 hs; have HS6 := Lib.hid (show St _ _ _ (_ :: _ :: _ :: []) from hs.out); clear hs HS5; have HS7 := Lib.hid (HS6.out.to fun P h => h.under fun P h => lsI_nil h); clear HS6))
  refine wp_region_heldL (S := fun w' => w'.cell? ⟨b_s, 7, none⟩ = some (.slice none 0 0)) 7 (by kernel_rfl) (HS7.out.drew.cell 2 rfl 7) (fun hHeld => ?_)
  refine tkL 0 ?_
  refine tkL 1 ?_
  refine tkL 2 ?_
  refine wpAnyL_one (i := 3) (by kernel_rfl) rfl (fun K hK => ?_)
  go_simp
  (go_at_call 185; refine (HS7.out.drew.call1 CX.out).mono ?_; rintro e w8 ⟨J, ⟨k_a, p_a, n_a, nm_a, v_a, es_a, rfl, rfl, hx_a, h1_a⟩, hs⟩; simp only [List.cons_append, List.nil_append] at hs; have HS8 := Lib.hid hs; have HX_a := Lib.hid hx_a; clear hs hx_a HS7)
  refine hK.out _ _ (HS8.out.cell 3 rfl 7) (fun hHeld => ?_)
  clear hK K
  (try simp only [Act.put, List.setIfInBounds_toArray, List.set_cons_zero, List.set_cons_succ, List.getElem_toArray, List.getElem_cons_succ, List.getElem_cons_zero])
  refine wpAnyL_one (i := 4) (by kernel_rfl) rfl (fun K hK => ?_)
  (refine wp_slice HS8.out rfl Tryz.underlying51 (exB _ _ _ _ _) ?_; intro b_a w9 hs; have HS9 := Lib.hid (show St _ _ _ (_ :: _ :: _ :: _ :: _ :: _ :: []) from hs.out); clear hs HS8)
  refine hK.out _ _ (HS9.out.cell 4 rfl 7) (fun hHeld => ?_)
  clear hK K
  (try simp only [Act.put, List.setIfInBounds_toArray, List.set_cons_zero, List.set_cons_succ, List.getElem_toArray, List.getElem_cons_succ, List.getElem_cons_zero])
  refine wpAnyL_one (i := 5) (by kernel_rfl) rfl (fun K hK => ?_)
  (refine wp_appE HS9.out 0 rfl rfl Tryz.underlying51 h1_a hz0 ?_; intro q_a c_a w10 hs; have HS10 := Lib.hid (show St _ _ _ (_ :: _ :: _ :: _ :: []) from hs.out); clear hs HS9)
  refine hK.out _ _ (HS10.out.cell 2 rfl 7) (fun hHeld => ?_)
  clear hK K
  (try simp only [Act.put, List.setIfInBounds_toArray, List.set_cons_zero, List.set_cons_succ, List.getElem_toArray, List.getElem_cons_succ, List.getElem_cons_zero])
  refine tkL 6 ?_
  refine wpAnyL_last (by kernel_rfl) rfl (by kernel_rfl) (fun K hK => ?_)
  (refine wp_store1 HS10.out 2 rfl rfl exprsO (of_decide_eq_true rfl) rfl ?_; intro w11 hs; have HS11 := Lib.hid (show St _ _ _ (_ :: _ :: _ :: _ :: []) from hs.out); clear hs HS10)
  refine hK.out _ _ ?_
  clear hK K
  (try simp only [Act.put, List.setIfInBounds_toArray, List.set_cons_zero, List.set_cons_succ, List.getElem_toArray, List.getElem_cons_succ, List.getElem_cons_zero])
  go_wp2_with (first
    | (go_at_call 72; refine (HS11.out.call1 CB1.out).mono ?_; rintro e w12 ⟨J, ⟨q_B, l_B, c_B, ss_B, rfl, rfl, hx_B⟩, hs⟩; simp only [List.cons_append, List.nil_append] at hs; have HS12 := Lib.hid hs; clear hs HS11; have HX_B := Lib.hid hx_B; clear hx_B)
    | (refine wpl_store HS12.out 3 rfl rfl stmtsO (of_decide_eq_true rfl) rfl ?_; intro w13 hs; have HS13 := Lib.hid (show St _ _ _ (_ :: _ :: _ :: _ :: _ :: []) from hs.out); clear hs HS12)
    | (go_at_call 69; refine (HS13.out.call1 C3.out).mono ?_; rintro e w14 ⟨J, ⟨rfl, rfl⟩, hs⟩; simp only [List.cons_append, List.nil_append] at hs; have HS14 := Lib.hid hs; clear hs HS13)
    | (refine wpl_loadS HS14.out 3 rfl rfl stT rfl ?_)
    | (refine wpl_storeS HS14.out 4 rfl rfl stT rfl fitsS ?_; intro w15 hs; have HS15 := Lib.hid (show St _ _ _ (_ :: _ :: _ :: _ :: _ :: []) from hs.out); clear hs HS14))
  refine bp_cell HS15.out 4 stT rfl rfl rfl rfl rfl ⟨_, ⟨5, (Sx.tk L σ).pos, 0, [], 0, 0, 0, _, _, _, _, _, _, _, _, _, [.mk k_a p_a n_a nm_a es_a], ss_B, [], false, rfl, rfl, fun h => ?_⟩, (HS15.out.sel [0, 1, 0] rfl).to fun P h => h.under fun P h => h.under fun P h => h.under fun P h => ssI_nil h⟩
  have e2 := HX_B.out h
  have e3 := HX_a.out (HOK.out h)
  show Sx.S.mk 5 _ 0 [] Sx.noTy [(Sx.X L 0 { σ with at' := σ.at' + 1 }).1] (Sx.Bl L (Sx.X L 0 { σ with at' := σ.at' + 1 }).2).1 [] false = _
  rw [e2, e3]
  rfl
set_option maxHeartbeats 8000000 in
set_option maxRecDepth 100000 in
theorem rstmt_if_else (b : Nat) (L : List Lx.Tok) (hL : Sx.Ok L) (σ : Sx.R) (he : σ.err = 0) (hB : ∀ τ, Sx.M L τ + 16 ≤ Sx.M L σ → rCB b L τ) (hse : Sx.sees L Sx.wIf σ = true) (hel : Sx.sees L Sx.wElse (Sx.Bl L (Sx.X L 0 { σ with at' := σ.at' + 1 }).2).2 = true) : rCS b L σ := by
  intro w P hP h0
  have HS := Lib.hid (St.start hP h0)
  have hat := HS.out.rat
  have N0 : Sx.sees L Sx.wLet σ = false := Sx.sees_two hse (by decide)
  have M0 := Lib.hid (rmay_fn b L hL σ Sx.wLet (by decide))
  rw [Sx.may_no N0] at M0
  have N1 : Sx.sees L Sx.wVar σ = false := Sx.sees_two hse (by decide)
  have M1 := Lib.hid (rmay_fn b L hL σ Sx.wVar (by decide))
  rw [Sx.may_no N1] at M1
  have M2 := Lib.hid (rmay_fn b L hL σ Sx.wIf (by decide))
  rw [Sx.may_is hse] at M2
  have hst : Sx.stm L σ = Sx.brn L { σ with at' := σ.at' + 1 } := by
    unfold Sx.stm
    simp only []
    rw [if_neg (by rw [N0]; exact Bool.false_ne_true), if_neg (by rw [N1]; exact Bool.false_ne_true), if_pos hse]
  rw [Sx.St_eq hL.ends hat he, hst]
  have hF2 := tokF2
  have hF3 := tokF3
  have hM0 := Sx.M_next he hat
  have hin := Sx.X_in hL.ends (t := 0) (σ := { σ with at' := σ.at' + 1 }) ((Sx.le_next hL.ends he (Sx.text_kind (by rw [(Sx.sees_text hse).2]; decide))).2.2.1 hat)
  have hM1 := Sx.M_le (Sx.le_X hL.ends 0 { σ with at' := σ.at' + 1 })
  have hM2 := Sx.M_le (Sx.le_Bl hL.ends (Sx.X L 0 { σ with at' := σ.at' + 1 }).2)
  have CX := Lib.hid (rexpr_any b L hL { σ with at' := σ.at' + 1 } 0)
  have CB1 := Lib.hid (hB (Sx.X L 0 { σ with at' := σ.at' + 1 }).2 (Nat.le_trans (Nat.add_le_add_right hM1 16) hM0))
  have C3 := Lib.hid (rmay_fn b L hL (Sx.Bl L (Sx.X L 0 { σ with at' := σ.at' + 1 }).2).2 Sx.wElse (by decide))
  have hok := fun h => Sx.Le.ok (Sx.le_Bl hL.ends (Sx.X L 0 { σ with at' := σ.at' + 1 }).2) h
  unfold Sx.brn
  simp only []
  rw [Sx.may_is hel] at C3
  rw [if_pos hel]
  have hat2 := (Sx.le_Bl hL.ends (Sx.X L 0 { σ with at' := σ.at' + 1 }).2).2.2.1 hin
  have hM3 := Sx.M_next (Sx.sees_text hel).1 hat2
  have CB2 := Lib.hid (hB { (Sx.Bl L (Sx.X L 0 { σ with at' := σ.at' + 1 }).2).2 with at' := (Sx.Bl L (Sx.X L 0 { σ with at' := σ.at' + 1 }).2).2.at' + 1 } (Nat.le_trans (Nat.add_le_add_right (Nat.le_trans (Nat.le_trans (Nat.le_add_right _ 16) hM3) (Nat.le_trans hM2 hM1)) 16) hM0))
  have HE := Lib.hid (Sx.sees_text hel).1
  have HOK := Lib.hid hok
  have hz0 : ([] : List Sx.E).length < nMax := by unfold nMax; decide
  clear h0 hP hL hB hat he hst hse N0 N1 hM0 hin hM1 hM2 hel hok hat2 hM3
  go_enter Tryz.func134, Tryz.ntmps134
  go_wp2_with (first
    | (refine wpl_alloc HS.out _ rfl stZ ?_; intro b_r w1 HS1; clear HS; obtain ⟨a1, cap1, t1, m1, e1, p1, hr, hs3⟩ := HS1.out.rrOpen; have HR1 := Lib.hid hr; have HO1 := Lib.hid hs3; clear hs3 hr))
  obtain ⟨hb0_1, hb1_1, hb2_1⟩ := rr_bound HR1.out
  refine wp_region_heldL (S := fun w' => w'.cell? ⟨b, 0, none⟩ = some (.slice (some a1) L.length cap1) ∧ w'.cell? ⟨b, 1, none⟩ = some (.int .i64 (t1 : Int)) ∧ w'.cell? ⟨(a1.add (t1 * 4)).block, (a1.add (t1 * 4)).off + 1, none⟩ = some (.int .i64 ((Sx.tk L σ).pos : Int))) 13 (by kernel_rfl) (⟨HO1.out.drew.cell 0 rfl 0, HO1.out.drew.cell 0 rfl 1, (tk_cells (toks_t ((HO1.out.drew.sep.pick 1 rfl).choose_spec.choose_spec.2.2.2.1) HR1.out)).2.1⟩) (fun hHeld => ?_)
  refine tkL 0 ?_
  refine tkL 1 ?_
  refine tkL 2 ?_
  refine tkL 3 ?_
  refine tkL 4 ?_
  refine tkL 5 ?_
  refine tkL 6 ?_
  refine tkL 7 ?_
  refine tkL 8 ?_
  refine tkL 9 ?_
  refine tkL 10 ?_
  refine tkL 11 ?_
  refine wpAnyL_one (i := 12) (by kernel_rfl) rfl (fun K hK => ?_)
  (refine wp_alloc HO1.out.drew _ rfl stZ ?_; intro b_s w_2a HA2; clear HS1)
  refine hK.out _ _ (⟨HA2.out.cell 0 rfl 0, HA2.out.cell 0 rfl 1, (tk_cells (toks_t ((HA2.out.sep.pick 2 rfl).choose_spec.choose_spec.2.2.2.1) HR1.out)).2.1⟩) (fun hHeld => ?_)
  clear hK K
  (try simp only [Act.put, List.setIfInBounds_toArray, List.set_cons_zero, List.set_cons_succ, List.getElem_toArray, List.getElem_cons_succ, List.getElem_cons_zero])
  refine wpAnyL_last (by kernel_rfl) rfl (by kernel_rfl) (fun K hK => ?_)
  (refine wp_storeS HA2.out 1 ⟨rfl, rfl⟩ rfl stT rfl fitsS ?_; intro w2 hs; have HT2 := Lib.hid (show St _ _ _ (_ :: _ :: _ :: _ :: []) from hs.out); clear hs HA2)
  refine hK.out _ _ ?_
  clear hK K
  have HS2 := Lib.hid ((HT2.out.sel [0, 1, 0, 0] rfl).rrClose HR1.out)
  clear HT2 HO1
  go_wp2_with (first
    | (go_at_call 69; refine (HS2.out.call1 M0.out).mono ?_; rintro e w3 ⟨J, ⟨rfl, rfl⟩, hs⟩; simp only [List.cons_append, List.nil_append] at hs; have HS3 := Lib.hid hs; clear hs HS2)
    | (go_at_call 69; refine (HS3.out.call1 M1.out).mono ?_; rintro e w4 ⟨J, ⟨rfl, rfl⟩, hs⟩; simp only [List.cons_append, List.nil_append] at hs; have HS4 := Lib.hid hs; clear hs HS3)
    | (go_at_call 69; refine (HS4.out.call1 M2.out).mono ?_; rintro e w5 ⟨J, ⟨rfl, rfl⟩, hs⟩; simp only [List.cons_append, List.nil_append] at hs; have HS5 := Lib.hid hs; clear hs HS4)
    | (refine wpl_store HS5.out 1 rfl rfl intO (of_decide_eq_true rfl) rfl ?_; intro w6 hs; have HS6 := Lib.hid (show St _ _ _ (_ :: _ :: _ :: []) from hs.out); clear hs HS5; have HS7 := Lib.hid (HS6.out.to fun P h => h.under fun P h => lsI_nil h); clear HS6))
  refine wp_region_heldL (S := fun w' => w'.cell? ⟨b_s, 7, none⟩ = some (.slice none 0 0)) 7 (by kernel_rfl) (HS7.out.drew.cell 2 rfl 7) (fun hHeld => ?_)
  refine tkL 0 ?_
  refine tkL 1 ?_
  refine tkL 2 ?_
  refine wpAnyL_one (i := 3) (by kernel_rfl) rfl (fun K hK => ?_)
  go_simp
  (go_at_call 185; refine (HS7.out.drew.call1 CX.out).mono ?_; rintro e w8 ⟨J, ⟨k_a, p_a, n_a, nm_a, v_a, es_a, rfl, rfl, hx_a, h1_a⟩, hs⟩; simp only [List.cons_append, List.nil_append] at hs; have HS8 := Lib.hid hs; have HX_a := Lib.hid hx_a; clear hs hx_a HS7)
  refine hK.out _ _ (HS8.out.cell 3 rfl 7) (fun hHeld => ?_)
  clear hK K
  (try simp only [Act.put, List.setIfInBounds_toArray, List.set_cons_zero, List.set_cons_succ, List.getElem_toArray, List.getElem_cons_succ, List.getElem_cons_zero])
  refine wpAnyL_one (i := 4) (by kernel_rfl) rfl (fun K hK => ?_)
  (refine wp_slice HS8.out rfl Tryz.underlying51 (exB _ _ _ _ _) ?_; intro b_a w9 hs; have HS9 := Lib.hid (show St _ _ _ (_ :: _ :: _ :: _ :: _ :: _ :: []) from hs.out); clear hs HS8)
  refine hK.out _ _ (HS9.out.cell 4 rfl 7) (fun hHeld => ?_)
  clear hK K
  (try simp only [Act.put, List.setIfInBounds_toArray, List.set_cons_zero, List.set_cons_succ, List.getElem_toArray, List.getElem_cons_succ, List.getElem_cons_zero])
  refine wpAnyL_one (i := 5) (by kernel_rfl) rfl (fun K hK => ?_)
  (refine wp_appE HS9.out 0 rfl rfl Tryz.underlying51 h1_a hz0 ?_; intro q_a c_a w10 hs; have HS10 := Lib.hid (show St _ _ _ (_ :: _ :: _ :: _ :: []) from hs.out); clear hs HS9)
  refine hK.out _ _ (HS10.out.cell 2 rfl 7) (fun hHeld => ?_)
  clear hK K
  (try simp only [Act.put, List.setIfInBounds_toArray, List.set_cons_zero, List.set_cons_succ, List.getElem_toArray, List.getElem_cons_succ, List.getElem_cons_zero])
  refine tkL 6 ?_
  refine wpAnyL_last (by kernel_rfl) rfl (by kernel_rfl) (fun K hK => ?_)
  (refine wp_store1 HS10.out 2 rfl rfl exprsO (of_decide_eq_true rfl) rfl ?_; intro w11 hs; have HS11 := Lib.hid (show St _ _ _ (_ :: _ :: _ :: _ :: []) from hs.out); clear hs HS10)
  refine hK.out _ _ ?_
  clear hK K
  (try simp only [Act.put, List.setIfInBounds_toArray, List.set_cons_zero, List.set_cons_succ, List.getElem_toArray, List.getElem_cons_succ, List.getElem_cons_zero])
  go_wp2_with (first
    | (go_at_call 72; refine (HS11.out.call1 CB1.out).mono ?_; rintro e w12 ⟨J, ⟨q_B, l_B, c_B, ss_B, rfl, rfl, hx_B⟩, hs⟩; simp only [List.cons_append, List.nil_append] at hs; have HS12 := Lib.hid hs; clear hs HS11; have HX_B := Lib.hid hx_B; clear hx_B)
    | (refine wpl_store HS12.out 3 rfl rfl stmtsO (of_decide_eq_true rfl) rfl ?_; intro w13 hs; have HS13 := Lib.hid (show St _ _ _ (_ :: _ :: _ :: _ :: _ :: []) from hs.out); clear hs HS12)
    | (go_at_call 69; refine (HS13.out.call1 C3.out).mono ?_; rintro e w14 ⟨J, ⟨rfl, rfl⟩, hs⟩; simp only [List.cons_append, List.nil_append] at hs; have HS14 := Lib.hid hs; clear hs HS13)
    | (refine wpl_store HS14.out 3 rfl rfl boolO (of_decide_eq_true rfl) rfl ?_; intro w15 hs; have HS15 := Lib.hid (show St _ _ _ (_ :: _ :: _ :: _ :: _ :: []) from hs.out); clear hs HS14)
    | (go_at_call 72; refine (HS15.out.call1 CB2.out).mono ?_; rintro e w16 ⟨J, ⟨q_C, l_C, c_C, ss_C, rfl, rfl, hx_C⟩, hs⟩; simp only [List.cons_append, List.nil_append] at hs; have HS16 := Lib.hid hs; clear hs HS15; have HX_C := Lib.hid hx_C; clear hx_C)
    | (refine wpl_store HS16.out 4 rfl rfl stmtsO (of_decide_eq_true rfl) rfl ?_; intro w17 hs; have HS17 := Lib.hid (show St _ _ _ (_ :: _ :: _ :: _ :: _ :: _ :: []) from hs.out); clear hs HS16)
    | (refine wpl_loadS HS17.out 4 rfl rfl stT rfl ?_)
    | (refine wpl_storeS HS17.out 5 rfl rfl stT rfl fitsS ?_; intro w18 hs; have HS18 := Lib.hid (show St _ _ _ (_ :: _ :: _ :: _ :: _ :: _ :: []) from hs.out); clear hs HS17))
  refine bp_cell HS18.out 5 stT rfl rfl rfl rfl rfl ⟨_, ⟨5, (Sx.tk L σ).pos, 0, [], 0, 0, 0, _, _, _, _, _, _, _, _, _, [.mk k_a p_a n_a nm_a es_a], ss_B, ss_C, true, rfl, rfl, fun h => ?_⟩, HS18.out.sel [0, 2, 1, 0] rfl⟩
  have e1 := HX_C.out h
  have e2 := HX_B.out HE.out
  have e3 := HX_a.out (HOK.out HE.out)
  show Sx.S.mk 5 _ 0 [] Sx.noTy [(Sx.X L 0 { σ with at' := σ.at' + 1 }).1] (Sx.Bl L (Sx.X L 0 { σ with at' := σ.at' + 1 }).2).1 (Sx.Bl L { (Sx.Bl L (Sx.X L 0 { σ with at' := σ.at' + 1 }).2).2 with at' := (Sx.Bl L (Sx.X L 0 { σ with at' := σ.at' + 1 }).2).2.at' + 1 }).1 true = _
  rw [e1, e2, e3]
  rfl
set_option maxHeartbeats 8000000 in
set_option maxRecDepth 100000 in
theorem rstmt_for (b : Nat) (L : List Lx.Tok) (hL : Sx.Ok L) (σ : Sx.R) (he : σ.err = 0) (hB : ∀ τ, Sx.M L τ + 16 ≤ Sx.M L σ → rCB b L τ) (hse : Sx.sees L Sx.wFor σ = true) : rCS b L σ := by
  intro w P hP h0
  have HS := Lib.hid (St.start hP h0)
  have hat := HS.out.rat
  have N0 : Sx.sees L Sx.wLet σ = false := Sx.sees_two hse (by decide)
  have M0 := Lib.hid (rmay_fn b L hL σ Sx.wLet (by decide))
  rw [Sx.may_no N0] at M0
  have N1 : Sx.sees L Sx.wVar σ = false := Sx.sees_two hse (by decide)
  have M1 := Lib.hid (rmay_fn b L hL σ Sx.wVar (by decide))
  rw [Sx.may_no N1] at M1
  have N2 : Sx.sees L Sx.wIf σ = false := Sx.sees_two hse (by decide)
  have M2 := Lib.hid (rmay_fn b L hL σ Sx.wIf (by decide))
  rw [Sx.may_no N2] at M2
  have M3 := Lib.hid (rmay_fn b L hL σ Sx.wFor (by decide))
  rw [Sx.may_is hse] at M3
  have hst : Sx.stm L σ = Sx.lop L { σ with at' := σ.at' + 1 } := by
    unfold Sx.stm
    simp only []
    rw [if_neg (by rw [N0]; exact Bool.false_ne_true), if_neg (by rw [N1]; exact Bool.false_ne_true), if_neg (by rw [N2]; exact Bool.false_ne_true), if_pos hse]
  rw [Sx.St_eq hL.ends hat he, hst]
  have hF2 := tokF2
  have hF3 := tokF3
  have hM0 := Sx.M_next he hat
  have l1 := Sx.le_some hL.ends 1 (by decide) { σ with at' := σ.at' + 1 }
  have l2 := Sx.le_eat hL.ends [60] (by decide) (Sx.some L 1 { σ with at' := σ.at' + 1 }).2
  have l3 := Sx.le_X hL.ends 0 (Sx.eat L [60] (Sx.some L 1 { σ with at' := σ.at' + 1 }).2)
  have l4 := Sx.le_eat hL.ends Sx.wMax (by decide) (Sx.X L 0 (Sx.eat L [60] (Sx.some L 1 { σ with at' := σ.at' + 1 }).2)).2
  have l5 := Sx.le_some hL.ends 2 (by decide) (Sx.eat L Sx.wMax (Sx.X L 0 (Sx.eat L [60] (Sx.some L 1 { σ with at' := σ.at' + 1 }).2)).2)
  have l6 := Sx.le_Bl hL.ends (Sx.some L 2 (Sx.eat L Sx.wMax (Sx.X L 0 (Sx.eat L [60] (Sx.some L 1 { σ with at' := σ.at' + 1 }).2)).2)).2
  have hM1 := Sx.M_le ((((l1.trans l2).trans l3).trans l4).trans l5)
  have C2 := Lib.hid (rsome_fn b L hL { σ with at' := σ.at' + 1 } 1 (by decide))
  have C3 := Lib.hid (reat_fn b L hL (Sx.some L 1 { σ with at' := σ.at' + 1 }).2 [60] (by decide))
  have CX := Lib.hid (rexpr_any b L hL (Sx.eat L [60] (Sx.some L 1 { σ with at' := σ.at' + 1 }).2) 0)
  have C4 := Lib.hid (reat_fn b L hL (Sx.X L 0 (Sx.eat L [60] (Sx.some L 1 { σ with at' := σ.at' + 1 }).2)).2 Sx.wMax (by decide))
  have C5 := Lib.hid (rsome_fn b L hL (Sx.eat L Sx.wMax (Sx.X L 0 (Sx.eat L [60] (Sx.some L 1 { σ with at' := σ.at' + 1 }).2)).2) 2 (by decide))
  have CB1 := Lib.hid (hB (Sx.some L 2 (Sx.eat L Sx.wMax (Sx.X L 0 (Sx.eat L [60] (Sx.some L 1 { σ with at' := σ.at' + 1 }).2)).2)).2 (Nat.le_trans (Nat.add_le_add_right hM1 16) hM0))
  have HOK := Lib.hid (fun h => Sx.Le.ok ((l4.trans l5).trans l6) h)
  unfold Sx.lop
  simp only []
  have hz0 : ([] : List Sx.E).length < nMax := by unfold nMax; decide
  clear h0 hP hL hB hat he hst hse N0 N1 N2 hM0 l1 l2 l3 l4 l5 l6 hM1
  go_enter Tryz.func134, Tryz.ntmps134
  go_wp2_with (first
    | (refine wpl_alloc HS.out _ rfl stZ ?_; intro b_r w1 HS1; clear HS; obtain ⟨a1, cap1, t1, m1, e1, p1, hr, hs3⟩ := HS1.out.rrOpen; have HR1 := Lib.hid hr; have HO1 := Lib.hid hs3; clear hs3 hr))
  obtain ⟨hb0_1, hb1_1, hb2_1⟩ := rr_bound HR1.out
  refine wp_region_heldL (S := fun w' => w'.cell? ⟨b, 0, none⟩ = some (.slice (some a1) L.length cap1) ∧ w'.cell? ⟨b, 1, none⟩ = some (.int .i64 (t1 : Int)) ∧ w'.cell? ⟨(a1.add (t1 * 4)).block, (a1.add (t1 * 4)).off + 1, none⟩ = some (.int .i64 ((Sx.tk L σ).pos : Int))) 13 (by kernel_rfl) (⟨HO1.out.drew.cell 0 rfl 0, HO1.out.drew.cell 0 rfl 1, (tk_cells (toks_t ((HO1.out.drew.sep.pick 1 rfl).choose_spec.choose_spec.2.2.2.1) HR1.out)).2.1⟩) (fun hHeld => ?_)
  refine tkL 0 ?_
  refine tkL 1 ?_
  refine tkL 2 ?_
  refine tkL 3 ?_
  refine tkL 4 ?_
  refine tkL 5 ?_
  refine tkL 6 ?_
  refine tkL 7 ?_
  refine tkL 8 ?_
  refine tkL 9 ?_
  refine tkL 10 ?_
  refine tkL 11 ?_
  refine wpAnyL_one (i := 12) (by kernel_rfl) rfl (fun K hK => ?_)
  (refine wp_alloc HO1.out.drew _ rfl stZ ?_; intro b_s w_2a HA2; clear HS1)
  refine hK.out _ _ (⟨HA2.out.cell 0 rfl 0, HA2.out.cell 0 rfl 1, (tk_cells (toks_t ((HA2.out.sep.pick 2 rfl).choose_spec.choose_spec.2.2.2.1) HR1.out)).2.1⟩) (fun hHeld => ?_)
  clear hK K
  (try simp only [Act.put, List.setIfInBounds_toArray, List.set_cons_zero, List.set_cons_succ, List.getElem_toArray, List.getElem_cons_succ, List.getElem_cons_zero])
  refine wpAnyL_last (by kernel_rfl) rfl (by kernel_rfl) (fun K hK => ?_)
  (refine wp_storeS HA2.out 1 ⟨rfl, rfl⟩ rfl stT rfl fitsS ?_; intro w2 hs; have HT2 := Lib.hid (show St _ _ _ (_ :: _ :: _ :: _ :: []) from hs.out); clear hs HA2)
  refine hK.out _ _ ?_
  clear hK K
  have HS2 := Lib.hid ((HT2.out.sel [0, 1, 0, 0] rfl).rrClose HR1.out)
  clear HT2 HO1
  go_wp2_with (first
    | (go_at_call 69; refine (HS2.out.call1 M0.out).mono ?_; rintro e w3 ⟨J, ⟨rfl, rfl⟩, hs⟩; simp only [List.cons_append, List.nil_append] at hs; have HS3 := Lib.hid hs; clear hs HS2)
    | (go_at_call 69; refine (HS3.out.call1 M1.out).mono ?_; rintro e w4 ⟨J, ⟨rfl, rfl⟩, hs⟩; simp only [List.cons_append, List.nil_append] at hs; have HS4 := Lib.hid hs; clear hs HS3)
    | (go_at_call 69; refine (HS4.out.call1 M2.out).mono ?_; rintro e w5 ⟨J, ⟨rfl, rfl⟩, hs⟩; simp only [List.cons_append, List.nil_append] at hs; have HS5 := Lib.hid hs; clear hs HS4)
    | (go_at_call 69; refine (HS5.out.call1 M3.out).mono ?_; rintro e w6 ⟨J, ⟨rfl, rfl⟩, hs⟩; simp only [List.cons_append, List.nil_append] at hs; have HS6 := Lib.hid hs; clear hs HS5)
    | (refine wpl_store HS6.out 1 rfl rfl intO (of_decide_eq_true rfl) rfl ?_; intro w7 hs; have HS7 := Lib.hid (show St _ _ _ (_ :: _ :: _ :: []) from hs.out); clear hs HS6)
    | (go_at_call 66; refine (HS7.out.call1 C2.out).mono ?_; rintro e w8 ⟨J, ⟨rfl, rfl⟩, hs⟩; simp only [List.cons_append, List.nil_append] at hs; have HS8 := Lib.hid hs; clear hs HS7)
    | (refine wpl_store HS8.out 1 rfl rfl strO (of_decide_eq_true rfl) rfl ?_; intro w9 hs; have HS9 := Lib.hid (show St _ _ _ (_ :: _ :: _ :: []) from hs.out); clear hs HS8)
    | (go_at_call 65; refine (HS9.out.call1 C3.out).mono ?_; rintro e w10 ⟨J, ⟨rfl, rfl⟩, hs⟩; simp only [List.cons_append, List.nil_append] at hs; have HS10 := Lib.hid hs; clear hs HS9; have HS11 := Lib.hid (HS10.out.to fun P h => h.under fun P h => lsI_nil h); clear HS10))
  refine wp_region_heldL (S := fun w' => w'.cell? ⟨b_s, 7, none⟩ = some (.slice none 0 0)) 7 (by kernel_rfl) (HS11.out.drew.cell 2 rfl 7) (fun hHeld => ?_)
  refine tkL 0 ?_
  refine tkL 1 ?_
  refine tkL 2 ?_
  refine wpAnyL_one (i := 3) (by kernel_rfl) rfl (fun K hK => ?_)
  go_simp
  (go_at_call 185; refine (HS11.out.drew.call1 CX.out).mono ?_; rintro e w12 ⟨J, ⟨k_a, p_a, n_a, nm_a, v_a, es_a, rfl, rfl, hx_a, h1_a⟩, hs⟩; simp only [List.cons_append, List.nil_append] at hs; have HS12 := Lib.hid hs; have HX_a := Lib.hid hx_a; clear hs hx_a HS11)
  refine hK.out _ _ (HS12.out.cell 3 rfl 7) (fun hHeld => ?_)
  clear hK K
  (try simp only [Act.put, List.setIfInBounds_toArray, List.set_cons_zero, List.set_cons_succ, List.getElem_toArray, List.getElem_cons_succ, List.getElem_cons_zero])
  refine wpAnyL_one (i := 4) (by kernel_rfl) rfl (fun K hK => ?_)
  (refine wp_slice HS12.out rfl Tryz.underlying51 (exB _ _ _ _ _) ?_; intro b_a w13 hs; have HS13 := Lib.hid (show St _ _ _ (_ :: _ :: _ :: _ :: _ :: _ :: []) from hs.out); clear hs HS12)
  refine hK.out _ _ (HS13.out.cell 4 rfl 7) (fun hHeld => ?_)
  clear hK K
  (try simp only [Act.put, List.setIfInBounds_toArray, List.set_cons_zero, List.set_cons_succ, List.getElem_toArray, List.getElem_cons_succ, List.getElem_cons_zero])
  refine wpAnyL_one (i := 5) (by kernel_rfl) rfl (fun K hK => ?_)
  (refine wp_appE HS13.out 0 rfl rfl Tryz.underlying51 h1_a hz0 ?_; intro q_a c_a w14 hs; have HS14 := Lib.hid (show St _ _ _ (_ :: _ :: _ :: _ :: []) from hs.out); clear hs HS13)
  refine hK.out _ _ (HS14.out.cell 2 rfl 7) (fun hHeld => ?_)
  clear hK K
  (try simp only [Act.put, List.setIfInBounds_toArray, List.set_cons_zero, List.set_cons_succ, List.getElem_toArray, List.getElem_cons_succ, List.getElem_cons_zero])
  refine tkL 6 ?_
  refine wpAnyL_last (by kernel_rfl) rfl (by kernel_rfl) (fun K hK => ?_)
  (refine wp_store1 HS14.out 2 rfl rfl exprsO (of_decide_eq_true rfl) rfl ?_; intro w15 hs; have HS15 := Lib.hid (show St _ _ _ (_ :: _ :: _ :: _ :: []) from hs.out); clear hs HS14)
  refine hK.out _ _ ?_
  clear hK K
  (try simp only [Act.put, List.setIfInBounds_toArray, List.set_cons_zero, List.set_cons_succ, List.getElem_toArray, List.getElem_cons_succ, List.getElem_cons_zero])
  go_wp2_with (first
    | (go_at_call 65; refine (HS15.out.call1 C4.out).mono ?_; rintro e w16 ⟨J, ⟨rfl, rfl⟩, hs⟩; simp only [List.cons_append, List.nil_append] at hs; have HS16 := Lib.hid hs; clear hs HS15)
    | (go_at_call 66; refine (HS16.out.call1 C5.out).mono ?_; rintro e w17 ⟨J, ⟨rfl, rfl⟩, hs⟩; simp only [List.cons_append, List.nil_append] at hs; have HS17 := Lib.hid hs; clear hs HS16)
    | (refine wpl_store HS17.out 2 rfl rfl intO (of_decide_eq_true rfl) rfl ?_; intro w18 hs; have HS18 := Lib.hid (show St _ _ _ (_ :: _ :: _ :: _ :: []) from hs.out); clear hs HS17)
    | (go_at_call 72; refine (HS18.out.call1 CB1.out).mono ?_; rintro e w19 ⟨J, ⟨q_B, l_B, c_B, ss_B, rfl, rfl, hx_B⟩, hs⟩; simp only [List.cons_append, List.nil_append] at hs; have HS19 := Lib.hid hs; clear hs HS18; have HX_B := Lib.hid hx_B; clear hx_B)
    | (refine wpl_store HS19.out 3 rfl rfl stmtsO (of_decide_eq_true rfl) rfl ?_; intro w20 hs; have HS20 := Lib.hid (show St _ _ _ (_ :: _ :: _ :: _ :: _ :: []) from hs.out); clear hs HS19)
    | (refine wpl_loadS HS20.out 3 rfl rfl stT rfl ?_)
    | (refine wpl_storeS HS20.out 4 rfl rfl stT rfl fitsS ?_; intro w21 hs; have HS21 := Lib.hid (show St _ _ _ (_ :: _ :: _ :: _ :: _ :: []) from hs.out); clear hs HS20))
  refine bp_cell HS21.out 4 stT rfl rfl rfl rfl rfl ⟨_, ⟨6, (Sx.tk L σ).pos, (Sx.some L 2 (Sx.eat L Sx.wMax (Sx.X L 0 (Sx.eat L [60] (Sx.some L 1 { σ with at' := σ.at' + 1 }).2)).2)).1.num, (Sx.some L 1 { σ with at' := σ.at' + 1 }).1.text, 0, 0, 0, _, _, _, _, _, _, _, _, _, [.mk k_a p_a n_a nm_a es_a], ss_B, [], false, rfl, rfl, fun h => ?_⟩, (HS21.out.sel [0, 1, 0] rfl).to fun P h => h.under fun P h => h.under fun P h => h.under fun P h => ssI_nil h⟩
  have e2 := HX_B.out h
  have e3 := HX_a.out (HOK.out h)
  show Sx.S.mk 6 _ (Sx.some L 2 (Sx.eat L Sx.wMax (Sx.X L 0 (Sx.eat L [60] (Sx.some L 1 { σ with at' := σ.at' + 1 }).2)).2)).1.num (Sx.some L 1 { σ with at' := σ.at' + 1 }).1.text Sx.noTy [(Sx.X L 0 (Sx.eat L [60] (Sx.some L 1 { σ with at' := σ.at' + 1 }).2)).1] (Sx.Bl L (Sx.some L 2 (Sx.eat L Sx.wMax (Sx.X L 0 (Sx.eat L [60] (Sx.some L 1 { σ with at' := σ.at' + 1 }).2)).2)).2).1 [] false = _
  rw [e2, e3]
  rfl
set_option maxHeartbeats 8000000 in
set_option maxRecDepth 100000 in
theorem rstmt_return (b : Nat) (L : List Lx.Tok) (hL : Sx.Ok L) (σ : Sx.R) (he : σ.err = 0) (hB : ∀ τ, Sx.M L τ + 16 ≤ Sx.M L σ → rCB b L τ) (hse : Sx.sees L Sx.wRet σ = true) : rCS b L σ := by
  intro w P hP h0
  have HS := Lib.hid (St.start hP h0)
  have hat := HS.out.rat
  have N0 : Sx.sees L Sx.wLet σ = false := Sx.sees_two hse (by decide)
  have M0 := Lib.hid (rmay_fn b L hL σ Sx.wLet (by decide))
  rw [Sx.may_no N0] at M0
  have N1 : Sx.sees L Sx.wVar σ = false := Sx.sees_two hse (by decide)
  have M1 := Lib.hid (rmay_fn b L hL σ Sx.wVar (by decide))
  rw [Sx.may_no N1] at M1
  have N2 : Sx.sees L Sx.wIf σ = false := Sx.sees_two hse (by decide)
  have M2 := Lib.hid (rmay_fn b L hL σ Sx.wIf (by decide))
  rw [Sx.may_no N2] at M2
  have N3 : Sx.sees L Sx.wFor σ = false := Sx.sees_two hse (by decide)
  have M3 := Lib.hid (rmay_fn b L hL σ Sx.wFor (by decide))
  rw [Sx.may_no N3] at M3
  have M4 := Lib.hid (rmay_fn b L hL σ Sx.wRet (by decide))
  rw [Sx.may_is hse] at M4
  have hst : Sx.stm L σ = Sx.ret L { σ with at' := σ.at' + 1 } := by
    unfold Sx.stm
    simp only []
    rw [if_neg (by rw [N0]; exact Bool.false_ne_true), if_neg (by rw [N1]; exact Bool.false_ne_true), if_neg (by rw [N2]; exact Bool.false_ne_true), if_neg (by rw [N3]; exact Bool.false_ne_true), if_pos hse]
  rw [Sx.St_eq hL.ends hat he, hst]
  have hF2 := tokF2
  have hF3 := tokF3
  have CV := Lib.hid (rvalue_fn b L hL { σ with at' := σ.at' + 1 } (.slice none 0 0) [] (by unfold nMax; decide))
  clear h0 hP hL hB hat he hst hse N0 N1 N2 N3
  go_enter Tryz.func134, Tryz.ntmps134
  go_wp2_with (first
    | (refine wpl_alloc HS.out _ rfl stZ ?_; intro b_r w1 HS1; clear HS; obtain ⟨a1, cap1, t1, m1, e1, p1, hr, hs3⟩ := HS1.out.rrOpen; have HR1 := Lib.hid hr; have HO1 := Lib.hid hs3; clear hs3 hr))
  obtain ⟨hb0_1, hb1_1, hb2_1⟩ := rr_bound HR1.out
  refine wp_region_heldL (S := fun w' => w'.cell? ⟨b, 0, none⟩ = some (.slice (some a1) L.length cap1) ∧ w'.cell? ⟨b, 1, none⟩ = some (.int .i64 (t1 : Int)) ∧ w'.cell? ⟨(a1.add (t1 * 4)).block, (a1.add (t1 * 4)).off + 1, none⟩ = some (.int .i64 ((Sx.tk L σ).pos : Int))) 13 (by kernel_rfl) (⟨HO1.out.drew.cell 0 rfl 0, HO1.out.drew.cell 0 rfl 1, (tk_cells (toks_t ((HO1.out.drew.sep.pick 1 rfl).choose_spec.choose_spec.2.2.2.1) HR1.out)).2.1⟩) (fun hHeld => ?_)
  refine tkL 0 ?_
  refine tkL 1 ?_
  refine tkL 2 ?_
  refine tkL 3 ?_
  refine tkL 4 ?_
  refine tkL 5 ?_
  refine tkL 6 ?_
  refine tkL 7 ?_
  refine tkL 8 ?_
  refine tkL 9 ?_
  refine tkL 10 ?_
  refine tkL 11 ?_
  refine wpAnyL_one (i := 12) (by kernel_rfl) rfl (fun K hK => ?_)
  (refine wp_alloc HO1.out.drew _ rfl stZ ?_; intro b_s w_2a HA2; clear HS1)
  refine hK.out _ _ (⟨HA2.out.cell 0 rfl 0, HA2.out.cell 0 rfl 1, (tk_cells (toks_t ((HA2.out.sep.pick 2 rfl).choose_spec.choose_spec.2.2.2.1) HR1.out)).2.1⟩) (fun hHeld => ?_)
  clear hK K
  (try simp only [Act.put, List.setIfInBounds_toArray, List.set_cons_zero, List.set_cons_succ, List.getElem_toArray, List.getElem_cons_succ, List.getElem_cons_zero])
  refine wpAnyL_last (by kernel_rfl) rfl (by kernel_rfl) (fun K hK => ?_)
  (refine wp_storeS HA2.out 1 ⟨rfl, rfl⟩ rfl stT rfl fitsS ?_; intro w2 hs; have HT2 := Lib.hid (show St _ _ _ (_ :: _ :: _ :: _ :: []) from hs.out); clear hs HA2)
  refine hK.out _ _ ?_
  clear hK K
  have HS2 := Lib.hid ((HT2.out.sel [0, 1, 0, 0] rfl).rrClose HR1.out)
  clear HT2 HO1
  go_wp2_with (first
    | (go_at_call 69; refine (HS2.out.call1 M0.out).mono ?_; rintro e w3 ⟨J, ⟨rfl, rfl⟩, hs⟩; simp only [List.cons_append, List.nil_append] at hs; have HS3 := Lib.hid hs; clear hs HS2)
    | (go_at_call 69; refine (HS3.out.call1 M1.out).mono ?_; rintro e w4 ⟨J, ⟨rfl, rfl⟩, hs⟩; simp only [List.cons_append, List.nil_append] at hs; have HS4 := Lib.hid hs; clear hs HS3)
    | (go_at_call 69; refine (HS4.out.call1 M2.out).mono ?_; rintro e w5 ⟨J, ⟨rfl, rfl⟩, hs⟩; simp only [List.cons_append, List.nil_append] at hs; have HS5 := Lib.hid hs; clear hs HS4)
    | (go_at_call 69; refine (HS5.out.call1 M3.out).mono ?_; rintro e w6 ⟨J, ⟨rfl, rfl⟩, hs⟩; simp only [List.cons_append, List.nil_append] at hs; have HS6 := Lib.hid hs; clear hs HS5)
    | (go_at_call 69; refine (HS6.out.call1 M4.out).mono ?_; rintro e w7 ⟨J, ⟨rfl, rfl⟩, hs⟩; simp only [List.cons_append, List.nil_append] at hs; have HS7 := Lib.hid hs; clear hs HS6)
    | (refine wpl_store HS7.out 1 rfl rfl intO (of_decide_eq_true rfl) rfl ?_; intro w8 hs; have HS8 := Lib.hid (show St _ _ _ (_ :: _ :: _ :: []) from hs.out); clear hs HS7; have HS9 := Lib.hid (HS8.out.to fun P h => h.under fun P h => lsI_nil h); clear HS8)
    | (go_at_call 184; refine (St.call (pre := [_, _]) HS9.out CV.out).mono ?_; rintro e w10 ⟨J, ⟨q_v, c_v, k_v, p_v, n_v, nm_v, es_v, rfl, rfl, hx_v⟩, hs⟩; simp only [List.cons_append, List.nil_append] at hs; have HS10 := Lib.hid hs; clear hs HS9; have HX_v := Lib.hid hx_v; clear hx_v)
    | (refine wpl_store HS10.out 2 rfl rfl exprsO (of_decide_eq_true rfl) rfl ?_; intro w11 hs; have HS11 := Lib.hid (show St _ _ _ (_ :: _ :: _ :: _ :: []) from hs.out); clear hs HS10)
    | (refine wpl_loadS HS11.out 2 rfl rfl stT rfl ?_)
    | (refine wpl_storeS HS11.out 3 rfl rfl stT rfl fitsS ?_; intro w12 hs; have HS12 := Lib.hid (show St _ _ _ (_ :: _ :: _ :: _ :: []) from hs.out); clear hs HS11))
  refine bp_cell HS12.out 3 stT rfl rfl rfl rfl rfl ⟨_, ⟨8, (Sx.tk L σ).pos, 0, [], 0, 0, 0, _, _, _, _, _, _, _, _, _, [.mk k_v p_v n_v nm_v es_v], [], [], false, rfl, rfl, fun h => ?_⟩, (HS12.out.sel [0, 0] rfl).to fun P h => h.under fun P h => h.under fun P h => ssI_nil (ssI_nil h)⟩
  exact congrArg (fun z => Sx.S.mk 8 (Sx.tk L σ).pos 0 [] Sx.noTy [z] [] [] false) (HX_v.out h)
set_option maxHeartbeats 8000000 in
set_option maxRecDepth 100000 in
theorem rstmt_named (b : Nat) (L : List Lx.Tok) (hL : Sx.Ok L) (σ : Sx.R) (he : σ.err = 0) (hB : ∀ τ, Sx.M L τ + 16 ≤ Sx.M L σ → rCB b L τ) (hno : ∀ s, s ∈ [Sx.wLet, Sx.wVar, Sx.wIf, Sx.wFor, Sx.wRet] → Sx.sees L s σ = false) : rCS b L σ := by
  intro w P hP h0
  have HS := Lib.hid (St.start hP h0)
  have hat := HS.out.rat
  have N0 : Sx.sees L Sx.wLet σ = false := hno Sx.wLet (by decide)
  have M0 := Lib.hid (rmay_fn b L hL σ Sx.wLet (by decide))
  rw [Sx.may_no N0] at M0
  have N1 : Sx.sees L Sx.wVar σ = false := hno Sx.wVar (by decide)
  have M1 := Lib.hid (rmay_fn b L hL σ Sx.wVar (by decide))
  rw [Sx.may_no N1] at M1
  have N2 : Sx.sees L Sx.wIf σ = false := hno Sx.wIf (by decide)
  have M2 := Lib.hid (rmay_fn b L hL σ Sx.wIf (by decide))
  rw [Sx.may_no N2] at M2
  have N3 : Sx.sees L Sx.wFor σ = false := hno Sx.wFor (by decide)
  have M3 := Lib.hid (rmay_fn b L hL σ Sx.wFor (by decide))
  rw [Sx.may_no N3] at M3
  have N4 : Sx.sees L Sx.wRet σ = false := hno Sx.wRet (by decide)
  have M4 := Lib.hid (rmay_fn b L hL σ Sx.wRet (by decide))
  rw [Sx.may_no N4] at M4
  have hst : Sx.stm L σ = Sx.named L 0 σ := by
    unfold Sx.stm
    simp only []
    rw [if_neg (by rw [N0]; exact Bool.false_ne_true), if_neg (by rw [N1]; exact Bool.false_ne_true), if_neg (by rw [N2]; exact Bool.false_ne_true), if_neg (by rw [N3]; exact Bool.false_ne_true), if_neg (by rw [N4]; exact Bool.false_ne_true)]
  rw [Sx.St_eq hL.ends hat he, hst]
  have hF2 := tokF2
  have hF3 := tokF3
  rw [← Sx.named_at L _ σ]
  have CN := Lib.hid (rnamed_fn b L hL σ (Sx.tk L σ).pos)
  clear h0 hP hL hB hat he hst hno N0 N1 N2 N3 N4
  go_enter Tryz.func134, Tryz.ntmps134
  go_wp2_with (first
    | (refine wpl_alloc HS.out _ rfl stZ ?_; intro b_r w1 HS1; clear HS; obtain ⟨a1, cap1, t1, m1, e1, p1, hr, hs3⟩ := HS1.out.rrOpen; have HR1 := Lib.hid hr; have HO1 := Lib.hid hs3; clear hs3 hr))
  obtain ⟨hb0_1, hb1_1, hb2_1⟩ := rr_bound HR1.out
  refine wp_region_heldL (S := fun w' => w'.cell? ⟨b, 0, none⟩ = some (.slice (some a1) L.length cap1) ∧ w'.cell? ⟨b, 1, none⟩ = some (.int .i64 (t1 : Int)) ∧ w'.cell? ⟨(a1.add (t1 * 4)).block, (a1.add (t1 * 4)).off + 1, none⟩ = some (.int .i64 ((Sx.tk L σ).pos : Int))) 13 (by kernel_rfl) (⟨HO1.out.drew.cell 0 rfl 0, HO1.out.drew.cell 0 rfl 1, (tk_cells (toks_t ((HO1.out.drew.sep.pick 1 rfl).choose_spec.choose_spec.2.2.2.1) HR1.out)).2.1⟩) (fun hHeld => ?_)
  refine tkL 0 ?_
  refine tkL 1 ?_
  refine tkL 2 ?_
  refine tkL 3 ?_
  refine tkL 4 ?_
  refine tkL 5 ?_
  refine tkL 6 ?_
  refine tkL 7 ?_
  refine tkL 8 ?_
  refine tkL 9 ?_
  refine tkL 10 ?_
  refine tkL 11 ?_
  refine wpAnyL_one (i := 12) (by kernel_rfl) rfl (fun K hK => ?_)
  (refine wp_alloc HO1.out.drew _ rfl stZ ?_; intro b_s w_2a HA2; clear HS1)
  refine hK.out _ _ (⟨HA2.out.cell 0 rfl 0, HA2.out.cell 0 rfl 1, (tk_cells (toks_t ((HA2.out.sep.pick 2 rfl).choose_spec.choose_spec.2.2.2.1) HR1.out)).2.1⟩) (fun hHeld => ?_)
  clear hK K
  (try simp only [Act.put, List.setIfInBounds_toArray, List.set_cons_zero, List.set_cons_succ, List.getElem_toArray, List.getElem_cons_succ, List.getElem_cons_zero])
  refine wpAnyL_last (by kernel_rfl) rfl (by kernel_rfl) (fun K hK => ?_)
  (refine wp_storeS HA2.out 1 ⟨rfl, rfl⟩ rfl stT rfl fitsS ?_; intro w2 hs; have HT2 := Lib.hid (show St _ _ _ (_ :: _ :: _ :: _ :: []) from hs.out); clear hs HA2)
  refine hK.out _ _ ?_
  clear hK K
  have HS2 := Lib.hid ((HT2.out.sel [0, 1, 0, 0] rfl).rrClose HR1.out)
  clear HT2 HO1
  go_wp2_with (first
    | (go_at_call 69; refine (HS2.out.call1 M0.out).mono ?_; rintro e w3 ⟨J, ⟨rfl, rfl⟩, hs⟩; simp only [List.cons_append, List.nil_append] at hs; have HS3 := Lib.hid hs; clear hs HS2)
    | (go_at_call 69; refine (HS3.out.call1 M1.out).mono ?_; rintro e w4 ⟨J, ⟨rfl, rfl⟩, hs⟩; simp only [List.cons_append, List.nil_append] at hs; have HS4 := Lib.hid hs; clear hs HS3)
    | (go_at_call 69; refine (HS4.out.call1 M2.out).mono ?_; rintro e w5 ⟨J, ⟨rfl, rfl⟩, hs⟩; simp only [List.cons_append, List.nil_append] at hs; have HS5 := Lib.hid hs; clear hs HS4)
    | (go_at_call 69; refine (HS5.out.call1 M3.out).mono ?_; rintro e w6 ⟨J, ⟨rfl, rfl⟩, hs⟩; simp only [List.cons_append, List.nil_append] at hs; have HS6 := Lib.hid hs; clear hs HS5)
    | (go_at_call 69; refine (HS6.out.call1 M4.out).mono ?_; rintro e w7 ⟨J, ⟨rfl, rfl⟩, hs⟩; simp only [List.cons_append, List.nil_append] at hs; have HS7 := Lib.hid hs; clear hs HS6)
    | (refine wpl_loadS HS7.out 1 rfl rfl stT rfl ?_)
    | (go_at_call 186; refine (HS7.out.call1 CN.out).mono ?_; rintro e w8 ⟨J, ⟨k, p, m, nm, te, tl, tb, q1, q2, q3, l1, l2, l3, c1, c2, c3, es, bs, cs, hh, rfl, rfl, hx⟩, hs⟩; simp only [List.cons_append, List.nil_append] at hs; have HS8 := Lib.hid hs; clear hs HS7; have HX := Lib.hid hx; clear hx)
    | (refine wpl_storeS HS8.out 5 rfl rfl stT rfl fitsS ?_; intro w9 hs; have HS9 := Lib.hid (show St _ _ _ (_ :: _ :: _ :: _ :: _ :: _ :: []) from hs.out); clear hs HS8))
  exact bp_cell HS9.out 5 stT rfl rfl rfl rfl rfl ⟨_, ⟨k, p, m, nm, te, tl, tb, _, _, _, _, _, _, _, _, _, es, bs, cs, hh, rfl, rfl, HX.out⟩, HS9.out.sel [0, 0, 0, 0] rfl⟩
theorem rstmt_fn (b : Nat) (L : List Lx.Tok) (hL : Sx.Ok L) (σ : Sx.R) (he : σ.err = 0) (hB : ∀ τ, Sx.M L τ + 16 ≤ Sx.M L σ → rCB b L τ) : rCS b L σ := by
  by_cases h1 : Sx.sees L Sx.wLet σ = true
  · exact rstmt_let b L hL σ he hB h1
  by_cases h2 : Sx.sees L Sx.wVar σ = true
  · exact rstmt_var b L hL σ he hB h2
  by_cases h3 : Sx.sees L Sx.wIf σ = true
  · cases h : Sx.sees L Sx.wElse (Sx.Bl L (Sx.X L 0 { σ with at' := σ.at' + 1 }).2).2
    · exact rstmt_if b L hL σ he hB h3 h
    · exact rstmt_if_else b L hL σ he hB h3 h
  by_cases h4 : Sx.sees L Sx.wFor σ = true
  · exact rstmt_for b L hL σ he hB h4
  by_cases h5 : Sx.sees L Sx.wRet σ = true
  · exact rstmt_return b L hL σ he hB h5
  refine rstmt_named b L hL σ he hB ?_
  intro s hs
  simp only [List.mem_cons, List.not_mem_nil, or_false] at hs
  rcases hs with rfl | rfl | rfl | rfl | rfl
  · simpa using h1
  · simpa using h2
  · simpa using h3
  · simpa using h4
  · simpa using h5
end Go.Proofs.YtjfdcnggnldgdaaGreatDoor
end
