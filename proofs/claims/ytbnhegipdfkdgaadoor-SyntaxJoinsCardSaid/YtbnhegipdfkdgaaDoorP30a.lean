/-
A name with its label and type, a parameter; a statement's value; let and var.
-/
import Derived.Test.YtbnhegipdfkdgaaDoorP29a
namespace Go.Proofs.YtbnhegipdfkdgaaDoor
open Go.ChangeShapes Go.WideShapes Go.ChangeAt Go.RowKit
set_option linter.unusedVariables false
set_option linter.unusedSimpArgs false

theorem bp_cells {fn : Func} {R : Ending → World → Prop} {a : Act} {w w0 : World} {X : Nat → Prop} {I : List It} {p q : Tmp} {t u : TypeId} {n m b c : Nat} {cs ds : Array Value} (h : St X w0 w I) (i j : Nat) (T : StructT t n) (U : StructT u m) (hr : fn.results = #[.cell p t, .cell q u]) (hp : a.tmps.getD p undef = .pointer (some ⟨b, 0, none⟩)) (hq : a.tmps.getD q undef = .pointer (some ⟨c, 0, none⟩))
    (hI : I[i]? = some (.row b t cs)) (hJ : I[j]? = some (.row c u ds)) (hn : cs.size = n) (hm : ds.size = m) (hd : a.defers = []) (hR : R (.returned (.tuple #[.agg cs, .agg ds])) w) : bodyPost Tryd.prog fn R .ret a w := by
  obtain ⟨fs, hu⟩ := T.und
  obtain ⟨gs, hv⟩ := U.und
  have hp' : a.tmps[p]?.getD undef = .pointer (some ⟨b, 0, none⟩) := by simpa using hp
  have hq' : a.tmps[q]?.getD undef = .pointer (some ⟨c, 0, none⟩) := by simpa using hq
  refine bodyPost_ret ?_ hd hR
  simp [results, hr, hp', hq', asAddr, run_loadVar_row w b _ _ _ _ _ (h.row i hI) hu rfl (by rw [hn]; exact T.info), run_loadVar_row w c _ _ _ _ _ (h.row j hJ) hv rfl (by rw [hm]; exact U.info)]
abbrev tyA (t : Sx.Ty) : Array Value := #[.int .i64 t.elem, .int .i64 t.len, .int .i64 t.label]
abbrev tkV (t : Lx.Tok) : Array Value := tkA t.kind t.pos t.num (Lx.S t.text)
set_option maxHeartbeats 8000000 in
set_option maxRecDepth 100000 in
theorem declared_fn (b : Nat) (L : List Lx.Tok) (hL : Sx.Ok L) (σ : Sx.R) : Fn 49 #[.pointer (some ⟨b, 0, none⟩)] [rd b L σ]
    fun e J => e = .returned (.tuple #[.agg (tkV (Sx.decl L σ).1.1), .agg (tyA (Sx.decl L σ).1.2)]) ∧ J = [rd b L (Sx.decl L σ).2] := by
  intro w P hP h0
  have HS := Lib.hid (St.start hP h0)
  have C1 := Lib.hid (label_fn b L hL σ)
  unfold Sx.decl
  simp only []
  generalize Sx.label L σ = lb at C1 ⊢
  obtain ⟨lb, τ⟩ := lb
  have C2 := Lib.hid (take_fn b L hL τ 1 (by decide))
  simp only [] at C1 ⊢
  generalize Sx.some L 1 τ = sm at C2 ⊢
  obtain ⟨t, τ2⟩ := sm
  simp only [] at C2 ⊢
  have C3 := Lib.hid (want_fn b L hL τ2 [58] (by decide))
  have C4 := Lib.hid (elements_fn b L hL (Sx.eat L [58] τ2))
  rw [Sx.type_elems]
  generalize Sx.elems L (Sx.eat L [58] τ2) = el at C4 ⊢
  obtain ⟨⟨el, ll⟩, τ3⟩ := el
  simp only [] at C4 ⊢
  clear h0 hP hL
  go_enter Tryd.func49, Tryd.ntmps49
  go_wp2_with (first
    | (first | (refine wpl_alloc HS.out _ rfl tokZ ?_; intro b1 w1 HS1; clear HS) | (refine wpl_alloc HS1.out _ rfl tyZ ?_; intro b2 w2 HS2; clear HS1) | (refine wpl_alloc HS4.out _ rfl tokZ ?_; intro b5 w5 HS5; clear HS4) | (refine wpl_alloc HS8.out _ rfl tyZ ?_; intro b9 w9 HS9; clear HS8))
    | (go_at_call 33; refine (HS2.out.call1 C1.out).mono ?_; rintro e w3 ⟨J, ⟨rfl, rfl⟩, hs⟩; simp only [List.cons_append, List.nil_append] at hs; have HS3 := Lib.hid hs; clear hs; clear HS2)
    | (go_at_call 29; refine (HS3.out.call1 C2.out).mono ?_; rintro e w4 ⟨J, ⟨rfl, rfl⟩, hs⟩; simp only [List.cons_append, List.nil_append] at hs; have HS4 := Lib.hid hs; clear hs; clear HS3)
    | (first | (refine wpl_storeS HS5.out 1 rfl rfl tokT rfl (fitsT _ _ _ _) ?_; intro w6 hs; have HS6 := Lib.hid (show St _ _ _ (_ :: _ :: _ :: _ :: []) from hs.out); clear hs HS5) | (refine wpl_storeS HS9.out 1 rfl rfl tyT rfl (fits3 _ _ _) ?_; intro w10 hs; have HS10 := Lib.hid (show St _ _ _ (_ :: _ :: _ :: _ :: _ :: []) from hs.out); clear hs HS9) | (refine wpl_store HS10.out 1 rfl rfl intO (of_decide_eq_true rfl) rfl ?_; intro w11 hs; have HS11 := Lib.hid (show St _ _ _ (_ :: _ :: _ :: _ :: _ :: []) from hs.out); clear hs HS10))
    | (go_at_call 28; refine (HS6.out.call1 C3.out).mono ?_; rintro e w7 ⟨J, ⟨rfl, rfl⟩, hs⟩; simp only [List.cons_append, List.nil_append] at hs; have HS7 := Lib.hid hs; clear hs; clear HS6)
    | (go_at_call 57; refine (HS7.out.call1 C4.out).mono ?_; rintro e w8 ⟨J, ⟨rfl, rfl⟩, hs⟩; simp only [List.cons_append, List.nil_append] at hs; have HS8 := Lib.hid hs; clear hs; clear HS7))
  refine wp_region_held_drew (S := fun w' => w'.heap[b5]? = some (.cells (tkV t) 59 (0, 0)) ∧ w'.heap[b9]? = some (.cells (tyA ⟨el, ll, lb⟩) 34 (0, 0))) (by kernel_rfl) (⟨HS11.out.drew.row 2 rfl, HS11.out.drew.row 1 rfl⟩) (fun hHeld => ?_)
  refine wpAnyH_take (i := 0) (v := _) rfl (by kernel_rfl) (by kernel_rfl) (by kernel_rfl) (fun _ _ _ h => h) (yieldsIf_loadS (by rfl) rfl tokT rfl (fun _ h => h.1)) (by assumption) ?_
  (try simp only [Act.put, List.setIfInBounds_toArray, List.set_cons_zero, List.set_cons_succ, List.getElem_toArray, List.getElem_cons_succ, List.getElem_cons_zero])
  refine wpAnyH_take (i := 1) (v := _) rfl (by kernel_rfl) (by kernel_rfl) (by kernel_rfl) (fun _ _ _ h => h) (yieldsIf_loadS (by rfl) rfl tyT rfl (fun _ h => h.2)) (by assumption) ?_
  (try simp only [Act.put, List.setIfInBounds_toArray, List.set_cons_zero, List.set_cons_succ, List.getElem_toArray, List.getElem_cons_succ, List.getElem_cons_zero])
  refine wpAnyH_ready (rs := [2]) (by kernel_rfl) (by simp) ?_
  refine AllReadyH.cons rfl (fun K hK => ?_) AllReadyH.nil
  (refine wp_storeS HS11.out.drew 4 ⟨rfl, rfl⟩ rfl tokT rfl (fitsT _ _ _ _) ?_; intro w12 hs; have HS12 := Lib.hid (show St _ _ _ (_ :: _ :: _ :: _ :: _ :: []) from hs.out); clear hs)
  refine hK.out _ _ (⟨HS12.out.row 2 rfl, HS12.out.row 1 rfl⟩) (fun hHeld => ?_)
  clear hK K
  (try simp only [Act.put, List.setIfInBounds_toArray, List.set_cons_zero, List.set_cons_succ, List.getElem_toArray, List.getElem_cons_succ, List.getElem_cons_zero])
  refine wpAnyH_ready (rs := [3]) (by kernel_rfl) (by simp) ?_
  refine AllReadyH.cons rfl (fun K hK => ?_) AllReadyH.nil
  (refine wp_storeS HS12.out 3 ⟨rfl, rfl⟩ rfl tyT rfl (fits3 _ _ _) ?_; intro w13 hs; have HS13 := Lib.hid (show St _ _ _ (_ :: _ :: _ :: _ :: _ :: []) from hs.out); clear hs)
  refine hK.out _ _ (⟨HS13.out.row 2 rfl, HS13.out.row 1 rfl⟩) (fun hHeld => ?_)
  clear hK K
  (try simp only [Act.put, List.setIfInBounds_toArray, List.set_cons_zero, List.set_cons_succ, List.getElem_toArray, List.getElem_cons_succ, List.getElem_cons_zero])
  refine wpAnyH_done (by kernel_rfl) ?_ _
  try go_wp2
  exact bp_cells HS13.out 4 3 tokT tyT rfl rfl rfl rfl rfl rfl rfl rfl ⟨_, ⟨rfl, rfl⟩, HS13.out.sel [0] rfl⟩
theorem Sx.param_eq (L : List Lx.Tok) (σ : Sx.R) : Sx.param L σ = (⟨(Sx.decl L (Sx.may L Sx.wOut σ).2).1.1.pos, (Sx.decl L (Sx.may L Sx.wOut σ).2).1.1.text, (Sx.decl L (Sx.may L Sx.wOut σ).2).1.2, (Sx.may L Sx.wOut σ).1⟩, (Sx.decl L (Sx.may L Sx.wOut σ).2).2) := rfl
set_option maxHeartbeats 8000000 in
set_option maxRecDepth 100000 in
theorem param_fn (b : Nat) (L : List Lx.Tok) (hL : Sx.Ok L) (σ : Sx.R) : Fn 31 #[.pointer (some ⟨b, 0, none⟩)] [rd b L σ]
    fun e J => e = .returned (.agg (paA (Sx.param L σ).1.pos (Lx.S (Sx.param L σ).1.name) (Sx.param L σ).1.ty.elem (Sx.param L σ).1.ty.len (Sx.param L σ).1.ty.label (Sx.param L σ).1.out)) ∧ J = [rd b L (Sx.param L σ).2] := by
  intro w P hP h0
  have HS := Lib.hid (St.start hP h0)
  have C1 := Lib.hid (may_fn b L hL σ Sx.wOut (by decide))
  rw [Sx.param_eq]
  generalize Sx.may L Sx.wOut σ = oo at C1 ⊢
  obtain ⟨oo, ρ⟩ := oo
  simp only [] at C1 ⊢
  have CD := Lib.hid (declared_fn b L hL ρ)
  generalize Sx.decl L ρ = dd at CD ⊢
  obtain ⟨⟨t, ty⟩, τ⟩ := dd
  obtain ⟨te, tl, tb⟩ := ty
  simp only [] at CD ⊢
  clear h0 hP hL
  go_enter Tryd.func31, Tryd.ntmps31
  go_wp2_with (first
    | (first | (refine wpl_alloc HS.out _ rfl paZ ?_; intro b1 w1 HS1; clear HS) | (refine wpl_alloc HS3.out _ rfl tokZ ?_; intro b4 w4 HS4; clear HS3) | (refine wpl_alloc HS4.out _ rfl tyZ ?_; intro b5 w5 HS5; clear HS4))
    | (go_at_call 32; refine (HS1.out.call1 C1.out).mono ?_; rintro e w2 ⟨J, ⟨rfl, rfl⟩, hs⟩; simp only [List.cons_append, List.nil_append] at hs; have HS2 := Lib.hid hs; clear hs; clear HS1)
    | (go_at_call 49; refine (HS2.out.call1 CD.out).mono ?_; rintro e w3 ⟨J, ⟨rfl, rfl⟩, hs⟩; simp only [List.cons_append, List.nil_append] at hs; have HS3 := Lib.hid hs; clear hs HS2)
    | (first | (refine wpl_storeS HS5.out 2 rfl rfl tokT rfl (fitsT _ _ _ _) ?_; intro w6 hs; have HS6 := Lib.hid (show St _ _ _ (_ :: _ :: _ :: _ :: []) from hs.out); clear hs HS5) | (refine wpl_storeS HS6.out 1 rfl rfl tyT rfl (fits3 _ _ _) ?_; intro w7 hs; have HS7 := Lib.hid (show St _ _ _ (_ :: _ :: _ :: _ :: []) from hs.out); clear hs HS6) | (refine wpl_storeS HS7.out 3 rfl rfl paT rfl (fitsP _ _ _ _ _ _) ?_; intro w8 hs; have HS8 := Lib.hid (show St _ _ _ (_ :: _ :: _ :: _ :: []) from hs.out); clear hs HS7))
    | (first | (refine wpl_load HS7.out 2 rfl rfl intO rfl ?_) | (refine wpl_load HS7.out 2 rfl rfl strO rfl ?_) | (refine wpl_loadS HS7.out 1 rfl rfl tyT rfl ?_)))
  exact bp_cell HS8.out 3 paT rfl rfl rfl rfl rfl ⟨_, ⟨rfl, rfl⟩, HS8.out.sel [0] rfl⟩
def CV (b : Nat) (L : List Lx.Tok) (σ : Sx.R) : Prop := Fn 62 #[.pointer (some ⟨b, 0, none⟩)] [rd b L σ] (EP b L (Sx.vl L σ))
theorem Sx.eat_ok {L : List Lx.Tok} {s : List UInt8} {σ : Sx.R} (h : (Sx.eat L s σ).err = 0) : σ.err = 0 := (Sx.sees_text (Sx.eat_sees h)).1
set_option maxHeartbeats 8000000 in
set_option maxRecDepth 100000 in
theorem value_fn (b : Nat) (L : List Lx.Tok) (hL : Sx.Ok L) (σ : Sx.R) : CV b L σ := by
  intro w P hP h0
  have HS := Lib.hid (St.start hP h0)
  have CX := Lib.hid (expr_any b L hL σ)
  have C2 := Lib.hid (want_fn b L hL (Sx.X L 0 σ).2 [59] (by decide))
  clear h0 hP hL
  go_enter Tryd.func62, Tryd.ntmps62
  go_wp2_with (first
    | (first | (refine wpl_alloc HS.out _ rfl exZ ?_; intro b1 w1 HS1; clear HS) | (refine wpl_alloc HS2.out _ rfl exZ ?_; intro b3 w3 HS3; clear HS2))
    | (go_at_call 71; refine (HS1.out.call1 CX.out).mono ?_; rintro e w2 ⟨J, ⟨k2, p2, n2, nm2, v2, es2, rfl, rfl, hx2, h12⟩, hs⟩; simp only [List.cons_append, List.nil_append] at hs; have HX2 := Lib.hid hx2; obtain ⟨q2, l2, cap2, rfl⟩ := hs.lsLen 1 rfl; have HS2 := Lib.hid hs; clear hs hx2)
    | (first | (refine wpl_storeS HS3.out 1 rfl rfl exT rfl fitsX' ?_; intro w4 hs; have HS4 := Lib.hid (show St _ _ _ (_ :: _ :: _ :: _ :: []) from hs.out); clear hs HS3) | (refine wpl_storeS HS5.out 3 rfl rfl exT rfl fitsX' ?_; intro w6 hs; have HS6 := Lib.hid (show St _ _ _ (_ :: _ :: _ :: _ :: []) from hs.out); clear hs HS5))
    | (go_at_call 28; refine (HS4.out.call1 C2.out).mono ?_; rintro e w5 ⟨J, ⟨rfl, rfl⟩, hs⟩; simp only [List.cons_append, List.nil_append] at hs; have HS5 := Lib.hid hs; clear hs; clear HS4)
    | (refine wpl_loadS HS5.out 1 rfl rfl exT rfl ?_))
  exact bp_cell HS6.out 3 exT rfl rfl rfl rfl rfl ⟨_, ⟨k2, p2, n2, nm2, _, es2, rfl, rfl, fun h => HX2.out (Sx.eat_ok h), rfl⟩, HS6.out.sel [0, 1] rfl⟩
set_option maxHeartbeats 8000000 in
set_option maxRecDepth 100000 in
theorem let_fn (b : Nat) (L : List Lx.Tok) (hL : Sx.Ok L) (σ : Sx.R) : Fn 58 #[.pointer (some ⟨b, 0, none⟩)] [rd b L σ] (SP b L (Sx.lett L σ)) := by
  intro w P hP h0
  have HS := Lib.hid (St.start hP h0)
  have C1 := Lib.hid (take_fn b L hL σ 1 (by decide))
  unfold Sx.lett
  simp only []
  generalize Sx.some L 1 σ = sm at C1 ⊢
  obtain ⟨t, τ⟩ := sm
  simp only [] at C1 ⊢
  have C2 := Lib.hid (want_fn b L hL τ [61] (by decide))
  have CX := Lib.hid (value_fn b L hL (Sx.eat L [61] τ))
  have hF3 := tokF3
  clear h0 hP hL
  go_enter Tryd.func58, Tryd.ntmps58
  go_wp2_with (first
    | (refine wpl_alloc HS.out _ rfl stZ ?_; intro b1 w1 HS1; clear HS)
    | (go_at_call 29; refine (HS1.out.call1 C1.out).mono ?_; rintro e w2 ⟨J, ⟨rfl, rfl⟩, hs⟩; simp only [List.cons_append, List.nil_append] at hs; have HS2 := Lib.hid hs; clear hs; clear HS1)
    | (go_at_call 28; refine (HS2.out.call1 C2.out).mono ?_; rintro e w3 ⟨J, ⟨rfl, rfl⟩, hs⟩; simp only [List.cons_append, List.nil_append] at hs; have HS3 := Lib.hid hs; clear hs; clear HS2)
    | (go_at_call 62; refine (HS3.out.call1 CX.out).mono ?_; rintro e w4 ⟨J, ⟨k2, p2, n2, nm2, v2, es2, rfl, rfl, hx2, h12⟩, hs⟩; simp only [List.cons_append, List.nil_append] at hs; have HX2 := Lib.hid hx2; obtain ⟨q2, l2, cap2, rfl⟩ := hs.lsLen 1 rfl; have HS4 := Lib.hid hs; clear hs hx2; clear HS3)
    | (refine wpl_slice HS4.out rfl Tryd.underlying40 (exB _ _ _ _ _) ?_; intro b5 w5 HS5; clear HS4)
    | (refine wpl_storeS HS5.out 3 rfl rfl stT rfl fitsS ?_; intro w6 hs; have HS6 := Lib.hid (show St _ _ _ (_ :: _ :: _ :: _ :: []) from hs.out); clear hs HS5))
  refine bp_cell HS6.out 3 stT rfl rfl rfl rfl rfl ⟨_, ⟨1, 0, 0, t.text, 0, 0, 0, _, _, _, _, _, _, _, _, _, [.mk k2 p2 n2 nm2 es2], [], [], false, rfl, rfl, fun h => ?_⟩, (St.sel HS6.out [0, 0, 0] rfl).to fun P h => h.under fun P h => (lsI_one h).under fun P h => ssI_nil (ssI_nil h)⟩
  exact congrArg (fun z => Sx.S.mk 1 0 0 t.text Sx.noTy [z] [] [] false) (HX2.out h)
set_option maxHeartbeats 8000000 in
set_option maxRecDepth 100000 in
theorem declaration_fn (b : Nat) (L : List Lx.Tok) (hL : Sx.Ok L) (σ : Sx.R) : Fn 59 #[.pointer (some ⟨b, 0, none⟩)] [rd b L σ] (SP b L (Sx.dcl L σ)) := by
  intro w P hP h0
  have HS := Lib.hid (St.start hP h0)
  have CD := Lib.hid (declared_fn b L hL σ)
  unfold Sx.dcl
  simp only []
  generalize Sx.decl L σ = dd at CD ⊢
  obtain ⟨⟨t, ty⟩, τ⟩ := dd
  obtain ⟨te, tl, tb⟩ := ty
  simp only [] at CD ⊢
  have C2 := Lib.hid (want_fn b L hL τ [59] (by decide))
  clear h0 hP hL
  go_enter Tryd.func59, Tryd.ntmps59
  go_wp2_with (first
    | (first | (refine wpl_alloc HS.out _ rfl stZ ?_; intro b1 w1 HS1; clear HS) | (refine wpl_alloc HS3.out _ rfl tokZ ?_; intro b4 w4 HS4; clear HS3) | (refine wpl_alloc HS4.out _ rfl tyZ ?_; intro b5 w5 HS5; clear HS4))
    | (go_at_call 49; refine (HS1.out.call1 CD.out).mono ?_; rintro e w3 ⟨J, ⟨rfl, rfl⟩, hs⟩; simp only [List.cons_append, List.nil_append] at hs; have HS3 := Lib.hid hs; clear hs HS1)
    | (first | (refine wpl_storeS HS5.out 2 rfl rfl tokT rfl (fitsT _ _ _ _) ?_; intro w6 hs; have HS6 := Lib.hid (show St _ _ _ (_ :: _ :: _ :: _ :: []) from hs.out); clear hs HS5) | (refine wpl_storeS HS6.out 1 rfl rfl tyT rfl (fits3 _ _ _) ?_; intro w7 hs; have HS7 := Lib.hid (show St _ _ _ (_ :: _ :: _ :: _ :: []) from hs.out); clear hs HS6) | (refine wpl_storeS HS8.out 3 rfl rfl stT rfl fitsS ?_; intro w9 hs; have HS9 := Lib.hid (show St _ _ _ (_ :: _ :: _ :: _ :: []) from hs.out); clear hs HS8))
    | (go_at_call 28; refine (HS7.out.call1 C2.out).mono ?_; rintro e w8 ⟨J, ⟨rfl, rfl⟩, hs⟩; simp only [List.cons_append, List.nil_append] at hs; have HS8 := Lib.hid hs; clear hs; clear HS7)
    | (first | (refine wpl_load HS8.out 2 rfl rfl strO rfl ?_) | (refine wpl_loadS HS8.out 1 rfl rfl tyT rfl ?_)))
  exact bp_cell HS9.out 3 stT rfl rfl rfl rfl rfl ⟨_, ⟨2, 0, 0, t.text, te, tl, tb, _, _, _, _, _, _, _, _, _, [], [], [], false, rfl, rfl, fun h => rfl⟩, (St.sel HS9.out [0] rfl).to fun P h => h.under fun P h => lsI_nil (ssI_nil (ssI_nil h))⟩
end Go.Proofs.YtbnhegipdfkdgaaDoor
