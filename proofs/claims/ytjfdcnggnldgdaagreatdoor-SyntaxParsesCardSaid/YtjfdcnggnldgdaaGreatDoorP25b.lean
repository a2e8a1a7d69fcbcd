/-
Expressions: what is handed over, an index, a sign between two.
A sign between two, and what is on its right.
-/
import Derived.Test.YtjfdcnggnldgdaaGreatDoorP24a
import Derived.Test.YtjfdcnggnldgdaaGreatDoorP21a
section
namespace Go.Proofs.YtjfdcnggnldgdaaGreatDoor
open Go.ChangeShapes Go.WideShapes Go.ChangeAt Go.RowKit
set_option linter.unusedVariables false
set_option linter.unusedSimpArgs false

theorem Sx.tight_head : ∀ x ∈ Sx.tights, (match x.1 with | c :: _ => Lx.letter c | [] => true) = false := by decide
theorem Sx.tight_kw : ∀ x ∈ Sx.tights, Sx.kw x.1 = true := by decide
theorem Sx.tight_letter {c : UInt8} {r : List UInt8} (h : Lx.letter c = true) : Sx.tight (c :: r) = (0, 0) := by
  unfold Sx.tight
  split
  · rename_i x hx
    have h1 := List.mem_of_find?_eq_some hx
    have h2 := List.find?_some hx
    have h3 := Sx.tight_head x h1
    have h4 : x.1 = c :: r := by simpa using h2
    rw [h4] at h3
    exact absurd (h.symm.trans h3) (by decide)
  · rfl
theorem Sx.kw_tight {s : List UInt8} (h : (Sx.tight s).1 ≠ 0) : Sx.kw s = true := by
  unfold Sx.tight at h
  split at h
  · rename_i x hx
    have h1 := List.mem_of_find?_eq_some hx
    have h2 := List.find?_some hx
    have h4 : x.1 = s := by simpa using h2
    rw [← h4]
    exact Sx.tight_kw x h1
  · exact absurd rfl h
/-- the text of the token at hand, where it is no word and no sign -/
theorem Sx.pk_other {L : List Lx.Tok} (hL : Sx.Ok L) {σ : Sx.R} (hi : σ.at' < L.length) (h : ¬ (σ.err = 0 ∧ (Sx.pk L σ).text = Sx.text L σ)) : ((Sx.pk L σ).text = [] ∨ ∃ c r, (Sx.pk L σ).text = c :: r ∧ Lx.letter c = true) ∧ (σ.err = 0 → Sx.text L σ = []) := by
  by_cases he : σ.err = 0
  · obtain ⟨h1, h2, h3⟩ := hL.clean _ (Sx.pk_in hi)
    by_cases hk : (Sx.tk L σ).kind = 3 ∨ (Sx.tk L σ).kind = 4
    · exact absurd ⟨he, by unfold Sx.text; rw [if_pos hk, Sx.pk_tk he]⟩ h
    · refine ⟨?_, fun _ => by unfold Sx.text; rw [if_neg hk]⟩
      rw [← Sx.pk_tk he] at hk
      rcases h3 with h3 | h3 | h3 | h3 | h3
      · exact Or.inl (h2 (Or.inr h3))
      · obtain ⟨⟨c, r, hc, hl⟩, _⟩ := h1 h3
        exact Or.inr ⟨c, r, hc, hl⟩
      · exact Or.inl (h2 (Or.inl h3))
      · exact absurd (Or.inl h3) hk
      · exact absurd (Or.inr h3) hk
  · exact ⟨Or.inl (Sx.end_tok hL.ends hL.clean hi he).2, fun h => absurd h he⟩
theorem Sx.pk_tight {L : List Lx.Tok} (hL : Sx.Ok L) {σ : Sx.R} (hi : σ.at' < L.length) {l : Nat} (hl : l ≠ 0) : (Sx.tight (Sx.pk L σ).text).1 = l ↔ σ.err = 0 ∧ (Sx.tight (Sx.text L σ)).1 = l := by
  by_cases h : σ.err = 0 ∧ (Sx.pk L σ).text = Sx.text L σ
  · rw [h.2]; exact ⟨fun h1 => ⟨h.1, h1⟩, fun h1 => h1.2⟩
  · obtain ⟨h1, h2⟩ := Sx.pk_other hL hi h
    have h3 : Sx.tight (Sx.pk L σ).text = (0, 0) := by
      rcases h1 with h1 | ⟨c, r, hc, hl⟩
      · rw [h1]; exact Sx.tight_nil
      · rw [hc]; exact Sx.tight_letter hl
    rw [h3]
    refine ⟨fun h4 => absurd h4.symm hl, fun h4 => ?_⟩
    have h5 := h4.2
    rw [h2 h4.1, Sx.tight_nil] at h5
    exact h5
theorem Sx.pk_text {L : List Lx.Tok} (hL : Sx.Ok L) {σ : Sx.R} (hi : σ.at' < L.length) (he : σ.err = 0) (ht : Sx.text L σ ≠ []) : (Sx.pk L σ).text = Sx.text L σ := by
  apply Classical.byContradiction
  intro h
  exact ht ((Sx.pk_other hL hi (fun h1 => h h1.2)).2 he)
theorem Sx.tight_ne {s : List UInt8} (h : (Sx.tight s).1 ≠ 0) : s ≠ [] := by rintro rfl; exact h (by rw [Sx.tight_nil])
theorem Sx.pk_ahead {L : List Lx.Tok} (hL : Sx.Ok L) {σ : Sx.R} (hi : σ.at' < L.length) : Sx.aheadK (Sx.pk L σ).text = if σ.err = 0 then Sx.aheadK (Sx.text L σ) else 0 := by
  by_cases h : σ.err = 0 ∧ (Sx.pk L σ).text = Sx.text L σ
  · rw [h.2, if_pos h.1]
  · obtain ⟨h1, h2⟩ := Sx.pk_other hL hi h
    have h3 : Sx.aheadK (Sx.pk L σ).text = 0 := by
      rcases h1 with h1 | ⟨c, r, hc, hl⟩
      · rw [h1]; rfl
      · rw [hc]
        unfold Sx.aheadK
        have hne : ∀ d : UInt8, Lx.letter d = false → ¬ (c :: r = [d]) := by
          intro d hd e
          rw [List.cons.injEq] at e
          rw [e.1, hd] at hl
          cases hl
        rw [if_neg (hne 126 (by decide)), if_neg (hne 45 (by decide)), if_neg (hne 33 (by decide))]
    rw [h3]
    split
    · rename_i he; rw [h2 he]; rfl
    · rfl
theorem bp_cell2 {fn : Func} {R : Ending → World → Prop} {a : Act} {w w0 : World} {X : Nat → Prop} {I : List It} {p q : Tmp} {t : TypeId} {n b : Nat} {cs : Array Value} (h : St X w0 w I) (i : Nat) (T : StructT t n) (hr : fn.results = #[.cell p t, .tmp q]) (hp : a.tmps.getD p undef = .pointer (some ⟨b, 0, none⟩))
    (hI : I[i]? = some (.row b t cs)) (hn : cs.size = n) (hd : a.defers = []) (hR : R (.returned (.tuple #[.agg cs, a.tmps.getD q undef])) w) : bodyPost Tryz.prog fn R .ret a w :=
  bp_blk2 T hr hp ⟨h.row i hI, hn⟩ hd hR
def CU (b : Nat) (L : List Lx.Tok) (σ : Sx.R) : Prop := Fn 279 #[.pointer (some ⟨b, 0, none⟩)] [rd b L σ] (EP b L (Sx.U L σ))
def CC (b : Nat) (L : List Lx.Tok) (z : Int) (l : Nat) (σ : Sx.R) : Prop := Fn 260 #[.pointer (some ⟨b, 0, none⟩), .int .i64 z] [rd b L σ] (EP b L (Sx.X L l σ))
set_option maxHeartbeats 8000000 in
set_option maxRecDepth 100000 in
theorem index_fn (b : Nat) (L : List Lx.Tok) (hL : Sx.Ok L) (σ : Sx.R) (hE : CE b L (Sx.nest L [91] σ)) : Fn 245 #[.pointer (some ⟨b, 0, none⟩)] [rd b L σ]
    (EP b L ((Sx.X L 0 (Sx.nest L [91] σ)).1, Sx.unnest L [93] (Sx.X L 0 (Sx.nest L [91] σ)).2)) := by
  intro w P hP h0
  have HS := Lib.hid (St.start hP h0)
  have C1 := Lib.hid (open_fn b L hL σ [91] (by decide))
  have ho0 := HS.out.opn0
  have hop : (Sx.nest L [91] σ).opn = σ.opn + 1 := Sx.op_nest L [91] σ
  have herr0 : (Sx.nest L [91] σ).err = 0 → σ.err = 0 := fun h => Sx.nest_err hL (by decide) h
  have hn1 := (Sx.le_nest hL.ends [91] (by decide) σ).2.2.1 HS.out.at'
  have CX := Lib.hid hE
  have C2 := Lib.hid (shut_fn b L hL (Sx.X L 0 (Sx.nest L [91] σ)).2 [93] (by decide) (fun h => by
    have h1 : (Sx.X L 0 (Sx.nest L [91] σ)).2.err = 0 := Sx.unnest_err (s := [93]) h
    have h2 : (Sx.nest L [91] σ).err = 0 := by
      apply Classical.byContradiction
      intro h3
      rw [Sx.X_err hL.ends hn1 h3] at h1
      exact h3 h1
    have := ho0 (herr0 h2)
    rw [Sx.op_X, hop]; omega))
  clear h0 hP hL hE ho0 hop herr0 hn1
  go_enter Tryz.func245, Tryz.ntmps245
  go_wp2_with (first
    | (refine wpl_alloc HS.out _ rfl exZ ?_; intro b1 w1 HS1; clear HS)
    | (go_at_call 179; refine (HS1.out.call1 C1.out).mono ?_; rintro e w2 ⟨J, ⟨rfl, rfl⟩, hs⟩; simp only [List.cons_append, List.nil_append] at hs; have HS2 := Lib.hid hs; clear hs)
    | (go_at_call 243; refine (HS2.out.call1 CX.out).mono ?_; rintro e w3 ⟨J, ⟨k2, p2, n2, nm2, v2, es2, rfl, rfl, hx2, h12⟩, hs⟩; simp only [List.cons_append, List.nil_append] at hs; have HS3 := Lib.hid hs; have HX2 := Lib.hid hx2; clear hs hx2)
    | (refine wpl_alloc HS3.out _ rfl exZ ?_; intro b4 w4 HS4)
    | (first | (refine wpl_storeS HS4.out 1 rfl rfl exT rfl (fitsX h12) ?_; intro w5 hs; have HS5 := Lib.hid (show St _ _ _ (_ :: _ :: _ :: _ :: []) from hs.out); clear hs HS4) | (refine wpl_storeS HS6.out 3 rfl rfl exT rfl (fitsX h12) ?_; intro w7 hs; have HS7 := Lib.hid (show St _ _ _ (_ :: _ :: _ :: _ :: []) from hs.out); clear hs))
    | (go_at_call 181; refine (HS5.out.call1 C2.out).mono ?_; rintro e w6 ⟨J, ⟨rfl, rfl⟩, hs⟩; simp only [List.cons_append, List.nil_append] at hs; have HS6 := Lib.hid hs; clear hs)
    | (refine wpl_loadS HS6.out 1 rfl rfl exT rfl ?_))
  refine bp_cell HS7.out 3 exT rfl rfl rfl rfl rfl ⟨_, ⟨k2, p2, n2, nm2, v2, es2, rfl, rfl, fun h => HX2.out (Sx.unnest_err h), h12⟩, HS7.out.sel [0, 1] rfl⟩
theorem St.lsLen {X : Nat → Prop} {w0 w : World} {I : List It} (h : St X w0 w I) (i : Nat) {v : Value} {es : List Sx.E} (hi : I[i]? = some (lsI v es)) : ∃ q n cap, v = .slice q n cap := by
  obtain ⟨A, B, h1, h2, h3, h4, h5⟩ := Sep.pick i h.sep hi
  obtain ⟨xs, C, D, h6, h7, h8, h9, h10⟩ := h4
  obtain ⟨q, cap, hv⟩ := own_len h9
  exact ⟨q, _, cap, hv⟩
set_option maxHeartbeats 8000000 in
set_option maxRecDepth 100000 in
theorem call_fn (b : Nat) (L : List Lx.Tok) (hL : Sx.Ok L) (σ : Sx.R) (hE : ∀ τ, Sx.M L τ ≤ Sx.M L σ → CE b L τ) (k p n : Int) (nm : List UInt8) : Fn 244 #[.pointer (some ⟨b, 0, none⟩), .agg (tkA k p n (Lx.S nm))] [rd b L σ]
    (EP b L (.mk 4 p 0 nm (Sx.Ar L 0 (Sx.nest L [40] σ)).1, Sx.unnest L [41] (Sx.Ar L 0 (Sx.nest L [40] σ)).2)) := by
  intro w P hP h0
  have HS := Lib.hid (St.start hP h0)
  have C1 := Lib.hid (list_args b L hL σ 65536 rfl hE)
  have hmf : ∀ (fn : Go.Fn) (first cap : Array Value) (w : World), (Instr.makeFunc fn first cap).run Tryz.prog w = .ok (.func fn first cap) w := fun _ _ _ _ => rfl
  clear h0 hP hL hE
  go_enter Tryz.func244, Tryz.ntmps244
  go_wp2_with (first
    | (refine wpl_box HS.out rfl rfl ?_; intro b1 w1 HS1; clear HS)
    | (refine wpl_alloc HS1.out _ rfl exZ ?_; intro b2 w2 HS2; clear HS1))
  refine wp_region_held_drew (S := fun w' => w'.cell? ⟨b1, 1, none⟩ = some (.int .i64 p) ∧ w'.cell? ⟨b1, 3, none⟩ = some (.string (Lx.S nm))) (by kernel_rfl) (⟨HS2.out.drew.cell 2 rfl 1, HS2.out.drew.cell 2 rfl 3⟩) (fun hHeld => ?_)
  refine tkH 0 ?_
  refine tkH 1 ?_
  refine tkH 2 ?_
  refine tkH 3 ?_
  refine tkH 4 ?_
  refine tkH 5 ?_
  refine tkH 6 ?_
  refine wpAnyH_ready (rs := [7]) (by kernel_rfl) (by simp) ?_
  refine AllReadyH.cons rfl (fun K hK => ?_) AllReadyH.nil
  go_simp
  (go_at_call 261; refine (HS2.out.drew.call1 C1.out).mono ?_; rintro e w3 ⟨J, ⟨v2, es2, rfl, rfl, hx2, h12⟩, hs⟩; simp only [List.cons_append, List.nil_append] at hs; have HS3 := Lib.hid hs; have HX2 := Lib.hid hx2; obtain ⟨q2, l2, cap2, rfl⟩ := hs.lsLen 1 rfl; clear hs hx2)
  refine hK.out _ _ (⟨HS3.out.cell 3 rfl 1, HS3.out.cell 3 rfl 3⟩) (fun hHeld => ?_)
  clear hK K
  (try simp only [Act.put, List.setIfInBounds_toArray, List.set_cons_zero, List.set_cons_succ, List.getElem_toArray, List.getElem_cons_succ, List.getElem_cons_zero])
  refine tkH 8 ?_
  refine wpAnyH_ready (rs := [9]) (by kernel_rfl) (by simp) ?_
  refine AllReadyH.cons rfl (fun K hK => ?_) AllReadyH.nil
  (refine wp_storeS HS3.out 2 ⟨rfl, rfl⟩ rfl exT rfl (fitsX h12) ?_; intro w4 hs; have HS4 := Lib.hid (show St _ _ _ (_ :: _ :: _ :: _ :: []) from hs.out); clear hs)
  refine hK.out _ _ (⟨HS4.out.cell 3 rfl 1, HS4.out.cell 3 rfl 3⟩) (fun hHeld => ?_)
  clear hK K
  (try simp only [Act.put, List.setIfInBounds_toArray, List.set_cons_zero, List.set_cons_succ, List.getElem_toArray, List.getElem_cons_succ, List.getElem_cons_zero])
  refine wpAnyH_done (by kernel_rfl) ?_ _
  try go_wp2
  try simp only [Exit.inBlock, Exit.then]
  refine bp_cell HS4.out 2 exT rfl rfl rfl rfl rfl ⟨_, ⟨4, p, 0, nm, _, es2, rfl, rfl, fun h => by rw [HX2.out h], h12⟩, HS4.out.sel [0, 0] rfl⟩
end Go.Proofs.YtjfdcnggnldgdaaGreatDoor
end
section
namespace Go.Proofs.YtjfdcnggnldgdaaGreatDoor
open Go.ChangeShapes Go.WideShapes Go.ChangeAt Go.RowKit
set_option linter.unusedVariables false
set_option linter.unusedSimpArgs false

theorem fitsX' {k p n : Int} {s : ByteArray} {q : Option Addr} {l c : Nat} : Fits 5 #[.int .i64 k, .int .i64 p, .int .i64 n, .string s, .slice q l c] := fitsX rfl
/-- what further tells -/
def FP (b : Nat) (L : List Lx.Tok) (l : Nat) (x : Sx.E) (σ : Sx.R) (e : Ending) (J : List It) : Prop :=
  ∃ (k p n : Int) (nm : List UInt8) (v : Value) (es : List Sx.E) (r : Sx.E × Sx.R) (bb : Bool), e = .returned (.tuple #[.agg (exA k p n nm v), .bool bb]) ∧ J = [rd b L r.2, lsI v es] ∧ (r.2.err = 0 → r.1 = .mk k p n nm es) ∧ v.oneCell' = true ∧
    bb = decide (σ.err = 0 ∧ (Sx.tight (Sx.text L σ)).1 = l) ∧ r = if σ.err = 0 ∧ (Sx.tight (Sx.text L σ)).1 = l then Sx.step L x σ else (x, σ)
/-- two expressions as what a sign between two has -/
theorem lsI_two {w : World} {I : List It} {P : Nat → Prop} {k p n k2 p2 n2 : Int} {nm nm2 : List UInt8} {v v2 v' : Value} {es es2 : List Sx.E}
    (h : Sep w (ownI 55 5 v' 2 ((exA k p n nm v).toList ++ (exA k2 p2 n2 nm2 v2).toList) :: lsI v es :: lsI v2 es2 :: I) P) : Sep w (lsI v' [.mk k p n nm es, .mk k2 p2 n2 nm2 es2] :: I) P := by
  refine lsI_close (n := 2) (xs := (exA k p n nm v).toList ++ (exA k2 p2 n2 nm2 v2).toList) rfl (h.under fun P h => ?_)
  have h1 : Sep w (elI [.mk k p n nm es] (exA k p n nm v).toList :: lsI v2 es2 :: I) P := h.map fun A hA => elOn_one (exOn_of hA)
  exact elI_more h1
section
variable {o : Oper} {a : Act} {w w0 : World} {X : Nat → Prop} {I : List It} {Q : Exit → Act → World → Prop} {K : Act → World → Prop} {b n : Nat} {t : TypeId} {cs : Array Value} {v : Value}
theorem wp_load1 (h : St X w0 w I) (i : Nat) (ho : ldOf a o = some (t, .pointer (some ⟨b, n, none⟩))) {tb : TypeId} (hI : I[i]? = some (.row b tb cs)) (T : One t) (hv : cs.toList[n]? = some v)
    (k : K (a.put o.dst v) w) : Oper.wp Tryz.prog o a w K Q := by
  obtain ⟨hg, y, ho, hx⟩ := ldOf_eq ho
  have hc : w.cell? ⟨b, n, none⟩ = some v := (cell_of_row w b n _ _ _ (h.row i hI)).trans (by rw [← hv, Array.getElem?_toList])
  have hr : (loadVar t ⟨b, n, none⟩).run Tryz.prog w = .ok v w := by
    unfold loadVar
    simp [Sem.run_bind, T.agg w, hc, go_sem]
  unfold Oper.wp execOp
  simp only [ho, hx, Instr.loadAt, Instr.sureAddr, Sem.run_bind, Sem.run_pure, Result.andThen_ok, hr]
  exact k
end
theorem St.mapAt {X : Nat → Prop} {w0 w : World} {I : List It} (h : St X w0 w I) (i : Nat) {x y : It} (hi : I[i]? = some x) (e : ∀ A : Nat → Prop, x.on w A → y.on w A) : St X w0 w (I.set i y) :=
  ⟨h.gd, h.rest, Sep.unpick i hi ((Sep.pick i h.sep hi).map e)⟩
theorem row_own {w : World} {b : Nat} {k p n : Int} {nm : List UInt8} {v : Value} (A : Nat → Prop) (h : It.on (.row b 55 (exA k p n nm v)) w A) : It.on (ownI 55 5 (.slice (some ⟨b, 0, none⟩) 1 1) 1 (exA k p n nm v).toList) w A :=
  ⟨⟨rfl, Or.inr ⟨b, 1, _, rfl, Nat.zero_le _, h.2, Nat.le_refl _, by decide, rfl, rfl⟩⟩, fun g hg => by cases hg; exact h.1⟩
set_option maxHeartbeats 8000000 in
set_option maxRecDepth 100000 in
theorem further_no (b : Nat) (L : List Lx.Tok) (hL : Sx.Ok L) (σ : Sx.R) (l : Nat) (z : Int) (hz : z = l) (hl : l ≠ 0) (x : Sx.E) (k p n : Int) (nm : List UInt8) (v : Value) (es : List Sx.E) (hv : v.oneCell' = true) (hx : σ.err = 0 → x = .mk k p n nm es)
    (hno : ¬ (σ.err = 0 ∧ (Sx.tight (Sx.text L σ)).1 = l)) : Fn 259 #[.pointer (some ⟨b, 0, none⟩), .int .i64 z, .agg (exA k p n nm v)] [rd b L σ, lsI v es] (FP b L l x σ) := by
  intro w P hP h0
  have HS := Lib.hid (St.start hP h0)
  obtain ⟨q0, l0, cap0, rfl⟩ := HS.out.lsLen 1 rfl
  have hat := HS.out.at'
  have C1 := Lib.hid (next_fn b L σ)
  have C2 := Lib.hid (find_fn (Sx.pk L σ).text)
  have ht : ¬ ((Sx.tight (Sx.pk L σ).text).1 : Int) = z := by
    intro h
    exact hno ((Sx.pk_tight hL hat hl).1 (by omega))
  have HX := Lib.hid hx
  have HN := Lib.hid hno
  clear h0 hP hL hx hno hz hl hat
  go_enter Tryz.func259, Tryz.ntmps259
  go_wp2_with (first
    | (first | (refine wpl_box HS.out rfl rfl ?_; intro b1 w1 HS1; clear HS))
    | (first | (refine wpl_alloc HS1.out _ rfl exZ ?_; intro b2 w2 HS2; clear HS1) | (refine wpl_alloc HS3.out _ rfl tokZ ?_; intro b4 w4 HS4; clear HS3) | (refine wpl_alloc HS8.out _ rfl exZ ?_; intro b9 w9 HS9; clear HS8))
    | (go_at_call 61; refine (HS2.out.call1 C1.out).mono ?_; rintro e w3 ⟨J, ⟨rfl, rfl⟩, hs⟩; simp only [List.cons_append, List.nil_append] at hs; have HS3 := Lib.hid hs; clear hs)
    | (refine wpl_storeS HS4.out 1 rfl rfl tokT rfl (fitsT _ _ _ _) ?_; intro w5 hs; have HS5 := Lib.hid (show St _ _ _ (_ :: _ :: _ :: _ :: _ :: []) from hs.out); clear hs HS4)
    | (go_at_call 278; refine (St.call (pre := []) HS5.out C2.out).mono ?_; rintro e w6 ⟨J, ⟨rfl, rfl⟩, hs⟩; simp only [List.cons_append, List.nil_append] at hs; have HS6 := Lib.hid hs; clear hs HS5)
    | (refine wpl_load HS5.out 1 rfl rfl strO rfl ?_)
    | (refine wpl_loadS HS6.out 3 rfl rfl exT rfl ?_)
    | (refine wpl_storeS HS6.out 2 rfl rfl exT rfl fitsX' ?_; intro w7 hs; have HS7 := Lib.hid (show St _ _ _ (_ :: _ :: _ :: _ :: _ :: []) from hs.out); clear hs HS6))
  refine bp_cell2 HS7.out 2 exT rfl rfl rfl rfl rfl ⟨_, ⟨k, p, n, nm, _, es, (x, σ), false, rfl, rfl, HX.out, rfl, ?_, ?_⟩, HS7.out.sel [0, 3] rfl⟩
  · rw [decide_eq_false HN.out]
  · rw [if_neg HN.out]
set_option maxHeartbeats 8000000 in
set_option maxRecDepth 100000 in
theorem further_shift (b : Nat) (L : List Lx.Tok) (hL : Sx.Ok L) (σ : Sx.R) (l : Nat) (z : Int) (hz : z = l) (hl : l ≠ 0) (x : Sx.E) (k p n : Int) (nm : List UInt8) (v : Value) (es : List Sx.E) (hv : v.oneCell' = true) (hx : σ.err = 0 → x = .mk k p n nm es)
    (hyes : σ.err = 0 ∧ (Sx.tight (Sx.text L σ)).1 = l) (h5 : l = 5) : Fn 259 #[.pointer (some ⟨b, 0, none⟩), .int .i64 z, .agg (exA k p n nm v)] [rd b L σ, lsI v es] (FP b L l x σ) := by
  intro w P hP h0
  have HS := Lib.hid (St.start hP h0)
  obtain ⟨q0, l0, cap0, rfl⟩ := HS.out.lsLen 1 rfl
  have hat := HS.out.at'
  have C1 := Lib.hid (next_fn b L σ)
  have C2 := Lib.hid (find_fn (Sx.pk L σ).text)
  have hat1 := (Sx.pk_tight hL hat hl).2 hyes
  have hpt : (Sx.pk L σ).text = Sx.text L σ := Sx.pk_text hL hat hyes.1 (Sx.tight_ne (by rw [hyes.2]; exact hl))
  have hpk : Sx.pk L σ = Sx.tk L σ := Sx.pk_tk hyes.1
  have ht : ((Sx.tight (Sx.pk L σ).text).1 : Int) = z := by omega
  have C3 := Lib.hid (want_fn b L hL σ (Sx.pk L σ).text (Sx.kw_tight (by rw [hat1]; exact hl)))
  have hea : Sx.eat L (Sx.pk L σ).text σ = { σ with at' := σ.at' + 1 } := by
    rw [hpt]; unfold Sx.eat; rw [if_neg (by simpa using hyes.1), if_neg (by simp)]
  rw [hea] at C3
  have C4 := Lib.hid (take_fn b L hL { σ with at' := σ.at' + 1 } 2 (by decide))
  have hst : Sx.step L x σ = (.mk (Sx.tight (Sx.pk L σ).text).2 (Sx.pk L σ).pos (Sx.some L 2 { σ with at' := σ.at' + 1 }).1.num [] [x], (Sx.some L 2 { σ with at' := σ.at' + 1 }).2) := by
    rw [Sx.step5 (hyes.2.trans h5), hpt, hpk]
  have hz5 : z = 5 := by omega
  have HX := Lib.hid (hx hyes.1)
  have HY := Lib.hid hyes
  have HST := Lib.hid hst
  have hF2 := tokF2
  clear h0 hP hL hx hyes hz hl hat hat1 hpt hpk hea hst h5
  go_enter Tryz.func259, Tryz.ntmps259
  go_wp2_with (first
    | (first | (refine wpl_box HS.out rfl rfl ?_; intro b1 w1 HS1; clear HS))
    | (first | (refine wpl_alloc HS1.out _ rfl exZ ?_; intro b2 w2 HS2; clear HS1) | (refine wpl_alloc HS3.out _ rfl tokZ ?_; intro b4 w4 HS4; clear HS3) | (refine wpl_alloc HS8.out _ rfl exZ ?_; intro b9 w9 HS9; clear HS8))
    | (go_at_call 61; refine (HS2.out.call1 C1.out).mono ?_; rintro e w3 ⟨J, ⟨rfl, rfl⟩, hs⟩; simp only [List.cons_append, List.nil_append] at hs; have HS3 := Lib.hid hs; clear hs)
    | (refine wpl_storeS HS4.out 1 rfl rfl tokT rfl (fitsT _ _ _ _) ?_; intro w5 hs; have HS5 := Lib.hid (show St _ _ _ (_ :: _ :: _ :: _ :: _ :: []) from hs.out); clear hs HS4)
    | (go_at_call 278; refine (St.call (pre := []) HS5.out C2.out).mono ?_; rintro e w6 ⟨J, ⟨rfl, rfl⟩, hs⟩; simp only [List.cons_append, List.nil_append] at hs; have HS6 := Lib.hid hs; clear hs HS5)
    | (first | (refine wpl_load HS5.out 1 rfl rfl strO rfl ?_) | (refine wpl_load HS6.out 1 rfl rfl strO rfl ?_) | (refine wpl_load HS7.out 1 rfl rfl intO rfl ?_))
    | (go_at_call 117; refine (HS6.out.call1 C3.out).mono ?_; rintro e w7 ⟨J, ⟨rfl, rfl⟩, hs⟩; simp only [List.cons_append, List.nil_append] at hs; have HS7 := Lib.hid hs; clear hs; clear HS6)
    | (refine wpl_loadS HS7.out 3 rfl rfl exT rfl ?_)
    | (refine wpl_slice HS7.out rfl Tryz.underlying51 (exB _ _ _ _ _) ?_; intro b8 w8 HS8; clear HS7)
    | (refine wpl_storeS HS9.out 1 rfl rfl exT rfl fitsX' ?_; intro w10 hs; have HS10 := Lib.hid (show St _ _ _ (_ :: _ :: _ :: _ :: _ :: _ :: _ :: []) from hs.out); clear hs HS9)
    | (go_at_call 118; refine (HS10.out.call1 C4.out).mono ?_; rintro e w11 ⟨J, ⟨rfl, rfl⟩, hs⟩; simp only [List.cons_append, List.nil_append] at hs; have HS11 := Lib.hid hs; clear hs; clear HS10)
    | (refine wpl_store HS11.out 1 rfl rfl intO (of_decide_eq_true rfl) rfl ?_; intro w12 hs; have HS12 := Lib.hid (show St _ _ _ (_ :: _ :: _ :: _ :: _ :: _ :: _ :: []) from hs.out); clear hs HS11)
    | (refine wpl_loadS HS12.out 1 rfl rfl exT rfl ?_)
    | (refine wpl_storeS HS12.out 4 rfl rfl exT rfl fitsX' ?_; intro w13 hs; have HS13 := Lib.hid (show St _ _ _ (_ :: _ :: _ :: _ :: _ :: _ :: _ :: []) from hs.out); clear hs HS12))
  refine bp_cell2 HS13.out 4 exT rfl rfl rfl rfl rfl ⟨_, ⟨_, _, _, [], _, [.mk k p n nm es], Sx.step L x σ, true, rfl, rfl, fun _ => ?_, rfl, ?_, ?_⟩, ?_⟩
  · rw [HST.out, HX.out]
  · rw [decide_eq_true HY.out]
  · rw [if_pos HY.out]
  · rw [HST.out]
    exact (St.sel HS13.out [0, 1, 4] rfl).to fun P h => h.under fun P h => lsI_one h
set_option maxHeartbeats 8000000 in
set_option maxRecDepth 100000 in
theorem further_more (b : Nat) (L : List Lx.Tok) (hL : Sx.Ok L) (σ : Sx.R) (l : Nat) (z : Int) (hz : z = l) (hl : l ≠ 0) (x : Sx.E) (k p n : Int) (nm : List UInt8) (v : Value) (es : List Sx.E) (hv : v.oneCell' = true) (hx : σ.err = 0 → x = .mk k p n nm es)
    (hyes : σ.err = 0 ∧ (Sx.tight (Sx.text L σ)).1 = l) (h5 : l ≠ 5) (hC : ∀ τ, Sx.M L τ + 16 ≤ Sx.M L σ → CC b L (IntKind.i64.wrap (z + 1)) l τ) : Fn 259 #[.pointer (some ⟨b, 0, none⟩), .int .i64 z, .agg (exA k p n nm v)] [rd b L σ, lsI v es] (FP b L l x σ) := by
  intro w P hP h0
  have HS := Lib.hid (St.start hP h0)
  obtain ⟨q0, l0, cap0, rfl⟩ := HS.out.lsLen 1 rfl
  have hat := HS.out.at'
  have C1 := Lib.hid (next_fn b L σ)
  have C2 := Lib.hid (find_fn (Sx.pk L σ).text)
  have hat1 := (Sx.pk_tight hL hat hl).2 hyes
  have hpt : (Sx.pk L σ).text = Sx.text L σ := Sx.pk_text hL hat hyes.1 (Sx.tight_ne (by rw [hyes.2]; exact hl))
  have hpk : Sx.pk L σ = Sx.tk L σ := Sx.pk_tk hyes.1
  have ht : ((Sx.tight (Sx.pk L σ).text).1 : Int) = z := by omega
  have C3 := Lib.hid (want_fn b L hL σ (Sx.pk L σ).text (Sx.kw_tight (by rw [hat1]; exact hl)))
  have hea : Sx.eat L (Sx.pk L σ).text σ = { σ with at' := σ.at' + 1 } := by
    rw [hpt]; unfold Sx.eat; rw [if_neg (by simpa using hyes.1), if_neg (by simp)]
  rw [hea] at C3
  have CX := Lib.hid (hC { σ with at' := σ.at' + 1 } (Sx.M_next hyes.1 hat))
  have hst : Sx.step L x σ = (.mk (Sx.tight (Sx.pk L σ).text).2 (Sx.pk L σ).pos 0 [] [x, (Sx.X L l { σ with at' := σ.at' + 1 }).1], (Sx.X L l { σ with at' := σ.at' + 1 }).2) := by
    rw [Sx.stepN hyes.2 h5, hpt, hpk]
  have hz5 : ¬ z = 5 := by omega
  have HX := Lib.hid (hx hyes.1)
  have HY := Lib.hid hyes
  have HST := Lib.hid hst
  clear h0 hP hL hx hyes hz hl hat hat1 hpt hpk hea hst h5 hC
  go_enter Tryz.func259, Tryz.ntmps259
  go_wp2_with (first
    | (first | (refine wpl_box HS.out rfl rfl ?_; intro b1 w1 HS1; clear HS))
    | (first | (refine wpl_alloc HS1.out _ rfl exZ ?_; intro b2 w2 HS2; clear HS1) | (refine wpl_alloc HS3.out _ rfl tokZ ?_; intro b4 w4 HS4; clear HS3) | (refine wpl_alloc HS8.out _ rfl exZ ?_; intro b9 w9 HS9; clear HS8))
    | (go_at_call 61; refine (HS2.out.call1 C1.out).mono ?_; rintro e w3 ⟨J, ⟨rfl, rfl⟩, hs⟩; simp only [List.cons_append, List.nil_append] at hs; have HS3 := Lib.hid hs; clear hs)
    | (refine wpl_storeS HS4.out 1 rfl rfl tokT rfl (fitsT _ _ _ _) ?_; intro w5 hs; have HS5 := Lib.hid (show St _ _ _ (_ :: _ :: _ :: _ :: _ :: []) from hs.out); clear hs HS4)
    | (go_at_call 278; refine (St.call (pre := []) HS5.out C2.out).mono ?_; rintro e w6 ⟨J, ⟨rfl, rfl⟩, hs⟩; simp only [List.cons_append, List.nil_append] at hs; have HS6 := Lib.hid hs; clear hs HS5)
    | (first | (refine wpl_load HS5.out 1 rfl rfl strO rfl ?_) | (refine wpl_load HS6.out 1 rfl rfl strO rfl ?_) | (refine wpl_load HS7.out 1 rfl rfl intO rfl ?_))
    | (go_at_call 117; refine (HS6.out.call1 C3.out).mono ?_; rintro e w7 ⟨J, ⟨rfl, rfl⟩, hs⟩; simp only [List.cons_append, List.nil_append] at hs; have HS7 := Lib.hid hs; clear hs; clear HS6)
    | (refine wpl_loadS HS7.out 3 rfl rfl exT rfl ?_)
    | (refine wpl_slice HS7.out rfl Tryz.underlying51 (exB _ _ _ _ _) ?_; intro b8 w8 HS8; clear HS7)
    | (refine wpl_storeS HS9.out 1 rfl rfl exT rfl fitsX' ?_; intro w10 hs; have HS10 := Lib.hid (show St _ _ _ (_ :: _ :: _ :: _ :: _ :: _ :: _ :: []) from hs.out); clear hs HS9))
  refine wp_region_held_drew (S := fun _ => True) (by kernel_rfl) (trivial) (fun hHeld => ?_)
  refine tkH 0 ?_
  refine tkH 2 ?_
  refine tkH 3 ?_
  refine tkH 4 ?_
  refine wpAnyH_ready (rs := [1, 5]) (by kernel_rfl) (by simp) ?_
  refine AllReadyH.cons rfl (fun K hK => ?_) (AllReadyH.cons rfl (fun K hK => ?_) AllReadyH.nil)
  · (refine wp_load1 HS10.out.drew 1 rfl rfl exprsO rfl ?_)
    refine hK.out _ _ (trivial) (fun hHeld => ?_)
    clear hK K
    (try simp only [Act.put, List.setIfInBounds_toArray, List.set_cons_zero, List.set_cons_succ, List.getElem_toArray, List.getElem_cons_succ, List.getElem_cons_zero])
    refine wpAnyH_ready (rs := [5]) (by kernel_rfl) (by simp) ?_
    refine AllReadyH.cons rfl (fun K hK => ?_) AllReadyH.nil
    go_simp
    (go_at_call 260; refine (HS10.out.drew.call1 CX.out).mono ?_; rintro e w11 ⟨J, ⟨k2, p2, n2, nm2, v2, es2, rfl, rfl, hx2, h12⟩, hs⟩; simp only [List.cons_append, List.nil_append] at hs; have HX2 := Lib.hid hx2; obtain ⟨q2, l2, cap2, rfl⟩ := hs.lsLen 1 rfl; have HS11 := Lib.hid hs; clear hs hx2)
    refine hK.out _ _ (trivial) (fun hHeld => ?_)
    clear hK K
    (try simp only [Act.put, List.setIfInBounds_toArray, List.set_cons_zero, List.set_cons_succ, List.getElem_toArray, List.getElem_cons_succ, List.getElem_cons_zero])
    refine wpAnyH_ready (rs := [6]) (by kernel_rfl) (by simp) ?_
    refine AllReadyH.cons rfl (fun K hK => ?_) AllReadyH.nil
    (refine wp_slice HS11.out rfl Tryz.underlying51 (exB _ _ _ _ _) ?_; intro b12 w12 hs; have HS12 := Lib.hid ((show St _ _ _ (_ :: _ :: _ :: _ :: _ :: _ :: _ :: _ :: _ :: []) from hs.out)); clear hs)
    refine hK.out _ _ (trivial) (fun hHeld => ?_)
    clear hK K
    (try simp only [Act.put, List.setIfInBounds_toArray, List.set_cons_zero, List.set_cons_succ, List.getElem_toArray, List.getElem_cons_succ, List.getElem_cons_zero])
    refine wpAnyH_ready (rs := [7]) (by kernel_rfl) (by simp) ?_
    refine AllReadyH.cons rfl (fun K hK => ?_) AllReadyH.nil
    (refine wp_append (HS12.out.mapAt 4 rfl row_own) 4 1 rfl rfl rfl Tryz.underlying51 exEl rfl (exOne rfl) (by decide) ?_; intro v3 w13 hs h13; obtain ⟨q3, cap3, rfl⟩ := hs.out.ownLen 4 rfl; have HS13 := Lib.hid (show St _ _ _ (_ :: _ :: _ :: _ :: _ :: _ :: _ :: _ :: _ :: []) from hs.out); clear hs)
    refine hK.out _ _ (trivial) (fun hHeld => ?_)
    clear hK K
    (try simp only [Act.put, List.setIfInBounds_toArray, List.set_cons_zero, List.set_cons_succ, List.getElem_toArray, List.getElem_cons_succ, List.getElem_cons_zero])
    refine tkH 8 ?_
    refine wpAnyH_ready (rs := [9]) (by kernel_rfl) (by simp) ?_
    refine AllReadyH.cons rfl (fun K hK => ?_) AllReadyH.nil
    (refine wp_store1 HS13.out 3 rfl rfl exprsO (of_decide_eq_true rfl) rfl ?_; intro w14 hs; have HS14 := Lib.hid (show St _ _ _ (_ :: _ :: _ :: _ :: _ :: _ :: _ :: _ :: _ :: []) from hs.out); clear hs)
    refine hK.out _ _ (trivial) (fun hHeld => ?_)
    clear hK K
    (try simp only [Act.put, List.setIfInBounds_toArray, List.set_cons_zero, List.set_cons_succ, List.getElem_toArray, List.getElem_cons_succ, List.getElem_cons_zero])
    refine wpAnyH_done (by kernel_rfl) ?_ _
    go_wp2_with (first
      | (refine wpl_loadS HS14.out 3 rfl rfl exT rfl ?_)
      | (refine wpl_storeS HS14.out 6 rfl rfl exT rfl fitsX' ?_; intro w15 hs; have HS15 := Lib.hid (show St _ _ _ (_ :: _ :: _ :: _ :: _ :: _ :: _ :: _ :: _ :: []) from hs.out); clear hs))
    refine bp_cell2 HS15.out 6 exT rfl rfl rfl rfl rfl ⟨_, ⟨_, _, _, [], _, [.mk k p n nm es, .mk k2 p2 n2 nm2 es2], Sx.step L x σ, true, rfl, rfl, fun h => ?_, rfl, ?_, ?_⟩, ?_⟩
    · rw [HST.out] at h ⊢; rw [HX.out, ← HX2.out h]
    · rw [decide_eq_true HY.out]
    · rw [if_pos HY.out]
    · rw [HST.out]
      exact (St.sel HS15.out [0, 3, 6, 1] rfl).to fun P h => h.under fun P h => lsI_two h
  · go_simp
    (go_at_call 260; refine (HS10.out.drew.call1 CX.out).mono ?_; rintro e w11 ⟨J, ⟨k2, p2, n2, nm2, v2, es2, rfl, rfl, hx2, h12⟩, hs⟩; simp only [List.cons_append, List.nil_append] at hs; have HX2 := Lib.hid hx2; obtain ⟨q2, l2, cap2, rfl⟩ := hs.lsLen 1 rfl; have HS11 := Lib.hid hs; clear hs hx2)
    refine hK.out _ _ (trivial) (fun hHeld => ?_)
    clear hK K
    (try simp only [Act.put, List.setIfInBounds_toArray, List.set_cons_zero, List.set_cons_succ, List.getElem_toArray, List.getElem_cons_succ, List.getElem_cons_zero])
    refine wpAnyH_ready (rs := [1, 6]) (by kernel_rfl) (by simp) ?_
    refine AllReadyH.cons rfl (fun K hK => ?_) (AllReadyH.cons rfl (fun K hK => ?_) AllReadyH.nil)
    · (refine wp_load1 HS11.out 2 rfl rfl exprsO rfl ?_)
      refine hK.out _ _ (trivial) (fun hHeld => ?_)
      clear hK K
      (try simp only [Act.put, List.setIfInBounds_toArray, List.set_cons_zero, List.set_cons_succ, List.getElem_toArray, List.getElem_cons_succ, List.getElem_cons_zero])
      refine wpAnyH_ready (rs := [6]) (by kernel_rfl) (by simp) ?_
      refine AllReadyH.cons rfl (fun K hK => ?_) AllReadyH.nil
      (refine wp_slice HS11.out rfl Tryz.underlying51 (exB _ _ _ _ _) ?_; intro b12 w12 hs; have HS12 := Lib.hid ((show St _ _ _ (_ :: _ :: _ :: _ :: _ :: _ :: _ :: _ :: _ :: []) from hs.out)); clear hs)
      refine hK.out _ _ (trivial) (fun hHeld => ?_)
      clear hK K
      (try simp only [Act.put, List.setIfInBounds_toArray, List.set_cons_zero, List.set_cons_succ, List.getElem_toArray, List.getElem_cons_succ, List.getElem_cons_zero])
      refine wpAnyH_ready (rs := [7]) (by kernel_rfl) (by simp) ?_
      refine AllReadyH.cons rfl (fun K hK => ?_) AllReadyH.nil
      (refine wp_append (HS12.out.mapAt 4 rfl row_own) 4 1 rfl rfl rfl Tryz.underlying51 exEl rfl (exOne rfl) (by decide) ?_; intro v3 w13 hs h13; obtain ⟨q3, cap3, rfl⟩ := hs.out.ownLen 4 rfl; have HS13 := Lib.hid (show St _ _ _ (_ :: _ :: _ :: _ :: _ :: _ :: _ :: _ :: _ :: []) from hs.out); clear hs)
      refine hK.out _ _ (trivial) (fun hHeld => ?_)
      clear hK K
      (try simp only [Act.put, List.setIfInBounds_toArray, List.set_cons_zero, List.set_cons_succ, List.getElem_toArray, List.getElem_cons_succ, List.getElem_cons_zero])
      refine tkH 8 ?_
      refine wpAnyH_ready (rs := [9]) (by kernel_rfl) (by simp) ?_
      refine AllReadyH.cons rfl (fun K hK => ?_) AllReadyH.nil
      (refine wp_store1 HS13.out 3 rfl rfl exprsO (of_decide_eq_true rfl) rfl ?_; intro w14 hs; have HS14 := Lib.hid (show St _ _ _ (_ :: _ :: _ :: _ :: _ :: _ :: _ :: _ :: _ :: []) from hs.out); clear hs)
      refine hK.out _ _ (trivial) (fun hHeld => ?_)
      clear hK K
      (try simp only [Act.put, List.setIfInBounds_toArray, List.set_cons_zero, List.set_cons_succ, List.getElem_toArray, List.getElem_cons_succ, List.getElem_cons_zero])
      refine wpAnyH_done (by kernel_rfl) ?_ _
      go_wp2_with (first
        | (refine wpl_loadS HS14.out 3 rfl rfl exT rfl ?_)
        | (refine wpl_storeS HS14.out 6 rfl rfl exT rfl fitsX' ?_; intro w15 hs; have HS15 := Lib.hid (show St _ _ _ (_ :: _ :: _ :: _ :: _ :: _ :: _ :: _ :: _ :: []) from hs.out); clear hs))
      refine bp_cell2 HS15.out 6 exT rfl rfl rfl rfl rfl ⟨_, ⟨_, _, _, [], _, [.mk k p n nm es, .mk k2 p2 n2 nm2 es2], Sx.step L x σ, true, rfl, rfl, fun h => ?_, rfl, ?_, ?_⟩, ?_⟩
      · rw [HST.out] at h ⊢; rw [HX.out, ← HX2.out h]
      · rw [decide_eq_true HY.out]
      · rw [if_pos HY.out]
      · rw [HST.out]
        exact (St.sel HS15.out [0, 3, 6, 1] rfl).to fun P h => h.under fun P h => lsI_two h
    · (refine wp_slice HS11.out rfl Tryz.underlying51 (exB _ _ _ _ _) ?_; intro b12 w12 hs; have HS12 := Lib.hid ((show St _ _ _ (_ :: _ :: _ :: _ :: _ :: _ :: _ :: _ :: _ :: []) from hs.out)); clear hs)
      refine hK.out _ _ (trivial) (fun hHeld => ?_)
      clear hK K
      (try simp only [Act.put, List.setIfInBounds_toArray, List.set_cons_zero, List.set_cons_succ, List.getElem_toArray, List.getElem_cons_succ, List.getElem_cons_zero])
      refine wpAnyH_ready (rs := [1]) (by kernel_rfl) (by simp) ?_
      refine AllReadyH.cons rfl (fun K hK => ?_) AllReadyH.nil
      (refine wp_load1 HS12.out 3 rfl rfl exprsO rfl ?_)
      refine hK.out _ _ (trivial) (fun hHeld => ?_)
      clear hK K
      (try simp only [Act.put, List.setIfInBounds_toArray, List.set_cons_zero, List.set_cons_succ, List.getElem_toArray, List.getElem_cons_succ, List.getElem_cons_zero])
      refine wpAnyH_ready (rs := [7]) (by kernel_rfl) (by simp) ?_
      refine AllReadyH.cons rfl (fun K hK => ?_) AllReadyH.nil
      (refine wp_append (HS12.out.mapAt 4 rfl row_own) 4 1 rfl rfl rfl Tryz.underlying51 exEl rfl (exOne rfl) (by decide) ?_; intro v3 w13 hs h13; obtain ⟨q3, cap3, rfl⟩ := hs.out.ownLen 4 rfl; have HS13 := Lib.hid (show St _ _ _ (_ :: _ :: _ :: _ :: _ :: _ :: _ :: _ :: _ :: []) from hs.out); clear hs)
      refine hK.out _ _ (trivial) (fun hHeld => ?_)
      clear hK K
      (try simp only [Act.put, List.setIfInBounds_toArray, List.set_cons_zero, List.set_cons_succ, List.getElem_toArray, List.getElem_cons_succ, List.getElem_cons_zero])
      refine tkH 8 ?_
      refine wpAnyH_ready (rs := [9]) (by kernel_rfl) (by simp) ?_
      refine AllReadyH.cons rfl (fun K hK => ?_) AllReadyH.nil
      (refine wp_store1 HS13.out 3 rfl rfl exprsO (of_decide_eq_true rfl) rfl ?_; intro w14 hs; have HS14 := Lib.hid (show St _ _ _ (_ :: _ :: _ :: _ :: _ :: _ :: _ :: _ :: _ :: []) from hs.out); clear hs)
      refine hK.out _ _ (trivial) (fun hHeld => ?_)
      clear hK K
      (try simp only [Act.put, List.setIfInBounds_toArray, List.set_cons_zero, List.set_cons_succ, List.getElem_toArray, List.getElem_cons_succ, List.getElem_cons_zero])
      refine wpAnyH_done (by kernel_rfl) ?_ _
      go_wp2_with (first
        | (refine wpl_loadS HS14.out 3 rfl rfl exT rfl ?_)
        | (refine wpl_storeS HS14.out 6 rfl rfl exT rfl fitsX' ?_; intro w15 hs; have HS15 := Lib.hid (show St _ _ _ (_ :: _ :: _ :: _ :: _ :: _ :: _ :: _ :: _ :: []) from hs.out); clear hs))
      refine bp_cell2 HS15.out 6 exT rfl rfl rfl rfl rfl ⟨_, ⟨_, _, _, [], _, [.mk k p n nm es, .mk k2 p2 n2 nm2 es2], Sx.step L x σ, true, rfl, rfl, fun h => ?_, rfl, ?_, ?_⟩, ?_⟩
      · rw [HST.out] at h ⊢; rw [HX.out, ← HX2.out h]
      · rw [decide_eq_true HY.out]
      · rw [if_pos HY.out]
      · rw [HST.out]
        exact (St.sel HS15.out [0, 3, 6, 1] rfl).to fun P h => h.under fun P h => lsI_two h
end Go.Proofs.YtjfdcnggnldgdaaGreatDoor
end
