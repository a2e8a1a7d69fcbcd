/-
Expressions: what is handed over, an index, a sign between two.
-/
import Derived.Test.YtbnhegipdfkdgaaDoorP22a
namespace Go.Proofs.YtbnhegipdfkdgaaDoor
open Go.ChangeShapes Go.WideShapes Go.ChangeAt Go.RowKit
set_option linter.unusedVariables false
set_option linter.unusedSimpArgs false

/-! ### what the token at hand tells of signs -/
theorem Sx.tight_head : ∀ x ∈ Sx.tights, (match x.1 with | c :: _ => Lx.letter c | [] => true) = false := by decide
theorem Sx.tight_kw : ∀ x ∈ Sx.tights, Sx.kw x.1 = true := by decide
theorem Sx.tight_letter {c : UInt8} {r : List UInt8} (h : Lx.letter c = true) : Sx.tight (c :: r) = (0, 0) := by
  unfold Sx.tight
  split
  · rename_i x hx
    have h1 := List.mem_of_find?_eq_some hx
    have h2 := List.find?_some hx
    have h3 := Sx.tight_head x h1
    have h4 : x.1 = c :: r := by simpa using h2
    rw [h4] at h3
    exact absurd (h.symm.trans h3) (by decide)
  · rfl
theorem Sx.kw_tight {s : List UInt8} (h : (Sx.tight s).1 ≠ 0) : Sx.kw s = true := by
  unfold Sx.tight at h
  split at h
  · rename_i x hx
    have h1 := List.mem_of_find?_eq_some hx
    have h2 := List.find?_some hx
    have h4 : x.1 = s := by simpa using h2
    rw [← h4]
    exact Sx.tight_kw x h1
  · exact absurd rfl h
/-- the text of the token at hand, where it is no word and no sign -/
theorem Sx.pk_other {L : List Lx.Tok} (hL : Sx.Ok L) {σ : Sx.R} (hi : σ.at' < L.length) (h : ¬ (σ.err = 0 ∧ (Sx.pk L σ).text = Sx.text L σ)) : ((Sx.pk L σ).text = [] ∨ ∃ c r, (Sx.pk L σ).text = c :: r ∧ Lx.letter c = true) ∧ (σ.err = 0 → Sx.text L σ = []) := by
  by_cases he : σ.err = 0
  · obtain ⟨h1, h2, h3⟩ := hL.clean _ (Sx.pk_in hi)
    by_cases hk : (Sx.tk L σ).kind = 3 ∨ (Sx.tk L σ).kind = 4
    · exact absurd ⟨he, by unfold Sx.text; rw [if_pos hk, Sx.pk_tk he]⟩ h
    · refine ⟨?_, fun _ => by unfold Sx.text; rw [if_neg hk]⟩
      rw [← Sx.pk_tk he] at hk
      rcases h3 with h3 | h3 | h3 | h3 | h3
      · exact Or.inl (h2 (Or.inr h3))
      · obtain ⟨⟨c, r, hc, hl⟩, _⟩ := h1 h3
        exact Or.inr ⟨c, r, hc, hl⟩
      · exact Or.inl (h2 (Or.inl h3))
      · exact absurd (Or.inl h3) hk
      · exact absurd (Or.inr h3) hk
  · exact ⟨Or.inl (Sx.end_tok hL.ends hL.clean hi he).2, fun h => absurd h he⟩
theorem Sx.pk_tight {L : List Lx.Tok} (hL : Sx.Ok L) {σ : Sx.R} (hi : σ.at' < L.length) {l : Nat} (hl : l ≠ 0) : (Sx.tight (Sx.pk L σ).text).1 = l ↔ σ.err = 0 ∧ (Sx.tight (Sx.text L σ)).1 = l := by
  by_cases h : σ.err = 0 ∧ (Sx.pk L σ).text = Sx.text L σ
  · rw [h.2]; exact ⟨fun h1 => ⟨h.1, h1⟩, fun h1 => h1.2⟩
  · obtain ⟨h1, h2⟩ := Sx.pk_other hL hi h
    have h3 : Sx.tight (Sx.pk L σ).text = (0, 0) := by
      rcases h1 with h1 | ⟨c, r, hc, hl⟩
      · rw [h1]; exact Sx.tight_nil
      · rw [hc]; exact Sx.tight_letter hl
    rw [h3]
    refine ⟨fun h4 => absurd h4.symm hl, fun h4 => ?_⟩
    have h5 := h4.2
    rw [h2 h4.1, Sx.tight_nil] at h5
    exact h5
theorem Sx.pk_text {L : List Lx.Tok} (hL : Sx.Ok L) {σ : Sx.R} (hi : σ.at' < L.length) (he : σ.err = 0) (ht : Sx.text L σ ≠ []) : (Sx.pk L σ).text = Sx.text L σ := by
  apply Classical.byContradiction
  intro h
  exact ht ((Sx.pk_other hL hi (fun h1 => h h1.2)).2 he)
theorem Sx.tight_ne {s : List UInt8} (h : (Sx.tight s).1 ≠ 0) : s ≠ [] := by rintro rfl; exact h (by rw [Sx.tight_nil])
theorem Sx.pk_ahead {L : List Lx.Tok} (hL : Sx.Ok L) {σ : Sx.R} (hi : σ.at' < L.length) : Sx.aheadK (Sx.pk L σ).text = if σ.err = 0 then Sx.aheadK (Sx.text L σ) else 0 := by
  by_cases h : σ.err = 0 ∧ (Sx.pk L σ).text = Sx.text L σ
  · rw [h.2, if_pos h.1]
  · obtain ⟨h1, h2⟩ := Sx.pk_other hL hi h
    have h3 : Sx.aheadK (Sx.pk L σ).text = 0 := by
      rcases h1 with h1 | ⟨c, r, hc, hl⟩
      · rw [h1]; rfl
      · rw [hc]
        unfold Sx.aheadK
        have hne : ∀ d : UInt8, Lx.letter d = false → ¬ (c :: r = [d]) := by
          intro d hd e
          rw [List.cons.injEq] at e
          rw [e.1, hd] at hl
          cases hl
        rw [if_neg (hne 126 (by decide)), if_neg (hne 45 (by decide)), if_neg (hne 33 (by decide))]
    rw [h3]
    split
    · rename_i he; rw [h2 he]; rfl
    · rfl
/-! ### functions with two results -/
theorem bp_cell2 {fn : Func} {R : Ending → World → Prop} {a : Act} {w w0 : World} {X : Nat → Prop} {I : List It} {p q : Tmp} {t : TypeId} {n b : Nat} {cs : Array Value} (h : St X w0 w I) (i : Nat) (T : StructT t n) (hr : fn.results = #[.cell p t, .tmp q]) (hp : a.tmps.getD p undef = .pointer (some ⟨b, 0, none⟩))
    (hI : I[i]? = some (.row b t cs)) (hn : cs.size = n) (hd : a.defers = []) (hR : R (.returned (.tuple #[.agg cs, a.tmps.getD q undef])) w) : bodyPost Tryd.prog fn R .ret a w :=
  bp_blk2 T hr hp ⟨h.row i hI, hn⟩ hd hR
def CU (b : Nat) (L : List Lx.Tok) (σ : Sx.R) : Prop := Fn 81 #[.pointer (some ⟨b, 0, none⟩)] [rd b L σ] (EP b L (Sx.U L σ))
def CC (b : Nat) (L : List Lx.Tok) (z : Int) (l : Nat) (σ : Sx.R) : Prop := Fn 78 #[.pointer (some ⟨b, 0, none⟩), .int .i64 z] [rd b L σ] (EP b L (Sx.X L l σ))
set_option maxHeartbeats 8000000 in
set_option maxRecDepth 100000 in
theorem index_fn (b : Nat) (L : List Lx.Tok) (hL : Sx.Ok L) (σ : Sx.R) (hE : CE b L (Sx.nest L [91] σ)) : Fn 73 #[.pointer (some ⟨b, 0, none⟩)] [rd b L σ]
    (EP b L ((Sx.X L 0 (Sx.nest L [91] σ)).1, Sx.unnest L [93] (Sx.X L 0 (Sx.nest L [91] σ)).2)) := by
  intro w P hP h0
  have HS := Lib.hid (St.start hP h0)
  have C1 := Lib.hid (open_fn b L hL σ [91] (by decide))
  have ho0 := HS.out.opn0
  have hop : (Sx.nest L [91] σ).opn = σ.opn + 1 := Sx.op_nest L [91] σ
  have herr0 : (Sx.nest L [91] σ).err = 0 → σ.err = 0 := fun h => Sx.nest_err hL (by decide) h
  have hn1 := (Sx.le_nest hL.ends [91] (by decide) σ).2.2.1 HS.out.at'
  have CX := Lib.hid hE
  have C2 := Lib.hid (shut_fn b L hL (Sx.X L 0 (Sx.nest L [91] σ)).2 [93] (by decide) (fun h => by
    have h1 : (Sx.X L 0 (Sx.nest L [91] σ)).2.err = 0 := Sx.unnest_err (s := [93]) h
    have h2 : (Sx.nest L [91] σ).err = 0 := by
      apply Classical.byContradiction
      intro h3
      rw [Sx.X_err hL.ends hn1 h3] at h1
      exact h3 h1
    have := ho0 (herr0 h2)
    rw [Sx.op_X, hop]; omega))
  clear h0 hP hL hE ho0 hop herr0 hn1
  go_enter Tryd.func73, Tryd.ntmps73
  go_wp2_with (first
    | (refine wpl_alloc HS.out _ rfl exZ ?_; intro b1 w1 HS1; clear HS)
    | (go_at_call 46; refine (HS1.out.call1 C1.out).mono ?_; rintro e w2 ⟨J, ⟨rfl, rfl⟩, hs⟩; simp only [List.cons_append, List.nil_append] at hs; have HS2 := Lib.hid hs; clear hs)
    | (go_at_call 71; refine (HS2.out.call1 CX.out).mono ?_; rintro e w3 ⟨J, ⟨k2, p2, n2, nm2, v2, es2, rfl, rfl, hx2, h12⟩, hs⟩; simp only [List.cons_append, List.nil_append] at hs; have HS3 := Lib.hid hs; have HX2 := Lib.hid hx2; clear hs hx2)
    | (refine wpl_alloc HS3.out _ rfl exZ ?_; intro b4 w4 HS4)
    | (first | (refine wpl_storeS HS4.out 1 rfl rfl exT rfl (fitsX h12) ?_; intro w5 hs; have HS5 := Lib.hid (show St _ _ _ (_ :: _ :: _ :: _ :: []) from hs.out); clear hs HS4) | (refine wpl_storeS HS6.out 3 rfl rfl exT rfl (fitsX h12) ?_; intro w7 hs; have HS7 := Lib.hid (show St _ _ _ (_ :: _ :: _ :: _ :: []) from hs.out); clear hs))
    | (go_at_call 48; refine (HS5.out.call1 C2.out).mono ?_; rintro e w6 ⟨J, ⟨rfl, rfl⟩, hs⟩; simp only [List.cons_append, List.nil_append] at hs; have HS6 := Lib.hid hs; clear hs)
    | (refine wpl_loadS HS6.out 1 rfl rfl exT rfl ?_))
  refine bp_cell HS7.out 3 exT rfl rfl rfl rfl rfl ⟨_, ⟨k2, p2, n2, nm2, v2, es2, rfl, rfl, fun h => HX2.out (Sx.unnest_err h), h12⟩, HS7.out.sel [0, 1] rfl⟩
theorem St.lsLen {X : Nat → Prop} {w0 w : World} {I : List It} (h : St X w0 w I) (i : Nat) {v : Value} {es : List Sx.E} (hi : I[i]? = some (lsI v es)) : ∃ q n cap, v = .slice q n cap := by
  obtain ⟨A, B, h1, h2, h3, h4, h5⟩ := Sep.pick i h.sep hi
  obtain ⟨xs, C, D, h6, h7, h8, h9, h10⟩ := h4
  obtain ⟨q, cap, hv⟩ := own_len h9
  exact ⟨q, _, cap, hv⟩
theorem tokOne (k p n : Int) (s : ByteArray) : (Value.agg (tkA k p n s)).cells = tkA k p n s := rfl
set_option maxHeartbeats 8000000 in
set_option maxRecDepth 100000 in
theorem call_fn (b : Nat) (L : List Lx.Tok) (hL : Sx.Ok L) (σ : Sx.R) (hE : ∀ τ, Sx.M L τ ≤ Sx.M L σ → CE b L τ) (k p n : Int) (nm : List UInt8) : Fn 72 #[.pointer (some ⟨b, 0, none⟩), .agg (tkA k p n (Lx.S nm))] [rd b L σ]
    (EP b L (.mk 4 p 0 nm (Sx.Ar L 0 (Sx.nest L [40] σ)).1, Sx.unnest L [41] (Sx.Ar L 0 (Sx.nest L [40] σ)).2)) := by
  intro w P hP h0
  have HS := Lib.hid (St.start hP h0)
  have C1 := Lib.hid (list_args b L hL σ 65536 rfl hE)
  have hmf : ∀ (fn : Go.Fn) (first cap : Array Value) (w : World), (Instr.makeFunc fn first cap).run Tryd.prog w = .ok (.func fn first cap) w := fun _ _ _ _ => rfl
  clear h0 hP hL hE
  go_enter Tryd.func72, Tryd.ntmps72
  go_wp2_with (first
    | (refine wpl_box HS.out rfl rfl ?_; intro b1 w1 HS1; clear HS)
    | (refine wpl_alloc HS1.out _ rfl exZ ?_; intro b2 w2 HS2; clear HS1))
  refine wp_region_held_drew (S := fun w' => w'.cell? ⟨b1, 1, none⟩ = some (.int .i64 p) ∧ w'.cell? ⟨b1, 3, none⟩ = some (.string (Lx.S nm))) (by kernel_rfl) (⟨HS2.out.drew.cell 2 rfl 1, HS2.out.drew.cell 2 rfl 3⟩) (fun hHeld => ?_)
  refine wpAnyH_take (i := 0) (v := ?_) rfl (by kernel_rfl) (by kernel_rfl) (by kernel_rfl) (fun _ _ _ h => h) (Or.inl ⟨by rfl, ?_⟩) (by assumption) ?_
  rotate_left
  · intro w hSw
    (try dsimp only at hSw)
    go_simp
    (try with_reducible rfl)
  (try simp only [Act.put, List.setIfInBounds_toArray, List.set_cons_zero, List.set_cons_succ, List.getElem_toArray, List.getElem_cons_succ, List.getElem_cons_zero])
  refine wpAnyH_take (i := 1) (v := ?_) rfl (by kernel_rfl) (by kernel_rfl) (by kernel_rfl) (fun _ _ _ h => h) (Or.inl ⟨by rfl, ?_⟩) (by assumption) ?_
  rotate_left
  · intro w hSw
    (try dsimp only at hSw)
    go_simp
    (try with_reducible rfl)
  (try simp only [Act.put, List.setIfInBounds_toArray, List.set_cons_zero, List.set_cons_succ, List.getElem_toArray, List.getElem_cons_succ, List.getElem_cons_zero])
  refine wpAnyH_take (i := 2) (v := ?_) rfl (by kernel_rfl) (by kernel_rfl) (by kernel_rfl) (fun _ _ _ h => h) (Or.inl ⟨by rfl, ?_⟩) (by assumption) ?_
  rotate_left
  · intro w hSw
    (try dsimp only at hSw)
    go_simp
    (try with_reducible rfl)
  (try simp only [Act.put, List.setIfInBounds_toArray, List.set_cons_zero, List.set_cons_succ, List.getElem_toArray, List.getElem_cons_succ, List.getElem_cons_zero])
  refine wpAnyH_take (i := 3) (v := ?_) rfl (by kernel_rfl) (by kernel_rfl) (by kernel_rfl) (fun _ _ _ h => h) (Or.inl ⟨by rfl, ?_⟩) (by assumption) ?_
  rotate_left
  · intro w hSw
    (try dsimp only at hSw)
    go_simp
    (try with_reducible rfl)
  (try simp only [Act.put, List.setIfInBounds_toArray, List.set_cons_zero, List.set_cons_succ, List.getElem_toArray, List.getElem_cons_succ, List.getElem_cons_zero])
  refine wpAnyH_take (i := 4) (v := ?_) rfl (by kernel_rfl) (by kernel_rfl) (by kernel_rfl) (fun _ _ _ h => h) (Or.inl ⟨by rfl, ?_⟩) (by assumption) ?_
  rotate_left
  · intro w hSw
    (try dsimp only at hSw)
    go_simp
    (try with_reducible rfl)
  (try simp only [Act.put, List.setIfInBounds_toArray, List.set_cons_zero, List.set_cons_succ, List.getElem_toArray, List.getElem_cons_succ, List.getElem_cons_zero])
  refine wpAnyH_take (i := 5) (v := ?_) rfl (by kernel_rfl) (by kernel_rfl) (by kernel_rfl) (fun _ _ _ h => h) (Or.inl ⟨by rfl, ?_⟩) (by assumption) ?_
  rotate_left
  · intro w hSw
    (try dsimp only at hSw)
    go_simp
    (try with_reducible rfl)
  (try simp only [Act.put, List.setIfInBounds_toArray, List.set_cons_zero, List.set_cons_succ, List.getElem_toArray, List.getElem_cons_succ, List.getElem_cons_zero])
  refine wpAnyH_take (i := 6) (v := ?_) rfl (by kernel_rfl) (by kernel_rfl) (by kernel_rfl) (fun _ _ _ h => h) (Or.inl ⟨by rfl, ?_⟩) (by assumption) ?_
  rotate_left
  · intro w hSw
    (try dsimp only at hSw)
    go_simp
    (try with_reducible rfl)
  (try simp only [Act.put, List.setIfInBounds_toArray, List.set_cons_zero, List.set_cons_succ, List.getElem_toArray, List.getElem_cons_succ, List.getElem_cons_zero])
  refine wpAnyH_ready (rs := [7]) (by kernel_rfl) (by simp) ?_
  refine AllReadyH.cons rfl (fun K hK => ?_) AllReadyH.nil
  go_simp
  (go_at_call 79; refine (HS2.out.drew.call1 C1.out).mono ?_; rintro e w3 ⟨J, ⟨v2, es2, rfl, rfl, hx2, h12⟩, hs⟩; simp only [List.cons_append, List.nil_append] at hs; have HS3 := Lib.hid hs; have HX2 := Lib.hid hx2; obtain ⟨q2, l2, cap2, rfl⟩ := hs.lsLen 1 rfl; clear hs hx2)
  refine hK.out _ _ (⟨HS3.out.cell 3 rfl 1, HS3.out.cell 3 rfl 3⟩) (fun hHeld => ?_)
  clear hK K
  (try simp only [Act.put, List.setIfInBounds_toArray, List.set_cons_zero, List.set_cons_succ, List.getElem_toArray, List.getElem_cons_succ, List.getElem_cons_zero])
  refine wpAnyH_take (i := 8) (v := ?_) rfl (by kernel_rfl) (by kernel_rfl) (by kernel_rfl) (fun _ _ _ h => h) (Or.inl ⟨by rfl, ?_⟩) (by assumption) ?_
  rotate_left
  · intro w hSw
    (try dsimp only at hSw)
    go_simp
    (try with_reducible rfl)
  (try simp only [Act.put, List.setIfInBounds_toArray, List.set_cons_zero, List.set_cons_succ, List.getElem_toArray, List.getElem_cons_succ, List.getElem_cons_zero])
  refine wpAnyH_ready (rs := [9]) (by kernel_rfl) (by simp) ?_
  refine AllReadyH.cons rfl (fun K hK => ?_) AllReadyH.nil
  (refine wp_storeS HS3.out 2 ⟨rfl, rfl⟩ rfl exT rfl (fitsX h12) ?_; intro w4 hs; have HS4 := Lib.hid (show St _ _ _ (_ :: _ :: _ :: _ :: []) from hs.out); clear hs)
  refine hK.out _ _ (⟨HS4.out.cell 3 rfl 1, HS4.out.cell 3 rfl 3⟩) (fun hHeld => ?_)
  clear hK K
  (try simp only [Act.put, List.setIfInBounds_toArray, List.set_cons_zero, List.set_cons_succ, List.getElem_toArray, List.getElem_cons_succ, List.getElem_cons_zero])
  refine wpAnyH_done (by kernel_rfl) ?_ _
  try go_wp2
  try simp only [Exit.inBlock, Exit.then]
  refine bp_cell HS4.out 2 exT rfl rfl rfl rfl rfl ⟨_, ⟨4, p, 0, nm, _, es2, rfl, rfl, fun h => by rw [HX2.out h], h12⟩, HS4.out.sel [0, 0] rfl⟩
end Go.Proofs.YtbnhegipdfkdgaaDoor
