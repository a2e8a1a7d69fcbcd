/-
  Plain mathematics of layer 12: trees of a text are small: their places, and how many parts there are.
-/
import Derived.Test.YtbnhegipdfkdgaaDoorP12a
set_option linter.unusedVariables false
set_option linter.unusedSimpArgs false
namespace Go.Proofs.YtbnhegipdfkdgaaDoor

def Sx.sp (p : Int) : Prop := -1000000 ≤ p ∧ p ≤ 1000000
def Sx.sl (n : Nat) : Prop := n ≤ 281474976710656
mutual
/-- an expression whose positions and lists are small, however deep -/
def smE : Sx.E → Prop
  | .mk _ p _ _ ar => (Sx.sp p ∧ Sx.sl ar.length) ∧ smL ar
def smL : List Sx.E → Prop
  | [] => True
  | e :: es => smE e ∧ smL es
end
mutual
def smS : Sx.S → Prop
  | .mk _ p _ _ _ ar bs cs _ => (Sx.sp p ∧ Sx.sl ar.length ∧ Sx.sl bs.length ∧ Sx.sl cs.length) ∧ smL ar ∧ smSL bs ∧ smSL cs
def smSL : List Sx.S → Prop
  | [] => True
  | e :: es => smS e ∧ smSL es
end
def smP (x : Sx.Pa) : Prop := Sx.sp x.pos
def smF (x : Sx.F) : Prop := Sx.sp x.pos ∧ Sx.sl x.params.length ∧ (∀ y ∈ x.params, smP y) ∧ Sx.sl x.body.length ∧ smSL x.body
/-- tokens whose places are small -/
def Sx.Near (L : List Lx.Tok) : Prop := ∀ x ∈ L, x.pos ≤ 1000000
theorem Sx.sp_nat {n : Nat} (h : n ≤ 1000000) : Sx.sp (n : Int) := ⟨by omega, by omega⟩
theorem Sx.sp_zero : Sx.sp 0 := ⟨by decide, by decide⟩
theorem smL_mem : ∀ {l : List Sx.E}, smL l → ∀ e ∈ l, smE e
  | [], _, e, h => by cases h
  | x :: l, h, e, he => by
    rw [smL] at h
    rcases List.mem_cons.1 he with h1 | h1
    · rw [h1]; exact h.1
    · exact smL_mem h.2 e h1
theorem smSL_mem : ∀ {l : List Sx.S}, smSL l → ∀ e ∈ l, smS e
  | [], _, e, h => by cases h
  | x :: l, h, e, he => by
    rw [smSL] at h
    rcases List.mem_cons.1 he with h1 | h1
    · rw [h1]; exact h.1
    · exact smSL_mem h.2 e h1
theorem smE_mk {k p n : Int} {nm : List UInt8} {ar : List Sx.E} (hp : Sx.sp p) (hl : Sx.sl ar.length) (h : smL ar) : smE (.mk k p n nm ar) := by rw [smE]; exact ⟨⟨hp, hl⟩, h⟩
theorem smL_nil : smL [] := by rw [smL]; trivial
theorem smSL_nil : smSL [] := by rw [smSL]; trivial
theorem smL_one {e : Sx.E} (h : smE e) : smL [e] := by rw [smL]; exact ⟨h, smL_nil⟩
theorem smL_two {e f : Sx.E} (h : smE e) (g : smE f) : smL [e, f] := by rw [smL]; exact ⟨h, smL_one g⟩
theorem smL_cons {e : Sx.E} {l : List Sx.E} (h : smE e) (g : smL l) : smL (e :: l) := by rw [smL]; exact ⟨h, g⟩
theorem smSL_cons {e : Sx.S} {l : List Sx.S} (h : smS e) (g : smSL l) : smSL (e :: l) := by rw [smSL]; exact ⟨h, g⟩
theorem smE_no : smE Sx.noE := smE_mk Sx.sp_zero (by unfold Sx.sl; decide) smL_nil
theorem smE_arg {e : Sx.E} (h : smE e) : smL e.args ∧ Sx.sl e.args.length := by
  obtain ⟨k, p, n, nm, ar⟩ := e
  rw [smE] at h
  exact ⟨h.2, h.1.2⟩
theorem Sx.sl_le {n : Nat} (h : n ≤ 4294967296) : Sx.sl n := by unfold Sx.sl; omega
section
variable {L : List Lx.Tok} (hL : Sx.Near L)
include hL
theorem Sx.tk_near (σ : Sx.R) : (Sx.tk L σ).pos ≤ 1000000 := by
  unfold Sx.tk
  rw [List.getD_eq_getElem?_getD]
  cases h : L[σ.at']? with
  | none => exact Nat.zero_le _
  | some x => exact hL x (List.mem_of_getElem? h)
theorem Sx.some_near (k : Int) (σ : Sx.R) : (Sx.some L k σ).1.pos ≤ 1000000 := by
  unfold Sx.some
  split
  · exact Nat.zero_le _
  · split
    · exact Nat.zero_le _
    · exact Sx.tk_near hL σ
theorem Sx.sm_exprs (f : Nat) : f ≤ 4294967296 →
    (∀ t σ, smE (Sx.expr L f t σ).1) ∧ (∀ t m c x σ, smE x → smE (Sx.signs L f t m c x σ).1) ∧ (∀ σ, smE (Sx.unary L f σ).1) ∧ (∀ s σ, smE (Sx.word L f s σ).1) ∧
    (∀ n b σ, smL (Sx.many L f n b σ).1 ∧ (Sx.many L f n b σ).1.length ≤ f) ∧ (∀ (t : Lx.Tok) σ, t.pos ≤ 1000000 → smE (Sx.behind L f t σ).1) ∧ (∀ σ, smL (Sx.commas L f σ).1 ∧ (Sx.commas L f σ).1.length ≤ f) := by
  induction f with
  | zero =>
    intro _
    refine ⟨fun t σ => ?_, fun t m c x σ h => ?_, fun σ => ?_, fun s σ => ?_, fun n b σ => ?_, fun t σ h => ?_, fun σ => ?_⟩
    · rw [Sx.expr]; exact smE_no
    · rw [Sx.signs]; exact h
    · rw [Sx.unary]; exact smE_no
    · rw [Sx.word]; exact smE_no
    · rw [Sx.many]; exact ⟨smL_nil, Nat.le_refl _⟩
    · rw [Sx.behind]; exact smE_no
    · rw [Sx.commas]; exact ⟨smL_nil, Nat.le_refl _⟩
  | succ f ih =>
    intro hf
    obtain ⟨i1, i2, i3, i4, i5, i6, i7⟩ := ih (by omega)
    have hn := fun σ => Sx.sp_nat (Sx.tk_near hL σ)
    have l1 : ∀ x : Sx.E, Sx.sl [x].length := fun _ => Sx.sl_le (by simp)
    have l2 : ∀ x y : Sx.E, Sx.sl [x, y].length := fun _ _ => Sx.sl_le (by simp)
    refine ⟨fun t σ => ?_, fun t m c x σ h => ?_, fun σ => ?_, fun s σ => ?_, fun n b σ => ?_, fun t σ h => ?_, fun σ => ?_⟩
    · rw [Sx.expr]; exact i2 _ _ _ _ _ (i3 σ)
    · rw [Sx.signs]
      split
      · exact h
      · simp only []
        split
        · exact h
        · split
          · exact i2 _ _ _ _ _ (smE_mk (hn σ) (l1 _) (smL_one h))
          · exact i2 _ _ _ _ _ (smE_mk (hn σ) (l2 _ _) (smL_two h (i1 _ _)))
    · rw [Sx.unary]
      split
      · exact smE_no
      · simp only []
        split
        · exact i1 _ _
        · split
          · exact smE_mk (hn σ) (l1 _) (smL_one (i3 _))
          · exact i4 _ _
    · rw [Sx.word]
      simp only []
      split
      · have h5 := i5 (by assumption : List UInt8 × Int × Nat).2.2 true (Sx.nest L [40] { σ with at' := σ.at' + 1 })
        split
        · exact smE_mk (hn σ) (Sx.sl_le (by omega)) h5.1
        · exact smE_mk (hn σ) (Sx.sl_le (by omega)) h5.1
      · split
        · exact smE_mk (hn σ) (Sx.sl_le (by simp)) smL_nil
        · exact i6 _ _ (Sx.some_near hL 1 σ)
    · cases n with
      | zero => rw [Sx.many]; exact ⟨smL_nil, Nat.zero_le _⟩
      | succ n =>
        rw [Sx.many]
        simp only []
        have h5 := i5 n false (Sx.expr L f 0 (if b = true then σ else Sx.eat L [44] σ)).2
        exact ⟨smL_cons (i1 _ _) h5.1, by rw [List.length_cons]; omega⟩
    · have ht := Sx.sp_nat h
      rw [Sx.behind]
      simp only []
      split
      · split
        · exact smE_mk ht (Sx.sl_le (by simp)) smL_nil
        · have h7 := i7 (Sx.expr L f 0 (Sx.nest L [40] σ)).2
          exact smE_mk ht (Sx.sl_le (by rw [List.length_cons]; omega)) (smL_cons (i1 _ _) h7.1)
      · split
        · exact smE_mk ht (l1 _) (smL_one (i1 _ _))
        · exact smE_mk ht (Sx.sl_le (by simp)) smL_nil
    · rw [Sx.commas]
      split
      · simp only []
        have h7 := i7 (Sx.expr L f 0 (Sx.may L [44] σ).2).2
        exact ⟨smL_cons (i1 _ _) h7.1, by rw [List.length_cons]; omega⟩
      · exact ⟨smL_nil, Nat.zero_le _⟩
variable (hN : Sx.fuel L ≤ 4294967296)
include hN
theorem Sx.sm_ex (σ : Sx.R) : smE (Sx.ex L σ).1 := (Sx.sm_exprs hL _ hN).1 0 σ
theorem Sx.sm_value (l : List Sx.E) (σ : Sx.R) (h : smL l) (hl : l.length ≤ 4294967296) : smL (Sx.value L l σ).1 ∧ Sx.sl (Sx.value L l σ).1.length := by
  unfold Sx.value
  simp only []
  refine ⟨?_, by unfold Sx.sl; rw [List.length_append, List.length_singleton]; omega⟩
  have h1 := Sx.sm_ex hL hN σ
  clear hl
  induction l with
  | nil => exact smL_one h1
  | cons e l ih =>
    rw [smL] at h
    rw [List.cons_append]
    exact smL_cons h.1 (ih h.2)
theorem Sx.sm_behind (t : Lx.Tok) (σ : Sx.R) (h : t.pos ≤ 1000000) : smE (Sx.behind L (Sx.fuel L) t σ).1 := (Sx.sm_exprs hL _ hN).2.2.2.2.2.1 t σ h
omit hL hN in
theorem smS_mk {k p m : Int} {nm : List UInt8} {ty : Sx.Ty} {ar : List Sx.E} {bs cs : List Sx.S} {h : Bool} (hp : Sx.sp p) (ha : smL ar ∧ Sx.sl ar.length) (hb : smSL bs ∧ Sx.sl bs.length) (hc : smSL cs ∧ Sx.sl cs.length) : smS (.mk k p m nm ty ar bs cs h) := by
  rw [smS]; exact ⟨⟨hp, ha.2, hb.2, hc.2⟩, ha.1, hb.1, hc.1⟩
omit hL hN in
theorem smSL_no : smSL [] ∧ Sx.sl ([] : List Sx.S).length := ⟨smSL_nil, Sx.sl_le (by simp)⟩
omit hL hN in
theorem smL_no : smL [] ∧ Sx.sl ([] : List Sx.E).length := ⟨smL_nil, Sx.sl_le (by simp)⟩
omit hL hN in
theorem smL_ones {e : Sx.E} (h : smE e) : smL [e] ∧ Sx.sl [e].length := ⟨smL_one h, Sx.sl_le (by simp)⟩
omit hN in
theorem Sx.behind_args (f : Nat) (t : Lx.Tok) (σ : Sx.R) (hf : f ≤ 4294967296) (ht : t.pos ≤ 1000000) : (Sx.behind L f t σ).1.args.length ≤ 4294967296 := by
  cases f with
  | zero => rw [Sx.behind]; exact Nat.zero_le _
  | succ f =>
    rw [Sx.behind]
    simp only []
    split
    · split
      · exact Nat.zero_le _
      · have h7 := (Sx.sm_exprs hL f (by omega)).2.2.2.2.2.2 (Sx.expr L f 0 (Sx.nest L [40] σ)).2
        show (_ :: _ : List Sx.E).length ≤ _
        rw [List.length_cons]; omega
    · split
      · show (1 : Nat) ≤ _; omega
      · exact Nat.zero_le _
theorem Sx.sm_named (p : Int) (σ : Sx.R) (hp : Sx.sp p) : smS (Sx.named L p σ).1 := by
  unfold Sx.named
  simp only []
  have hs := Sx.some_near hL 1 σ
  split
  · exact smS_mk hp (smL_ones (Sx.sm_behind hL hN _ _ hs)) smSL_no smSL_no
  · split
    · refine smS_mk hp (Sx.sm_value hL hN _ _ (smE_arg (Sx.sm_behind hL hN _ _ hs)).1 ?_) smSL_no smSL_no
      exact Sx.behind_args hL _ _ _ hN hs
    · exact smS_mk hp (Sx.sm_value hL hN _ _ smL_nil (by simp)) smSL_no smSL_no
theorem Sx.sm_stmts (f : Nat) : f ≤ 4294967296 → (∀ σ, smSL (Sx.block L f σ).1 ∧ (Sx.block L f σ).1.length ≤ f) ∧ (∀ σ, smSL (Sx.stmts L f σ).1 ∧ (Sx.stmts L f σ).1.length ≤ f) ∧ (∀ σ, smS (Sx.stmt L f σ).1) := by
  induction f with
  | zero =>
    intro _
    refine ⟨fun σ => ?_, fun σ => ?_, fun σ => ?_⟩
    · rw [Sx.block]; exact ⟨smSL_nil, Nat.le_refl _⟩
    · rw [Sx.stmts]; exact ⟨smSL_nil, Nat.le_refl _⟩
    · rw [Sx.stmt]; exact smS_mk Sx.sp_zero smL_no smSL_no smSL_no
  | succ f ih =>
    intro hf
    obtain ⟨i1, i2, i3⟩ := ih (by omega)
    refine ⟨fun σ => ?_, fun σ => ?_, fun σ => ?_⟩
    · rw [Sx.block]
      have h := i2 (Sx.nest L [123] σ)
      exact ⟨h.1, by show (Sx.stmts L f (Sx.nest L [123] σ)).1.length ≤ _; omega⟩
    · rw [Sx.stmts]
      split
      · simp only []
        have h := i2 (Sx.stmt L f σ).2
        exact ⟨smSL_cons (i3 _) h.1, by rw [List.length_cons]; omega⟩
      · exact ⟨smSL_nil, Nat.zero_le _⟩
    · have hp := Sx.sp_nat (Sx.tk_near hL σ)
      have hb : ∀ σ, smSL (Sx.block L f σ).1 ∧ Sx.sl (Sx.block L f σ).1.length := fun σ => ⟨(i1 σ).1, Sx.sl_le (by have := (i1 σ).2; omega)⟩
      have hv : ∀ σ, smL (Sx.value L [] σ).1 ∧ Sx.sl (Sx.value L [] σ).1.length := fun σ => Sx.sm_value hL hN [] σ smL_nil (by simp)
      rw [Sx.stmt]
      simp only []
      split
      · exact smS_mk hp (hv _) smSL_no smSL_no
      split
      · exact smS_mk hp smL_no smSL_no smSL_no
      split
      · split
        · exact smS_mk hp (smL_ones (Sx.sm_ex hL hN _)) (hb _) (hb _)
        · exact smS_mk hp (smL_ones (Sx.sm_ex hL hN _)) (hb _) smSL_no
      split
      · exact smS_mk hp (smL_ones (Sx.sm_ex hL hN _)) (hb _) smSL_no
      split
      · exact smS_mk hp (hv _) smSL_no smSL_no
      · exact Sx.sm_named hL hN _ _ hp
omit hN in
theorem Sx.sm_param (σ : Sx.R) : smP (Sx.param L σ).1 := Sx.sp_nat (Sx.some_near hL 1 _)
omit hN in
theorem Sx.sm_params (f : Nat) : ∀ σ, (∀ y ∈ (Sx.params L f σ).1, smP y) ∧ (Sx.params L f σ).1.length ≤ f := by
  induction f with
  | zero => intro σ; rw [Sx.params]; exact ⟨fun y h => (by cases h), Nat.le_refl _⟩
  | succ f ih =>
    intro σ
    rw [Sx.params]
    split
    · simp only []
      have h := ih (Sx.param L (Sx.may L [44] σ).2).2
      refine ⟨fun y hy => ?_, by rw [List.length_cons]; omega⟩
      rcases List.mem_cons.1 hy with h1 | h1
      · rw [h1]; exact Sx.sm_param hL _
      · exact h.1 y h1
    · exact ⟨fun y h => (by cases h), Nat.zero_le _⟩
omit hN in
theorem Sx.sm_plist (σ : Sx.R) : (∀ y ∈ (Sx.plist L σ).1, smP y) ∧ (Sx.plist L σ).1.length ≤ Sx.fuel L + 1 := by
  unfold Sx.plist
  split
  · exact ⟨fun y h => (by cases h), Nat.zero_le _⟩
  · simp only []
    have h := Sx.sm_params hL (Sx.fuel L) (Sx.param L σ).2
    refine ⟨fun y hy => ?_, by rw [List.length_cons]; omega⟩
    rcases List.mem_cons.1 hy with h1 | h1
    · rw [h1]; exact Sx.sm_param hL _
    · exact h.1 y h1
theorem Sx.sm_function (σ : Sx.R) : smF (Sx.function L σ).1 := by
  unfold Sx.function
  simp only []
  have h1 := Sx.sm_plist hL (Sx.eat L [40] (Sx.some L 1 (Sx.eat L Sx.wFn σ)).2)
  have h2 := fun τ => (Sx.sm_stmts hL hN (Sx.fuel L) hN).1 τ
  have h3 : Sx.sl (Sx.plist L (Sx.eat L [40] (Sx.some L 1 (Sx.eat L Sx.wFn σ)).2)).1.length := by unfold Sx.sl; have := h1.2; omega
  exact ⟨Sx.sp_nat (Sx.some_near hL 1 _), h3, h1.1, Sx.sl_le (Nat.le_trans (h2 _).2 hN), (h2 _).1⟩
theorem Sx.sm_functions (f : Nat) : ∀ σ, (∀ x ∈ (Sx.functions L f σ).1, smF x) ∧ (Sx.functions L f σ).1.length ≤ f := by
  induction f with
  | zero => intro σ; rw [Sx.functions]; exact ⟨fun y h => (by cases h), Nat.le_refl _⟩
  | succ f ih =>
    intro σ
    rw [Sx.functions]
    split
    · simp only []
      have h := ih (Sx.function L σ).2
      refine ⟨fun y hy => ?_, by rw [List.length_cons]; omega⟩
      rcases List.mem_cons.1 hy with h1 | h1
      · rw [h1]; exact Sx.sm_function hL hN _
      · exact h.1 y h1
    · exact ⟨fun y h => (by cases h), Nat.zero_le _⟩
end
theorem Lx.lex_near {l : List UInt8} {ts : List Lx.Tok} (h : Lx.lex l = .ok ts) : Sx.Near ts := by
  unfold Lx.lex at h
  split at h
  · cases h
  · rename_i hb
    cases e : Lx.toks (l.length + 1) 0 l with
    | error q2 => rw [e] at h; cases h
    | ok us =>
      rw [e] at h
      cases h
      intro x hx
      rcases List.mem_append.1 hx with hx | hx
      · have := ((Lx.toks_where _ 0 l l us (Nat.zero_le _) rfl e).1 x hx).2.2.1
        omega
      · rw [List.mem_singleton.1 hx]
        show l.length ≤ 1000000
        omega
theorem Sx.parse_small {s : List UInt8} {fs : List Sx.F} (h : Sx.parse s = .ok fs) (hl : ∀ L, Lx.lex s = .ok L → L.length ≤ 65537) : (∀ x ∈ fs, smF x) ∧ Sx.sl fs.length := by
  unfold Sx.parse at h
  cases hx : Lx.lex s with
  | error e => rw [hx] at h; cases h
  | ok L =>
    rw [hx] at h
    simp only [] at h
    have hlen := hl L hx
    have hf : Sx.fuel L ≤ 4294967296 := by unfold Sx.fuel; omega
    have h1 := Sx.sm_functions (Lx.lex_near hx) hf (Sx.fuel L) Sx.start
    split at h
    · cases h
      exact ⟨h1.1, Sx.sl_le (Nat.le_trans h1.2 hf)⟩
    · cases h
end Go.Proofs.YtbnhegipdfkdgaaDoor
