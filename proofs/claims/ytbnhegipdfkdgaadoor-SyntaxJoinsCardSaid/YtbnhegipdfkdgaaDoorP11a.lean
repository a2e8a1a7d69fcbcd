/-
Plain mathematics of layer 12, tenth part: the same tokens, so many further on: expressions.
Slices of tokens, as cells.
-/
import Derived.Test.YtbnhegipdfkdgaaDoorP10a
import Derived.Maps.AppendAt
section
set_option linter.unusedVariables false
set_option linter.unusedSimpArgs false
namespace Go.Proofs.YtbnhegipdfkdgaaDoor

theorem Sx.sh_exprs {K J : List Lx.Tok} {m d : Nat} (hK : Sx.Ends K) (h : Sx.Sh K J m d) (f : Nat) :
    (∀ than σ, σ.at' < K.length → Sx.M K σ + 4 ≤ f → (Sx.expr K f than σ).2.err = 0 → Sx.expr J f than (σ.up m) = ((Sx.expr K f than σ).1.on d, (Sx.expr K f than σ).2.up m)) ∧
    (∀ than most c x σ, σ.at' < K.length → Sx.M K σ + 3 ≤ f → (Sx.signs K f than most c x σ).2.err = 0 → Sx.signs J f than most c (x.on d) (σ.up m) = ((Sx.signs K f than most c x σ).1.on d, (Sx.signs K f than most c x σ).2.up m)) ∧
    (∀ σ, σ.at' < K.length → Sx.M K σ + 3 ≤ f → (Sx.unary K f σ).2.err = 0 → Sx.unary J f (σ.up m) = ((Sx.unary K f σ).1.on d, (Sx.unary K f σ).2.up m)) ∧
    (∀ s σ, σ.at' < K.length → σ.err = 0 → s = Sx.text K σ → Sx.M K σ + 2 ≤ f → (Sx.word K f s σ).2.err = 0 → Sx.word J f s (σ.up m) = ((Sx.word K f s σ).1.on d, (Sx.word K f s σ).2.up m)) ∧
    (∀ n b σ, σ.at' < K.length → Sx.M K σ + n + 5 ≤ f → (Sx.many K f n b σ).2.err = 0 → Sx.many J f n b (σ.up m) = (Sx.E.onL d (Sx.many K f n b σ).1, (Sx.many K f n b σ).2.up m)) ∧
    (∀ t σ, σ.at' < K.length → Sx.M K σ + 5 ≤ f → (Sx.behind K f t σ).2.err = 0 → Sx.behind J f (t.on d) (σ.up m) = ((Sx.behind K f t σ).1.on d, (Sx.behind K f t σ).2.up m)) ∧
    (∀ σ, σ.at' < K.length → Sx.M K σ + 5 ≤ f → (Sx.commas K f σ).2.err = 0 → Sx.commas J f (σ.up m) = (Sx.E.onL d (Sx.commas K f σ).1, (Sx.commas K f σ).2.up m)) := by
  have lE := fun f => (Sx.le_exprs hK f).1
  have lS := fun f => (Sx.le_exprs hK f).2.1
  have lU := fun f => (Sx.le_exprs hK f).2.2.1
  have lM := fun f => (Sx.le_exprs hK f).2.2.2.2.1
  have lB := fun f => (Sx.le_exprs hK f).2.2.2.2.2.1
  have lC := fun f => (Sx.le_exprs hK f).2.2.2.2.2.2
  induction f with
  | zero => refine ⟨?_, ?_, ?_, ?_, ?_, ?_, ?_⟩ <;> intros <;> omega
  | succ f ih =>
    obtain ⟨iE, iS, iU, iW, iM, iB, iC⟩ := ih
    refine ⟨fun than σ hi hf he => ?_, fun than most c x σ hi hf he => ?_, fun σ hi hf he => ?_, fun s σ hi he0 hs hf he => ?_, fun n b σ hi hf he => ?_, fun t σ hi hf he => ?_, fun σ hi hf he => ?_⟩
    · rw [Sx.expr] at he
      rw [Sx.expr, Sx.expr]
      try simp only [] at he ⊢
      have h1 := lU f σ
      have h2 := Sx.M_le h1
      have e1 := (lS f _ _ _ _ _).ok he
      rw [iU σ hi (by omega) e1]
      exact iS _ _ _ _ _ (h1.2.2.1 hi) (by omega) he
    · have he0 := (lS (f + 1) than most c x σ).ok he
      have c1 : ¬ (σ.err ≠ 0) := fun h => h he0
      rw [Sx.signs, if_neg c1] at he
      rw [Sx.signs, Sx.signs, Sx.sh_text h hi, Sx.sh_tk h hi, Sx.up_err, if_neg c1, if_neg c1]
      simp only [] at he ⊢
      by_cases h2 : (Sx.tight (Sx.text K σ)).1 ≤ than ∨ most < (Sx.tight (Sx.text K σ)).1 ∨ (Sx.tight (Sx.text K σ)).1 = 1 ∧ c = true
      · rw [if_pos h2, if_pos h2]
      · rw [if_neg h2] at he ⊢
        rw [if_neg h2]
        have hk := Sx.tight_kind (L := K) (σ := σ) (n := than) (fun h => h2 (Or.inl h))
        have hn := Sx.le_next hK he0 hk
        have hm := Sx.M_next he0 hi
        have hi1 := hn.2.2.1 hi
        have eu : ({ at' := (σ.up m).at' + 1, opn := (σ.up m).opn, err := σ.err, pos := (σ.up m).pos } : Sx.R) = Sx.R.up m { σ with at' := σ.at' + 1 } := Sx.up_next m σ
        rw [eu]
        by_cases h5 : (Sx.tight (Sx.text K σ)).1 = 5
        · rw [if_pos h5] at he ⊢
          rw [if_pos h5]
          have e1 := (lS f _ _ _ _ _).ok he
          have h3 := Sx.le_some hK 2 (by decide) { σ with at' := σ.at' + 1 }
          have h4 := Sx.M_le h3
          rw [Sx.sh_some h hi1 e1]
          have r := iS _ _ _ _ _ (h3.2.2.1 hi1) (by omega) he
          rw [Sx.on_mk, Sx.onL_cons, Sx.onL_nil] at r
          rw [Sx.on_pos]
          exact r
        · rw [if_neg h5] at he ⊢
          rw [if_neg h5]
          have e1 := (lS f _ _ _ _ _).ok he
          have h3 := lE f (Sx.tight (Sx.text K σ)).1 { σ with at' := σ.at' + 1 }
          have h4 := Sx.M_le h3
          rw [iE _ _ hi1 (by omega) e1]
          have r := iS _ _ _ _ _ (h3.2.2.1 hi1) (by omega) he
          rw [Sx.on_mk, Sx.onL_cons, Sx.onL_cons, Sx.onL_nil] at r
          rw [Sx.on_pos]
          exact r
    · have he0 := (lU (f + 1) σ).ok he
      have c1 : ¬ (σ.err ≠ 0) := fun h => h he0
      rw [Sx.unary, if_neg c1] at he
      rw [Sx.unary, Sx.unary, Sx.sh_text h hi, Sx.sh_tk h hi, Sx.up_err, if_neg c1, if_neg c1]
      simp only [] at he ⊢
      by_cases h2 : Sx.text K σ = [40]
      · rw [if_pos h2] at he ⊢
        rw [if_pos h2]
        have e1 := (Sx.le_unnest hK [41] (by decide) _).ok he
        have e2 := (lE f _ _).ok e1
        have i1 := (Sx.le_nest hK [40] (by decide) σ).2.2.1 hi
        have i2 := (lE f 0 (Sx.nest K [40] σ)).2.2.1 i1
        have hm := Sx.M_nest (s := [40]) he0 hi
        rw [Sx.sh_nest h hi e2, iE 0 _ i1 (by omega) e1]
        simp only []
        rw [Sx.sh_unnest h i2 he]
      · rw [if_neg h2] at he ⊢
        rw [if_neg h2]
        by_cases h3 : Sx.text K σ = [126] ∨ Sx.text K σ = [45] ∨ Sx.text K σ = [33]
        · rw [if_pos h3] at he ⊢
          rw [if_pos h3]
          have hs : Sx.text K σ ≠ [] := by rcases h3 with h | h | h <;> rw [h] <;> decide
          have e1 : (Sx.unary K f (Sx.nest K (Sx.text K σ) σ)).2.err = 0 := he
          have e2 := (lU f _).ok e1
          have i1 := (Sx.le_nest hK (Sx.text K σ) hs σ).2.2.1 hi
          have hm := Sx.M_nest (s := Sx.text K σ) he0 hi
          rw [Sx.sh_nest h hi e2, iU _ i1 (by omega) e1]
          simp only [Sx.on_mk, Sx.onL_cons, Sx.onL_nil, Sx.on_pos]
          rfl
        · rw [if_neg h3] at he ⊢
          rw [if_neg h3]
          exact iW _ _ hi he0 rfl (by omega) he
    · rw [Sx.word] at he
      rw [Sx.word, Sx.word, Sx.sh_tk h hi]
      simp only [] at he ⊢
      cases hw : Sx.wordsE.find? (fun x => x.1 == s) with
      | some w =>
        rw [hw] at he
        simp only [] at he ⊢
        have h3 := Sx.wordsE_three hw
        have hne : Sx.text K σ ≠ [] := by
          intro e
          rw [hs, e, Sx.wordsE_nil] at hw; cases hw
        have hn1 := Sx.le_next hK he0 (Sx.text_kind hne)
        have i1 := hn1.2.2.1 hi
        have hn2 := Sx.le_nest hK [40] (by decide) { σ with at' := σ.at' + 1 }
        have i2 := hn2.2.2.1 i1
        have hm := Sx.M_next he0 hi
        have hm2 := Sx.M_le hn2
        have i3 := (lM f w.2.2 true (Sx.nest K [40] { σ with at' := σ.at' + 1 })).2.2.1 i2
        have eu : ({ at' := (σ.up m).at' + 1, opn := (σ.up m).opn, err := (σ.up m).err, pos := (σ.up m).pos } : Sx.R) = Sx.R.up m { σ with at' := σ.at' + 1 } := Sx.up_next m σ
        rw [eu]
        by_cases h1 : s = Sx.wRor
        · rw [if_pos h1] at he ⊢
          rw [if_pos h1]
          have e1 := (Sx.le_unnest hK [41] (by decide) _).ok he
          have e2 := (Sx.le_some hK 2 (by decide) _).ok e1
          have e3 := (Sx.le_eat hK [44] (by decide) _).ok e2
          have e4 := (lM f _ _ _).ok e3
          have i4 := (Sx.le_eat hK [44] (by decide) _).2.2.1 i3
          have i5 := (Sx.le_some hK 2 (by decide) _).2.2.1 i4
          rw [Sx.sh_nest h i1 e4, iM _ _ _ i2 (by omega) e3]
          simp only []
          rw [Sx.sh_eat h i3 e2, Sx.sh_some h i4 e1]
          simp only []
          rw [Sx.sh_unnest h i5 he, Sx.on_mk, Sx.on_pos]
          rfl
        · rw [if_neg h1] at he ⊢
          rw [if_neg h1]
          have e3 := (Sx.le_unnest hK [41] (by decide) _).ok he
          have e4 := (lM f _ _ _).ok e3
          rw [Sx.sh_nest h i1 e4, iM _ _ _ i2 (by omega) e3]
          simp only []
          rw [Sx.sh_unnest h i3 he, Sx.on_mk, Sx.on_pos]
      | none =>
        rw [hw] at he
        simp only [] at he ⊢
        by_cases h2 : (Sx.tk K σ).kind = 2
        · rw [if_pos h2, if_pos (c := ((Sx.tk K σ).on d).kind = 2) h2]
          simp only [Sx.on_mk, Sx.onL_nil, Sx.on_pos]
          have eu : ({ at' := (σ.up m).at' + 1, opn := (σ.up m).opn, err := (σ.up m).err, pos := (σ.up m).pos } : Sx.R) = Sx.R.up m { σ with at' := σ.at' + 1 } := Sx.up_next m σ
          rw [eu]
          rfl
        · rw [if_neg h2] at he
          rw [if_neg h2, if_neg (c := ((Sx.tk K σ).on d).kind = 2) h2]
          have e1 := (lB f _ _).ok he
          have h1 := Sx.le_some hK 1 (by decide) σ
          have h3 := Sx.M_some (L := K) (k := 1) he0 hi
          rw [Sx.sh_some h hi e1]
          exact iB _ _ (h1.2.2.1 hi) (by omega) he
    · cases n with
      | zero => rw [Sx.many, Sx.many, Sx.onL_nil]
      | succ n =>
        rw [Sx.many] at he
        rw [Sx.many, Sx.many]
        try simp only [] at he ⊢
        have e1 := (lM f _ _ _).ok he
        have e2 := (lE f _ _).ok e1
        have h1 : Sx.Le K σ (if b then σ else Sx.eat K [44] σ) := by
          split
          · exact Sx.Le.refl _ _
          · exact Sx.le_eat hK [44] (by decide) σ
        have h2 := Sx.M_le h1
        have hi1 := h1.2.2.1 hi
        have h3 := lE f 0 (if b then σ else Sx.eat K [44] σ)
        have h4 := Sx.M_le h3
        have eb : (if b = true then σ.up m else Sx.eat J [44] (σ.up m)) = Sx.R.up m (if b = true then σ else Sx.eat K [44] σ) := by
          by_cases hb : b = true
          · rw [if_pos hb, if_pos hb]
          · rw [if_neg hb] at e2
            rw [if_neg hb, if_neg hb, Sx.sh_eat h hi e2]
        rw [eb, iE 0 _ hi1 (by omega) e1]
        simp only []
        rw [iM n false _ (h3.2.2.1 hi1) (by omega) he, Sx.onL_cons]
    · rw [Sx.behind] at he
      rw [Sx.behind, Sx.behind, Sx.sh_sees h hi, Sx.sh_sees h hi]
      by_cases h1 : Sx.sees K [40] σ = true
      · rw [if_pos h1] at he ⊢
        rw [if_pos h1]
        have he0 := (Sx.sees_text h1).1
        simp only [] at he ⊢
        have i1 := (Sx.le_nest hK [40] (by decide) σ).2.2.1 hi
        have hm := Sx.M_nest (s := [40]) he0 hi
        have e0 : (Sx.nest K [40] σ).err = 0 := by
          split at he
          · exact (Sx.le_unnest hK [41] (by decide) _).ok he
          · exact ((lE f _ _).trans ((lC f _).trans (Sx.le_unnest hK [41] (by decide) _))).ok he
        rw [Sx.sh_nest h hi e0, Sx.sh_sees h i1]
        by_cases h2 : Sx.sees K [41] (Sx.nest K [40] σ) = true
        · rw [if_pos h2] at he ⊢
          rw [if_pos h2, Sx.sh_unnest h i1 he, Sx.on_mk, Sx.onL_nil, Sx.on_pos]
          rfl
        · rw [if_neg h2] at he ⊢
          rw [if_neg h2]
          have e1 := (Sx.le_unnest hK [41] (by decide) _).ok he
          have e2 := (lC f _).ok e1
          have h3 := lE f 0 (Sx.nest K [40] σ)
          have h4 := Sx.M_le h3
          have i2 := h3.2.2.1 i1
          have i3 := (lC f _).2.2.1 i2
          rw [iE 0 _ i1 (by omega) e2]
          simp only []
          rw [iC _ i2 (by omega) e1]
          simp only []
          rw [Sx.sh_unnest h i3 he, Sx.on_mk, Sx.onL_cons, Sx.on_pos]
          rfl
      · rw [if_neg h1] at he ⊢
        rw [if_neg h1]
        by_cases h2 : Sx.sees K [91] σ = true
        · rw [if_pos h2] at he ⊢
          rw [if_pos h2]
          have he0 := (Sx.sees_text h2).1
          simp only [] at he ⊢
          have i1 := (Sx.le_nest hK [91] (by decide) σ).2.2.1 hi
          have hm := Sx.M_nest (s := [91]) he0 hi
          have e1 := (Sx.le_unnest hK [93] (by decide) _).ok he
          have e2 := (lE f _ _).ok e1
          have i2 := (lE f 0 (Sx.nest K [91] σ)).2.2.1 i1
          rw [Sx.sh_nest h hi e2, iE 0 _ i1 (by omega) e1]
          simp only []
          rw [Sx.sh_unnest h i2 he, Sx.on_mk, Sx.onL_cons, Sx.onL_nil, Sx.on_pos]
          rfl
        · rw [if_neg h2, if_neg h2, Sx.on_mk, Sx.onL_nil, Sx.on_pos]
          rfl
    · rw [Sx.commas] at he
      rw [Sx.commas, Sx.commas, Sx.sh_may h hi]
      simp only []
      by_cases h1 : (Sx.may K [44] σ).1 = true
      · rw [if_pos h1] at he ⊢
        rw [if_pos h1]
        have i1 := (Sx.le_may hK [44] (by decide) σ).2.2.1 hi
        have hm := Sx.M_may h1 hi
        simp only [] at he ⊢
        have e1 := (lC f _).ok he
        have h3 := lE f 0 (Sx.may K [44] σ).2
        have h4 := Sx.M_le h3
        rw [iE 0 _ i1 (by omega) e1]
        simp only []
        rw [iC _ (h3.2.2.1 i1) (by omega) he, Sx.onL_cons]
      · rw [if_neg h1, if_neg h1, Sx.onL_nil]
end Go.Proofs.YtbnhegipdfkdgaaDoor
end
section
namespace Go.Proofs.YtbnhegipdfkdgaaDoor
open Go.ChangeShapes Go.WideShapes Go.ChangeAt Go.RowKit
set_option linter.unusedVariables false
set_option linter.unusedSimpArgs false

theorem cell_lt {w : World} {a : Addr} {u : Value} (h : w.cell? a = some u) : a.block < w.heap.size := by
  apply Nat.lt_of_not_le
  intro hge
  simp [World.cell?, Array.getElem?_eq_none hge] at h
/-- cells from an address on -/
def OnC (W : World) (a : Addr) (cs : List Value) : Prop := ∀ j u, cs[j]? = some u → W.cell? (a.add j) = some u
theorem OnC.kept {W W' : World} {a : Addr} {cs : List Value} (h : OnC W a cs) (hb : Below W.heap.size W W') : OnC W' a cs := fun j u hj => by
  have h1 := h j u hj
  rw [hb.cell (p := a.add j) (cell_lt h1)]
  exact h1
/-- a slice's elements -/
def SliceC {α : Type} (f : α → List Value) (sz : Nat) (W : World) (v : Value) (L : List α) : Prop :=
  ∃ (p : Option Addr) (cap : Nat), v = .slice p L.length cap ∧ ∀ k (hk : k < L.length), ∃ a, p = some a ∧ OnC W (a.add (k * sz)) (f L[k])
theorem SliceC.kept {α : Type} {f : α → List Value} {sz : Nat} {W W' : World} {v : Value} {L : List α} (h : SliceC f sz W v L) (hb : Below W.heap.size W W') : SliceC f sz W' v L := by
  obtain ⟨p, cap, rfl, hc⟩ := h
  refine ⟨p, cap, rfl, fun k hk => ?_⟩
  obtain ⟨a, rfl, hi⟩ := hc k hk
  exact ⟨a, rfl, hi.kept hb⟩
theorem flatC_len {α : Type} (f : α → List Value) (sz : Nat) (hf : ∀ x, (f x).length = sz) (L : List α) : (L.flatMap f).length = L.length * sz := by
  induction L with
  | nil => simp
  | cons i L ih => rw [List.flatMap_cons, List.length_append, ih, hf, List.length_cons, Nat.succ_mul, Nat.add_comm]
theorem flatC_get {α : Type} (f : α → List Value) (sz : Nat) (hf : ∀ x, (f x).length = sz) (L : List α) : ∀ k (hk : k < L.length) j u, (f L[k])[j]? = some u → (L.flatMap f)[k * sz + j]? = some u := by
  induction L with
  | nil => intro k hk; exact absurd hk (Nat.not_lt_zero _)
  | cons i L ih =>
    intro k hk j u hj
    have hj8 : j < sz := by
      apply Nat.lt_of_not_le
      intro hge
      rw [List.getElem?_eq_none (by rw [hf]; exact hge)] at hj
      cases hj
    rw [List.flatMap_cons]
    cases k with
    | zero => rw [List.getElem?_append_left (by rw [hf]; omega)]; simpa using hj
    | succ k =>
      rw [List.getElem?_append_right (by rw [hf, Nat.succ_mul]; omega)]
      have e : (k + 1) * sz + j - (f i).length = k * sz + j := by rw [hf, Nat.succ_mul]; omega
      rw [e]
      exact ih k (by simpa using hk) j u (by simpa using hj)
/-- an owned row is a slice of its elements -/
theorem sliceC_own {α : Type} {f : α → List Value} {sz : Nat} (hf : ∀ x, (f x).length = sz) {W : World} {base : Nat} {e : TypeId} {v : Value} {L : List α} (h : W.ownsRow base e sz v L.length (L.flatMap f)) : SliceC f sz W v L := by
  rcases h.2 with ⟨rfl, h0⟩ | ⟨g, cap, cur, rfl, hb, hg, hc, hm, hs, ht⟩
  · exact ⟨none, 0, by rw [h0], fun k hk => by omega⟩
  · refine ⟨some ⟨g, 0, none⟩, cap, rfl, fun k hk => ⟨_, rfl, fun j u hj => ?_⟩⟩
    have h1 := flatC_get f sz hf L k hk j u hj
    have hadd : (((⟨g, 0, none⟩ : Addr).add (k * sz)).add j) = ⟨g, k * sz + j, none⟩ := by
      rw [Go.Deep.add_add]
      unfold Addr.add
      split <;> simp_all
    rw [hadd]
    simp only [World.cell?, hg]
    rw [← ht] at h1
    have h2 : cur.toList[k * sz + j]? = some u := by
      rw [List.getElem?_take] at h1
      split at h1
      · exact h1
      · cases h1
    simpa using h2
/-- a token's cells -/
def tkC (x : Lx.Tok) : List Value := [.int .i64 x.kind, .int .i64 x.pos, .int .i64 x.num, .string (Lx.S x.text)]
theorem tkC_len (x : Lx.Tok) : (tkC x).length = 4 := rfl
theorem tkC_flat (ts : List Lx.Tok) : (ts.flatMap tkC).length = ts.length * 4 := flatC_len tkC 4 tkC_len ts
theorem own_ge {W : World} {base : Nat} {e : TypeId} {size : Nat} {v : Value} {n : Nat} {xs : List Value} (h : W.ownsRow base e size v n xs) : ∀ j, v.ownBlock = some j → base ≤ j := by
  rcases h.2 with ⟨rfl, h0⟩ | ⟨g, cap, cur, rfl, hb, hg, hc, hm, hs, ht⟩
  · intro j hj; cases hj
  · intro j hj; cases hj; exact hb
theorem grown_below {A B : World} (h : Below A.heap.size A B) : A.grownBy B none := ⟨h.os, h.tape, h.output, h.size, fun k hk _ => h.block k hk⟩
theorem own_below {W W' : World} {base : Nat} {e : TypeId} {size : Nat} {v : Value} {n : Nat} {xs : List Value} (h : W.ownsRow base e size v n xs) (hb : Below W.heap.size W W') : W'.ownsRow base e size v n xs :=
  h.kept (row := none) (grown_below hb) (by cases hv : v.ownBlock <;> simp)
theorem own_setRow {W : World} {base : Nat} {e : TypeId} {size : Nat} {v : Value} {n : Nat} {xs : List Value} (h : W.ownsRow base e size v n xs) {b : Nat} (hb : b < base) (cs : Array Value) : (W.setRow b cs).ownsRow base e size v n xs :=
  ⟨h.1, h.2.imp id fun ⟨g, cap, cur, h1, h2, h3, h4⟩ => ⟨g, cap, cur, h1, h2, by rw [setRow_other _ _ _ _ (by omega)]; exact h3, h4⟩⟩
theorem cell4_new (w : World) (x : Lx.Tok) (t : TypeId) : ∀ j u, (tkC x)[j]? = some u → (w.alloc (.cells #[.int .i64 x.kind, .int .i64 x.pos, .int .i64 x.num, .string (Lx.S x.text)] t)).cell? ((⟨w.heap.size, 0, none⟩ : Addr).add j) = some u := by
  intro j u hj
  have hlt : j < 4 := by
    apply Nat.lt_of_not_le
    intro hge
    rw [List.getElem?_eq_none (by exact hge)] at hj
    cases hj
  rcases (by omega : j = 0 ∨ j = 1 ∨ j = 2 ∨ j = 3) with rfl | rfl | rfl | rfl <;> (simp [tkC] at hj; subst hj; simp [go_sem, Addr.add])
theorem Tryd.infoTok : (Tryd.prog.info? 59).map (fun i => (i.zero, i.size, i.bytes)) = some (some (.agg #[.int .i64 0, .int .i64 0, .int .i64 0, .string ⟨#[]⟩]), 4, 40) := by kernel_rfl
end Go.Proofs.YtbnhegipdfkdgaaDoor
end
