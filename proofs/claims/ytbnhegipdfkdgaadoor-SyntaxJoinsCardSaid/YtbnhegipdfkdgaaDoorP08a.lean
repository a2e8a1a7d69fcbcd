/-
Plain mathematics of layer 12, seventh part: nests are closed again; a function that is right looks at nothing behind its last token.
Blocks of a struct's cells: how they are loaded and stored whole; a token and an error as such blocks.
-/
import Derived.Test.YtbnhegipdfkdgaaDoorP07a
import Derived.Deep.MidRow
import Derived.Deep.WholeRow
import Derived.Deep.QuietTactic
import Derived.StillTailTactics
section
set_option linter.unusedVariables false
set_option linter.unusedSimpArgs false
namespace Go.Proofs.YtbnhegipdfkdgaaDoor

theorem Sx.op_wrong (L : List Lx.Tok) (e : Int) (σ : Sx.R) : (Sx.wrong L e σ).opn = σ.opn := by unfold Sx.wrong; split <;> rfl
theorem Sx.op_eat (L : List Lx.Tok) (s : List UInt8) (σ : Sx.R) : (Sx.eat L s σ).opn = σ.opn := by
  unfold Sx.eat; split
  · rfl
  · split
    · exact Sx.op_wrong _ _ _
    · rfl
theorem Sx.op_may (L : List Lx.Tok) (s : List UInt8) (σ : Sx.R) : (Sx.may L s σ).2.opn = σ.opn := by unfold Sx.may; split <;> rfl
theorem Sx.op_some (L : List Lx.Tok) (k : Int) (σ : Sx.R) : (Sx.some L k σ).2.opn = σ.opn := by
  unfold Sx.some; split
  · rfl
  · split
    · exact Sx.op_wrong _ _ _
    · rfl
theorem Sx.op_nest (L : List Lx.Tok) (s : List UInt8) (σ : Sx.R) : (Sx.nest L s σ).opn = σ.opn + 1 := by
  unfold Sx.nest; simp only []
  rw [Sx.op_eat]; split
  · rw [Sx.op_wrong]
  · rfl
theorem Sx.op_unnest (L : List Lx.Tok) (s : List UInt8) (σ : Sx.R) : (Sx.unnest L s σ).opn = σ.opn - 1 := by
  unfold Sx.unnest; simp only []
  rw [Sx.op_eat]
theorem Sx.op_zero (L : List Lx.Tok) (σ : Sx.R) : (Sx.zero L σ).opn = σ.opn := by
  unfold Sx.zero; split
  · exact Sx.op_wrong _ _ _
  · rfl
theorem Sx.op_label (L : List Lx.Tok) (σ : Sx.R) : (Sx.label L σ).2.opn = σ.opn := by
  unfold Sx.label; split
  · exact Sx.op_may _ _ _
  · simp only [Sx.op_eat, Sx.op_may]
theorem Sx.op_brackets (L : List Lx.Tok) (σ : Sx.R) : (Sx.brackets L σ).2.opn = σ.opn := by
  rw [Sx.brackets_eq]; simp only [Sx.op_eat, Sx.op_some, Sx.op_zero]
theorem Sx.op_type (L : List Lx.Tok) (b : Bool) (l : Int) (σ : Sx.R) : (Sx.type L b l σ).2.opn = σ.opn := by
  unfold Sx.type; split
  · exact Sx.op_may _ _ _
  · simp only []
    split
    · simp only [Sx.op_brackets, Sx.op_may]
    · split
      · simp only [Sx.op_brackets, Sx.op_eat, Sx.op_may]
      · simp only [Sx.op_eat, Sx.op_may]
theorem Sx.op_param (L : List Lx.Tok) (σ : Sx.R) : (Sx.param L σ).2.opn = σ.opn := by
  unfold Sx.param; simp only [Sx.op_type, Sx.op_eat, Sx.op_some, Sx.op_label, Sx.op_may]
theorem Sx.op_exprs (L : List Lx.Tok) (f : Nat) :
    (∀ than σ, (Sx.expr L f than σ).2.opn = σ.opn) ∧ (∀ than most c x σ, (Sx.signs L f than most c x σ).2.opn = σ.opn) ∧ (∀ σ, (Sx.unary L f σ).2.opn = σ.opn) ∧
    (∀ s σ, (Sx.word L f s σ).2.opn = σ.opn) ∧ (∀ n b σ, (Sx.many L f n b σ).2.opn = σ.opn) ∧ (∀ t σ, (Sx.behind L f t σ).2.opn = σ.opn) ∧ (∀ σ, (Sx.commas L f σ).2.opn = σ.opn) := by
  induction f with
  | zero =>
    refine ⟨fun _ _ => ?_, fun _ _ _ _ _ => ?_, fun _ => ?_, fun _ _ => ?_, fun _ _ _ => ?_, fun _ _ => ?_, fun _ => ?_⟩
    · rw [Sx.expr]
    · rw [Sx.signs]
    · rw [Sx.unary]
    · rw [Sx.word]
    · rw [Sx.many]
    · rw [Sx.behind]
    · rw [Sx.commas]
  | succ f ih =>
    obtain ⟨iE, iS, iU, iW, iM, iB, iC⟩ := ih
    refine ⟨fun than σ => ?_, fun than most c x σ => ?_, fun σ => ?_, fun s σ => ?_, fun n b σ => ?_, fun t σ => ?_, fun σ => ?_⟩
    · rw [Sx.expr]; simp only [iS, iU]
    · rw [Sx.signs]
      split
      · rfl
      · simp only []
        split
        · rfl
        · split
          · simp only [iS, Sx.op_some]
          · simp only [iS, iE]
    · rw [Sx.unary]
      split
      · rfl
      · simp only []
        split
        · simp only [Sx.op_unnest, iE, Sx.op_nest]; omega
        · split
          · simp only [iU, Sx.op_nest]; omega
          · exact iW _ _
    · rw [Sx.word]
      simp only []
      split
      · split
        · simp only [Sx.op_unnest, Sx.op_some, Sx.op_eat, iM, Sx.op_nest]; omega
        · simp only [Sx.op_unnest, iM, Sx.op_nest]; omega
      · split
        · rfl
        · simp only [iB, Sx.op_some]
    · cases n with
      | zero => rw [Sx.many]
      | succ n =>
        rw [Sx.many]
        simp only [iM, iE]
        split
        · rfl
        · exact Sx.op_eat _ _ _
    · rw [Sx.behind]
      split
      · simp only []
        split
        · simp only [Sx.op_unnest, Sx.op_nest]; omega
        · simp only [Sx.op_unnest, iC, iE, Sx.op_nest]; omega
      · split
        · simp only [Sx.op_unnest, iE, Sx.op_nest]; omega
        · rfl
    · rw [Sx.commas]
      split
      · simp only [iC, iE, Sx.op_may]
      · exact Sx.op_may _ _ _
theorem Sx.op_ex (L : List Lx.Tok) (σ : Sx.R) : (Sx.ex L σ).2.opn = σ.opn := (Sx.op_exprs L _).1 0 σ
theorem Sx.op_value (L : List Lx.Tok) (l : List Sx.E) (σ : Sx.R) : (Sx.value L l σ).2.opn = σ.opn := by
  unfold Sx.value; simp only [Sx.op_eat, Sx.op_ex]
theorem Sx.op_named (L : List Lx.Tok) (p : Int) (σ : Sx.R) : (Sx.named L p σ).2.opn = σ.opn := by
  have hB := (Sx.op_exprs L (Sx.fuel L)).2.2.2.2.2.1
  unfold Sx.named; simp only []
  split
  · simp only [Sx.op_eat, hB, Sx.op_some]
  · split
    · simp only [Sx.op_value, Sx.op_eat, hB, Sx.op_some]
    · simp only [Sx.op_value, Sx.op_eat, Sx.op_some]
theorem Sx.op_stmts (L : List Lx.Tok) (f : Nat) :
    (∀ σ, (Sx.block L f σ).2.opn = σ.opn) ∧ (∀ σ, (Sx.stmts L f σ).2.opn = σ.opn) ∧ (∀ σ, (Sx.stmt L f σ).2.opn = σ.opn) := by
  induction f with
  | zero =>
    refine ⟨fun _ => ?_, fun _ => ?_, fun _ => ?_⟩
    · rw [Sx.block]
    · rw [Sx.stmts]
    · rw [Sx.stmt]
  | succ f ih =>
    obtain ⟨iB, iL, iS⟩ := ih
    refine ⟨fun σ => ?_, fun σ => ?_, fun σ => ?_⟩
    · rw [Sx.block]; simp only [Sx.op_unnest, iL, Sx.op_nest]; omega
    · rw [Sx.stmts]
      split
      · simp only [iL, iS]
      · rfl
    · rw [Sx.stmt]
      simp only []
      split
      · simp only [Sx.op_value, Sx.op_eat, Sx.op_some, Sx.op_may]
      · split
        · simp only [Sx.op_type, Sx.op_label, Sx.op_eat, Sx.op_some, Sx.op_may]
        · split
          · split
            · simp only [iB, Sx.op_ex, Sx.op_may]
            · simp only [iB, Sx.op_ex, Sx.op_may]
          · split
            · simp only [iB, Sx.op_ex, Sx.op_eat, Sx.op_some, Sx.op_may]
            · split
              · simp only [Sx.op_value, Sx.op_may]
              · exact Sx.op_named _ _ _
theorem Sx.op_params (L : List Lx.Tok) (f : Nat) : ∀ σ, (Sx.params L f σ).2.opn = σ.opn := by
  induction f with
  | zero => intro σ; rw [Sx.params]
  | succ f ih =>
    intro σ
    rw [Sx.params]
    split
    · simp only [ih, Sx.op_param, Sx.op_may]
    · exact Sx.op_may _ _ _
theorem Sx.op_plist (L : List Lx.Tok) (σ : Sx.R) : (Sx.plist L σ).2.opn = σ.opn := by
  unfold Sx.plist; split
  · rfl
  · simp only [Sx.op_params, Sx.op_param]
theorem Sx.op_res (L : List Lx.Tok) (c : Bool × Sx.R) : (Sx.res L c).2.opn = c.2.opn := by
  unfold Sx.res; split
  · simp only [Sx.op_type, Sx.op_label]
  · rfl
theorem Sx.op_function (L : List Lx.Tok) (σ : Sx.R) : (Sx.function L σ).2.opn = σ.opn := by
  unfold Sx.function
  simp only [(Sx.op_stmts L _).1, Sx.op_res, Sx.op_may, Sx.op_eat, Sx.op_plist, Sx.op_some]
/-- what was eaten without an error is a token -/
theorem Sx.unnest_ok {L : List Lx.Tok} {s : List UInt8} {σ : Sx.R} (h : (Sx.unnest L s σ).err = 0) : σ.err = 0 ∧ (Sx.unnest L s σ).at' = σ.at' + 1 := by
  have h' : (Sx.eat L s σ).err = 0 := h
  show σ.err = 0 ∧ (Sx.eat L s σ).at' = σ.at' + 1
  unfold Sx.eat at h' ⊢
  by_cases he : σ.err ≠ 0
  · rw [if_pos he] at h'; exact absurd h' he
  · rw [if_neg he] at h' ⊢
    split
    · rename_i h1
      rw [if_pos h1] at h'
      exact absurd h' (Sx.wrong_err (by decide))
    · exact ⟨by omega, rfl⟩
/-- a block that is right looks at nothing behind its last token -/
theorem Sx.lo_block1 {L L' : List Lx.Tok} (hL : Sx.Ends L) (hL' : Sx.Ends L') {k : Nat} {σ : Sx.R} (hi : σ.at' < L.length) (hi' : σ.at' < L'.length) (h : Sx.Lo L L' k) (he : (Sx.block L (Sx.fuel L) σ).2.err = 0) (hk : (Sx.block L (Sx.fuel L) σ).2.at' ≤ k + 1) : Sx.block L' (Sx.fuel L') σ = Sx.block L (Sx.fuel L) σ := by
  have hm := Sx.M_fuel L σ
  have hm' := Sx.M_fuel L' σ
  obtain ⟨F, hF⟩ : ∃ F, Sx.fuel L + Sx.fuel L' = F + 1 := ⟨Sx.fuel L + Sx.fuel L' - 1, by unfold Sx.fuel; omega⟩
  have e1 : Sx.block L (Sx.fuel L) σ = Sx.block L (F + 1) σ := (Sx.enough_stmts hL _).1 _ σ hi (by unfold Sx.fuel; omega) (by rw [← hF]; unfold Sx.fuel; omega)
  have e2 : Sx.block L' (Sx.fuel L') σ = Sx.block L' (F + 1) σ := (Sx.enough_stmts hL' _).1 _ σ hi' (by unfold Sx.fuel; omega) (by rw [← hF]; unfold Sx.fuel; omega)
  rw [e1] at hk he ⊢
  rw [e2]
  rw [Sx.block] at hk he
  rw [Sx.block, Sx.block]
  try simp only [] at hk he ⊢
  obtain ⟨_, h1⟩ := Sx.unnest_ok he
  have h2 : (Sx.stmts L F (Sx.nest L [123] σ)).2.at' ≤ k := by omega
  have h3 := ((Sx.le_nest hL [123] (by decide) σ).trans ((Sx.le_stmts hL F).2.1 _)).k h2
  rw [Sx.lo_nest h h3, (Sx.lo_stmts hL hL' h F).2.1 _ ((Sx.le_nest hL [123] (by decide) σ).2.2.1 hi) h2, Sx.lo_unnest h h2]
theorem Sx.lo_function1 {L L' : List Lx.Tok} (hL : Sx.Ends L) (hL' : Sx.Ends L') {k : Nat} {σ : Sx.R} (hi : σ.at' < L.length) (h : Sx.Lo L L' k) (he : (Sx.function L σ).2.err = 0) (hk : (Sx.function L σ).2.at' ≤ k + 1) : Sx.function L' σ = Sx.function L σ := by
  unfold Sx.function at hk he ⊢
  simp only [] at hk he ⊢
  have i1 := ((Sx.le_eat hL Sx.wFn (by decide) σ).trans ((Sx.le_some hL 1 (by decide) _).trans (Sx.le_eat hL [40] (by decide) _))).2.2.1 hi
  have i2 := ((Sx.le_plist hL _).trans ((Sx.le_eat hL [41] (by decide) _).trans ((Sx.le_may hL [58] (by decide) _).trans (Sx.le_res hL _)))).2.2.1 i1
  have q1 : (Sx.res L (Sx.may L [58] (Sx.eat L [41] (Sx.plist L (Sx.eat L [40] (Sx.some L 1 (Sx.eat L Sx.wFn σ)).2)).2))).2.at' ≤ k := by
    obtain ⟨f, hf⟩ : ∃ f, Sx.fuel L = f + 1 := ⟨16 * L.length + 15, rfl⟩
    rw [hf, Sx.block] at he hk
    try simp only [] at he hk
    obtain ⟨_, h1⟩ := Sx.unnest_ok he
    have h2 := ((Sx.le_nest hL [123] (by decide) _).trans ((Sx.le_stmts hL f).2.1 _)).k (k := k) (σ := (Sx.res L (Sx.may L [58] (Sx.eat L [41] (Sx.plist L (Sx.eat L [40] (Sx.some L 1 (Sx.eat L Sx.wFn σ)).2)).2))).2) (by omega)
    exact h2
  have hσ := ((Sx.le_eat hL Sx.wFn (by decide) σ).trans ((Sx.le_some hL 1 (by decide) _).trans ((Sx.le_eat hL [40] (by decide) _).trans ((Sx.le_plist hL _).trans ((Sx.le_eat hL [41] (by decide) _).trans ((Sx.le_may hL [58] (by decide) _).trans (Sx.le_res hL _))))))).k q1
  have q2 := (Sx.le_res hL _).k q1
  have q3 := (Sx.le_may hL [58] (by decide) _).k q2
  have q4 := (Sx.le_eat hL [41] (by decide) _).k q3
  have q5 := (Sx.le_plist hL _).k q4
  have q6 := (Sx.le_eat hL [40] (by decide) _).k q5
  have q7 := (Sx.le_some hL 1 (by decide) _).k q6
  rw [Sx.lo_eat h hσ, Sx.lo_some h q7, Sx.lo_eat h q6, Sx.lo_plist hL hL' i1 h q4, Sx.lo_eat h q4, Sx.lo_may h q3, Sx.lo_res hL h q1, Sx.lo_block1 hL hL' i2 (Sx.lo_lt h q1 i2) h he hk]
end Go.Proofs.YtbnhegipdfkdgaaDoor
end
section
namespace Go.Proofs.YtbnhegipdfkdgaaDoor
open Go.ChangeShapes Go.WideShapes Go.ChangeAt Go.RowKit
set_option linter.unusedVariables false
set_option linter.unusedSimpArgs false

/-- an operation whose guard is met, in a long region: without reckoning the region anew -/
theorem wpList_take {P : Program} {ops : Array Oper} {Q : Exit → Act → World → Prop} {a : Act} {w : World} {rest : List Oper} {o : Oper}
    (hw : Region.wanted o (yielded ops a.tmps) = true) (h : ∀ K : Act → World → Prop, (∀ a w, wpList P ops Q rest a w → K a w) → o.wp P a w K Q) : wpList P ops Q (o :: rest) a w :=
  wpList_step fun K hK => by simp only [hw, if_true]; exact h K hK
/-- a block of a struct's cells, that may be written -/
structure Blk (W : World) (b : Nat) (t : TypeId) (n : Nat) (cs : Array Value) : Prop where
 at' : W.heap[b]? = some (.cells cs t (0, 0))
 size : cs.size = n
/-- a struct's type of n cells -/
structure StructT (t : TypeId) (n : Nat) : Prop where
 und : ∃ fs, Tryd.prog.underlying t = some (.struct fs)
 info : (Tryd.prog.info? t).map (·.size) = some n
/-- cells that fit -/
structure Fits (n : Nat) (cs : Array Value) : Prop where
 size : cs.size = n
 one : cs.all (·.oneCell') = true
theorem tokT : StructT 59 4 := ⟨⟨_, Tryd.underlying59⟩, by kernel_rfl⟩
theorem badT : StructT 28 2 := ⟨⟨_, Tryd.underlying28⟩, by kernel_rfl⟩
/-- what an operation loads, from where; what it stores, where: if it does -/
def ldOp (a : Act) (o : Oper) : Option (TypeId × Value) := match o.op with | .load t x => some (t, a.eval x) | _ => none
def ldOf (a : Act) (o : Oper) : Option (TypeId × Value) := match o.guard with | none => ldOp a o | some _ => none
def stOf (a : Act) (o : Oper) : Option (TypeId × Value × Value) := match o.guard, o.op with | none, .store t x y => some (t, a.eval x, a.eval y) | _, _ => none
theorem ldOp_eq {a : Act} {o : Oper} {t : TypeId} {v : Value} (h : ldOp a o = some (t, v)) : ∃ x, o.op = .load t x ∧ a.eval x = v := by
  unfold ldOp at h
  split at h
  · next t' x hx => simp at h; exact ⟨x, by rw [hx, h.1], h.2⟩
  · cases h
theorem ldOf_eq {a : Act} {o : Oper} {t : TypeId} {v : Value} (h : ldOf a o = some (t, v)) : o.guard = none ∧ ∃ x, o.op = .load t x ∧ a.eval x = v := by
  unfold ldOf at h
  split at h
  · next hg => exact ⟨hg, ldOp_eq h⟩
  · cases h
theorem stOf_eq {a : Act} {o : Oper} {t : TypeId} {u v : Value} (h : stOf a o = some (t, u, v)) : o.guard = none ∧ ∃ x y, o.op = .store t x y ∧ a.eval x = u ∧ a.eval y = v := by
  unfold stOf at h
  split at h
  · next t' x y hg hx => simp at h; exact ⟨hg, x, y, by rw [hx, h.1], h.2.1, h.2.2⟩
  · cases h
section
variable {W W' : World} {b n : Nat} {t : TypeId} {cs ds : Array Value}
theorem Blk.lt (h : Blk W b t n cs) : b < W.heap.size := (Array.getElem?_eq_some_iff.1 h.at').1
theorem Blk.kept (h : Blk W b t n cs) (hb : Below W.heap.size W W') : Blk W' b t n cs := ⟨by rw [hb.block b h.lt]; exact h.at', h.size⟩
theorem Blk.alloc (h : Blk W b t n cs) (o : Obj) : Blk (W.alloc o) b t n cs := h.kept ((Below.refl _ _).alloc (Nat.le_refl _) o)
theorem Blk.new (W : World) (t : TypeId) (cs : Array Value) : Blk (W.alloc (.cells cs t)) W.heap.size t cs.size cs := ⟨heap_alloc_last W _, rfl⟩
theorem Blk.new' (W : World) (t : TypeId) (cs : Array Value) (k : Nat) (hk : k = W.heap.size) (hn : cs.size = n) : Blk (W.alloc (.cells cs t)) k t n cs := ⟨hk ▸ heap_alloc_last W _, hn⟩
theorem Blk.row (h : Blk W b t n cs) (hd : ds.size = n) : Blk (W.setRow b ds) b t n ds := ⟨setRow_heap W b _ _ _ _ h.at', hd⟩
theorem Blk.otherRow (h : Blk W b t n cs) (g : Nat) (ds : Array Value) (hne : b ≠ g) : Blk (W.setRow g ds) b t n cs := ⟨by rw [setRow_other _ _ _ _ hne]; exact h.at', h.size⟩
theorem Blk.other (h : Blk W b t n cs) (a : Addr) (v : Value) (hne : b ≠ a.block) : Blk (W.setCell a v) b t n cs := ⟨by rw [Below.heap_setCell _ _ _ _ hne]; exact h.at', h.size⟩
theorem Blk.cell (h : Blk W b t n cs) (k : Nat) : W.cell? ⟨b, k, none⟩ = cs[k]? := cell_of_row W b k _ _ _ h.at'
theorem Blk.open (h : Blk W b t n cs) (k : Nat) : W.frozen? ⟨b, k, none⟩ = false := by have := h.at'; simp [World.frozen?, this]
theorem Blk.set (h : Blk W b t n cs) (k : Nat) (v : Value) : Blk (W.setCell ⟨b, k, none⟩ v) b t n (cs.setIfInBounds k v) := ⟨heap_setCell_same W b k _ _ _ h.at', by simpa using h.size⟩
end
section
variable {ops : Array Oper} {rest : List Oper} {o : Oper} {a : Act} {w : World} {Q : Exit → Act → World → Prop} {K : Act → World → Prop} {b n : Nat} {t : TypeId} {cs ds : Array Value} {fn : Func} {R : Ending → World → Prop} {p q : Tmp}
theorem wp_load_blk (T : StructT t n) (h : Blk w b t n cs) (ho : ldOp a o = some (t, .pointer (some ⟨b, 0, none⟩)))
  (k : K (a.put o.dst (.agg cs)) w) : Oper.wp Tryd.prog o a w K Q := by
 obtain ⟨x, ho, hx⟩ := ldOp_eq ho
 obtain ⟨fs, hu⟩ := T.und
 exact wp_load_row _ x ho b hx _ _ _ _ h.at' hu rfl (by rw [h.size]; exact T.info) k
theorem wpList_load_blk (T : StructT t n) (h : Blk w b t n cs) (ho : ldOf a o = some (t, .pointer (some ⟨b, 0, none⟩)))
  (k : wpList Tryd.prog ops Q rest (a.put o.dst (.agg cs)) w) : wpList Tryd.prog ops Q (o :: rest) a w := by
 obtain ⟨hg, x, ho, hx⟩ := ldOf_eq ho
 obtain ⟨fs, hu⟩ := T.und
 exact wpList_load_row hg _ x ho b hx _ _ _ _ h.at' hu rfl (by rw [h.size]; exact T.info) k
theorem wpList_load_blkg (T : StructT t n) (h : Blk w b t n cs) (ho : ldOp a o = some (t, .pointer (some ⟨b, 0, none⟩))) (hw : Region.wanted o (yielded ops a.tmps) = true)
  (k : wpList Tryd.prog ops Q rest (a.put o.dst (.agg cs)) w) : wpList Tryd.prog ops Q (o :: rest) a w :=
 wpList_take hw fun _ hK => wp_load_blk T h ho (hK _ _ k)
theorem wp_store_blk (T : StructT t n) (h : Blk w b t n cs) (F : Fits n ds) (ho : o.guard = none ∧ stOf a o = some (t, .pointer (some ⟨b, 0, none⟩), .agg ds))
  (k : K (a.put o.dst undef) (w.setRow b ds)) : Oper.wp Tryd.prog o a w K Q := by
 obtain ⟨hg, x, y, ho, hx, hy⟩ := stOf_eq ho.2
 exact wp_store_row _ x y ho b _ hx hy _ _ h.at' (by rw [F.size]; exact T.info) (by rw [h.size, F.size]) F.one k
theorem wpList_store_blk (T : StructT t n) (h : Blk w b t n cs) (F : Fits n ds) (ho : stOf a o = some (t, .pointer (some ⟨b, 0, none⟩), .agg ds))
  (k : wpList Tryd.prog ops Q rest (a.put o.dst undef) (w.setRow b ds)) : wpList Tryd.prog ops Q (o :: rest) a w := by
 obtain ⟨hg, x, y, ho, hx, hy⟩ := stOf_eq ho
 exact wpList_plain hg fun _ hK => wp_store_row _ x y ho b _ hx hy _ _ h.at' (by rw [F.size]; exact T.info) (by rw [h.size, F.size]) F.one (hK _ _ k)
theorem bp_blk (T : StructT t n) (hr : fn.results = #[.cell p t]) (hp : a.tmps.getD p undef = .pointer (some ⟨b, 0, none⟩)) (h : Blk w b t n cs) (hd : a.defers = []) (hR : R (.returned (.agg cs)) w) : bodyPost Tryd.prog fn R .ret a w := by
 obtain ⟨fs, hu⟩ := T.und
 exact bodyPost_ret (results_cell_row hr _ w b _ _ _ _ hp h.at' hu rfl (by rw [h.size]; exact T.info)) hd hR
theorem bp_blk2 (T : StructT t n) (hr : fn.results = #[.cell p t, .tmp q]) (hp : a.tmps.getD p undef = .pointer (some ⟨b, 0, none⟩)) (h : Blk w b t n cs) (hd : a.defers = []) (hR : R (.returned (.tuple #[.agg cs, a.tmps.getD q undef])) w) : bodyPost Tryd.prog fn R .ret a w := by
 obtain ⟨fs, hu⟩ := T.und
 have hp' : a.tmps[p]?.getD undef = .pointer (some ⟨b, 0, none⟩) := by simpa using hp
 refine bodyPost_ret ?_ hd hR
 simp [results, hr, hp', asAddr, run_loadVar_row w b _ _ _ _ _ h.at' hu rfl (by rw [h.size]; exact T.info)]
end
theorem setRow_alloc' (W : World) (c c' : Array Value) (t : TypeId) (n : Nat) (hn : n = W.heap.size) : (W.alloc (.cells c t)).setRow n c' = W.alloc (.cells c' t) := hn ▸ World.setRow_alloc_new W c c' t
theorem alloc_drewN (w : World) (o : Obj) (n : Nat) : (w.alloc o).drewN n = (w.drewN n).alloc o := rfl
theorem alloc_drew (w : World) (o : Obj) : (w.alloc o).drew = w.drew.alloc o := rfl
/-- a token's cells, an error's cells -/
abbrev tkA (k p n : Int) (s : ByteArray) : Array Value := #[.int .i64 k, .int .i64 p, .int .i64 n, .string s]
abbrev bdA (e p : Int) : Array Value := #[.int .i64 e, .int .i64 p]
theorem fitsT (k p n : Int) (s : ByteArray) : Fits 4 (tkA k p n s) := ⟨rfl, by simp [Value.oneCell']⟩
theorem fitsB (e p : Int) : Fits 2 (bdA e p) := ⟨rfl, by simp [Value.oneCell']⟩
theorem below_setRow {B : Nat} {a w : World} (h : Below B a w) {g : Nat} (hg : B ≤ g) (cs : Array Value) : Below B a (w.setRow g cs) :=
  ⟨h.os, h.tape, h.output, by have := h.size; simpa using this, fun k hk => (setRow_other w g k cs (by omega)).trans (h.block k hk)⟩
end Go.Proofs.YtbnhegipdfkdgaaDoor
end
