/-
Plain mathematics of layer 12, for the program's own way, second part: equations without fuel; what goes on, and what an error leaves.
What lex's token returns.
Plain mathematics of layer 12, eighth part: functions, and more tokens behind them.
-/
import Derived.Test.YtbnhegipdfkdgaaDoorP08a
import Derived.Test.YtbnhegipdfkdgaaDoorP06a
section
set_option linter.unusedVariables false
set_option linter.unusedSimpArgs false
namespace Go.Proofs.YtbnhegipdfkdgaaDoor
section
variable {L : List Lx.Tok} (hL : Sx.Ends L)
include hL
theorem Sx.U_err {σ : Sx.R} (hi : σ.at' < L.length) (he : σ.err ≠ 0) : Sx.U L σ = (Sx.noE, σ) := by
  have h := Sx.fuel_M L σ
  unfold Sx.U
  rw [(Sx.enough hL _).2.2.1 (Sx.fuel L + 1) σ hi (by omega) (by omega), Sx.unary, if_pos he]
theorem Sx.U_par {σ : Sx.R} (hi : σ.at' < L.length) (h : Sx.sees L [40] σ = true) : Sx.U L σ = ((Sx.X L 0 (Sx.nest L [40] σ)).1, Sx.unnest L [41] (Sx.X L 0 (Sx.nest L [40] σ)).2) := by
  obtain ⟨he, ht⟩ := Sx.sees_text h
  have h := Sx.fuel_M L σ
  unfold Sx.U Sx.X
  rw [(Sx.enough hL _).2.2.1 (Sx.fuel L + 1) σ hi (by omega) (by omega), Sx.unary, if_neg (by simpa using he)]
  simp only []
  rw [if_pos ht]
theorem Sx.U_sign {σ : Sx.R} (hi : σ.at' < L.length) (he : σ.err = 0) (ht : Sx.text L σ = [126] ∨ Sx.text L σ = [45] ∨ Sx.text L σ = [33]) :
    Sx.U L σ = (.mk (if Sx.text L σ = [126] then 5 else if Sx.text L σ = [45] then 6 else 7) (Sx.tk L σ).pos 0 [] [(Sx.U L (Sx.nest L (Sx.text L σ) σ)).1], { (Sx.U L (Sx.nest L (Sx.text L σ) σ)).2 with opn := (Sx.U L (Sx.nest L (Sx.text L σ) σ)).2.opn - 1 }) := by
  have h := Sx.fuel_M L σ
  have hn : Sx.text L σ ≠ [40] := by rcases ht with h | h | h <;> rw [h] <;> decide
  unfold Sx.U
  rw [(Sx.enough hL _).2.2.1 (Sx.fuel L + 1) σ hi (by omega) (by omega), Sx.unary, if_neg (by simpa using he)]
  simp only []
  rw [if_neg hn, if_pos ht]
theorem Sx.U_word {σ : Sx.R} (hi : σ.at' < L.length) (he : σ.err = 0) (hn : Sx.text L σ ≠ [40]) (ht : ¬ (Sx.text L σ = [126] ∨ Sx.text L σ = [45] ∨ Sx.text L σ = [33])) : Sx.U L σ = Sx.W L (Sx.text L σ) σ := by
  have h := Sx.fuel_M L σ
  unfold Sx.U Sx.W
  rw [(Sx.enough hL _).2.2.1 (Sx.fuel L + 1) σ hi (by omega) (by omega), Sx.unary, if_neg (by simpa using he)]
  simp only []
  rw [if_neg hn, if_neg ht]
theorem Sx.W_call {σ : Sx.R} (hi : σ.at' < L.length) (he : σ.err = 0) {w : List UInt8 × Int × Nat} (hw : Sx.wordsE.find? (fun x => x.1 == Sx.text L σ) = .some w) (hr : Sx.text L σ ≠ Sx.wRor) :
    Sx.W L (Sx.text L σ) σ = (.mk w.2.1 (Sx.tk L σ).pos 0 [] (Sx.Mn L w.2.2 true (Sx.nest L [40] { σ with at' := σ.at' + 1 })).1, Sx.unnest L [41] (Sx.Mn L w.2.2 true (Sx.nest L [40] { σ with at' := σ.at' + 1 })).2) := by
  have h := Sx.fuel_M L σ
  unfold Sx.W Sx.Mn
  rw [(Sx.enough hL _).2.2.2.1 (Sx.fuel L + 1) (Sx.text L σ) σ hi he rfl (by omega) (by omega), Sx.word]
  simp only [hw]
  rw [if_neg hr]
theorem Sx.W_ror {σ : Sx.R} (hi : σ.at' < L.length) (he : σ.err = 0) (hr : Sx.text L σ = Sx.wRor) :
    Sx.W L (Sx.text L σ) σ = (.mk 16 (Sx.tk L σ).pos (Sx.some L 2 (Sx.eat L [44] (Sx.Mn L 1 true (Sx.nest L [40] { σ with at' := σ.at' + 1 })).2)).1.num [] (Sx.Mn L 1 true (Sx.nest L [40] { σ with at' := σ.at' + 1 })).1, Sx.unnest L [41] (Sx.some L 2 (Sx.eat L [44] (Sx.Mn L 1 true (Sx.nest L [40] { σ with at' := σ.at' + 1 })).2)).2) := by
  have h := Sx.fuel_M L σ
  have hw : Sx.wordsE.find? (fun x => x.1 == Sx.text L σ) = .some (Sx.wRor, 16, 1) := by rw [hr]; decide
  unfold Sx.W Sx.Mn
  rw [(Sx.enough hL _).2.2.2.1 (Sx.fuel L + 1) (Sx.text L σ) σ hi he rfl (by omega) (by omega), Sx.word]
  simp only [hw]
  rw [if_pos hr]
theorem Sx.W_num {σ : Sx.R} (hi : σ.at' < L.length) (he : σ.err = 0) (hw : Sx.wordsE.find? (fun x => x.1 == Sx.text L σ) = none) (hk : (Sx.tk L σ).kind = 2) :
    Sx.W L (Sx.text L σ) σ = (.mk 1 (Sx.tk L σ).pos (Sx.tk L σ).num [] [], { σ with at' := σ.at' + 1 }) := by
  have h := Sx.fuel_M L σ
  unfold Sx.W
  rw [(Sx.enough hL _).2.2.2.1 (Sx.fuel L + 1) (Sx.text L σ) σ hi he rfl (by omega) (by omega), Sx.word]
  simp only [hw]
  rw [if_pos hk]
theorem Sx.W_name {σ : Sx.R} (hi : σ.at' < L.length) (he : σ.err = 0) (hw : Sx.wordsE.find? (fun x => x.1 == Sx.text L σ) = none) (hk : (Sx.tk L σ).kind ≠ 2) :
    Sx.W L (Sx.text L σ) σ = Sx.Bh L (Sx.some L 1 σ).1 (Sx.some L 1 σ).2 := by
  have h := Sx.fuel_M L σ
  unfold Sx.W Sx.Bh
  rw [(Sx.enough hL _).2.2.2.1 (Sx.fuel L + 1) (Sx.text L σ) σ hi he rfl (by omega) (by omega), Sx.word]
  simp only [hw]
  rw [if_neg hk]
theorem Sx.Mn_zero (b : Bool) {σ : Sx.R} (hi : σ.at' < L.length) : Sx.Mn L 0 b σ = ([], σ) := by
  have h := Sx.fuel_M L σ
  unfold Sx.Mn
  rw [(Sx.enough hL _).2.2.2.2.1 (Sx.fuel L + 1) 0 b σ hi (by omega) (by omega), Sx.many]
theorem Sx.Mn_succ (n : Nat) (b : Bool) {σ : Sx.R} (hi : σ.at' < L.length) (hn : n ≤ 8) :
    Sx.Mn L (n + 1) b σ = ((Sx.X L 0 (if b then σ else Sx.eat L [44] σ)).1 :: (Sx.Mn L n false (Sx.X L 0 (if b then σ else Sx.eat L [44] σ)).2).1, (Sx.Mn L n false (Sx.X L 0 (if b then σ else Sx.eat L [44] σ)).2).2) := by
  have h := Sx.fuel_M L σ
  unfold Sx.Mn Sx.X
  rw [(Sx.enough hL _).2.2.2.2.1 (Sx.fuel L + 1) (n + 1) b σ hi (by omega) (by omega), Sx.many]
theorem Sx.Cm_go {σ : Sx.R} (hi : σ.at' < L.length) (hs : Sx.sees L [44] σ = true) :
    Sx.Cm L σ = ((Sx.X L 0 (Sx.eat L [44] σ)).1 :: (Sx.Cm L (Sx.X L 0 (Sx.eat L [44] σ)).2).1, (Sx.Cm L (Sx.X L 0 (Sx.eat L [44] σ)).2).2) := by
  have h := Sx.fuel_M L σ
  obtain ⟨he, ht⟩ := Sx.sees_text hs
  have hm : Sx.may L [44] σ = (true, { σ with at' := σ.at' + 1 }) := by unfold Sx.may; rw [if_pos hs]
  have hea : Sx.eat L [44] σ = { σ with at' := σ.at' + 1 } := by unfold Sx.eat; rw [if_neg (by simpa using he), if_neg (by simpa using ht)]
  unfold Sx.Cm Sx.X
  rw [(Sx.enough hL _).2.2.2.2.2.2 (Sx.fuel L + 1) σ hi (by omega) (by omega), Sx.commas, hm, hea]
  simp
theorem Sx.Cm_stop {σ : Sx.R} (hi : σ.at' < L.length) (hs : Sx.sees L [44] σ = false) : Sx.Cm L σ = ([], σ) := by
  have h := Sx.fuel_M L σ
  have hm : Sx.may L [44] σ = (false, σ) := by unfold Sx.may; rw [if_neg (by rw [hs]; decide)]
  unfold Sx.Cm
  rw [(Sx.enough hL _).2.2.2.2.2.2 (Sx.fuel L + 1) σ hi (by omega) (by omega), Sx.commas, hm]
  simp
/-- what is handed over, between the parentheses -/
def Sx.Ar (L : List Lx.Tok) (k : Nat) (σ : Sx.R) : List Sx.E × Sx.R :=
  if k = 0 then if Sx.sees L [41] σ then ([], σ) else ((Sx.X L 0 σ).1 :: (Sx.Cm L (Sx.X L 0 σ).2).1, (Sx.Cm L (Sx.X L 0 σ).2).2) else Sx.Cm L σ
theorem Sx.Bh_call (t : Lx.Tok) {σ : Sx.R} (hi : σ.at' < L.length) (hs : Sx.sees L [40] σ = true) :
    Sx.Bh L t σ = (.mk 4 t.pos 0 t.text (Sx.Ar L 0 (Sx.nest L [40] σ)).1, Sx.unnest L [41] (Sx.Ar L 0 (Sx.nest L [40] σ)).2) := by
  have h := Sx.fuel_M L σ
  unfold Sx.Bh Sx.Ar Sx.X Sx.Cm
  rw [(Sx.enough hL _).2.2.2.2.2.1 (Sx.fuel L + 1) t σ hi (by omega) (by omega), Sx.behind, if_pos hs, if_pos rfl]
  simp only []
  split <;> rfl
theorem Sx.Bh_index (t : Lx.Tok) {σ : Sx.R} (hi : σ.at' < L.length) (hs : Sx.sees L [91] σ = true) :
    Sx.Bh L t σ = (.mk 3 t.pos 0 t.text [(Sx.X L 0 (Sx.nest L [91] σ)).1], Sx.unnest L [93] (Sx.X L 0 (Sx.nest L [91] σ)).2) := by
  have h := Sx.fuel_M L σ
  have hn : Sx.sees L [40] σ = false := by
    obtain ⟨h1, h2⟩ := Sx.sees_text hs
    unfold Sx.sees; rw [h2]; simp
  unfold Sx.Bh Sx.X
  rw [(Sx.enough hL _).2.2.2.2.2.1 (Sx.fuel L + 1) t σ hi (by omega) (by omega), Sx.behind, if_neg (by rw [hn]; decide), if_pos hs]
theorem Sx.Bh_bare (t : Lx.Tok) {σ : Sx.R} (hi : σ.at' < L.length) (h1 : Sx.sees L [40] σ = false) (h2 : Sx.sees L [91] σ = false) : Sx.Bh L t σ = (.mk 2 t.pos 0 t.text [], σ) := by
  have h := Sx.fuel_M L σ
  unfold Sx.Bh
  rw [(Sx.enough hL _).2.2.2.2.2.1 (Sx.fuel L + 1) t σ hi (by omega) (by omega), Sx.behind, if_neg (by rw [h1]; decide), if_neg (by rw [h2]; decide)]
theorem Sx.X_err {t : Nat} {σ : Sx.R} (hi : σ.at' < L.length) (he : σ.err ≠ 0) : Sx.X L t σ = (Sx.noE, σ) := by
  rw [Sx.X_eq hL _ hi, Sx.U_err hL hi he, Sx.Sg_err hL _ _ _ _ hi he]
omit hL in
theorem Sx.sees_err {s : List UInt8} {σ : Sx.R} (he : σ.err ≠ 0) : Sx.sees L s σ = false := by unfold Sx.sees; rw [decide_eq_false he]; rfl
theorem Sx.Mn_err (n : Nat) (b : Bool) {σ : Sx.R} (hi : σ.at' < L.length) (hn : n ≤ 9) (he : σ.err ≠ 0) : (Sx.Mn L n b σ).2 = σ := by
  induction n generalizing b with
  | zero => rw [Sx.Mn_zero hL b hi]
  | succ n ih =>
    have h1 : (if b = true then σ else Sx.eat L [44] σ) = σ := by
      split
      · rfl
      · unfold Sx.eat; rw [if_pos he]
    rw [Sx.Mn_succ hL n b hi (by omega), h1, Sx.X_err hL hi he]
    exact ih false (by omega)
theorem Sx.Ar_err (k : Nat) {σ : Sx.R} (hi : σ.at' < L.length) (he : σ.err ≠ 0) : (Sx.Ar L k σ).2 = σ := by
  unfold Sx.Ar
  split
  · rw [Sx.sees_err he, if_neg (by decide), Sx.X_err hL hi he]
    rw [Sx.Cm_stop hL hi (Sx.sees_err he)]
  · rw [Sx.Cm_stop hL hi (Sx.sees_err he)]
/-- an expression reads something, or tells an error -/
theorem Sx.M_U {σ : Sx.R} (hi : σ.at' < L.length) (he : σ.err = 0) : Sx.M L (Sx.U L σ).2 + 16 ≤ Sx.M L σ := by
  have lX := fun t τ => Sx.M_le (Sx.le_X hL t τ)
  by_cases h1 : Sx.text L σ = [40]
  · have hs : Sx.sees L [40] σ = true := by unfold Sx.sees; simp [he, h1]
    rw [Sx.U_par hL hi hs]
    have h2 := Sx.M_nest (s := [40]) he hi
    have h3 := lX 0 (Sx.nest L [40] σ)
    have h4 := Sx.M_le (Sx.le_unnest hL [41] (by decide) (Sx.X L 0 (Sx.nest L [40] σ)).2)
    exact Nat.le_trans (Nat.add_le_add_right (Nat.le_trans h4 h3) 16) h2
  · by_cases h2 : Sx.text L σ = [126] ∨ Sx.text L σ = [45] ∨ Sx.text L σ = [33]
    · rw [Sx.U_sign hL hi he h2]
      have h3 := Sx.M_nest (s := Sx.text L σ) he hi
      have h4 := Sx.M_le (Sx.le_U hL (Sx.nest L (Sx.text L σ) σ))
      rw [Sx.M_opn]
      omega
    · rw [Sx.U_word hL hi he h1 h2]
      have hB := fun t τ => Sx.M_le ((Sx.le_exprs hL (Sx.fuel L)).2.2.2.2.2.1 t τ)
      have hM := fun n b τ => Sx.M_le ((Sx.le_exprs hL (Sx.fuel L)).2.2.2.2.1 n b τ)
      cases hw : Sx.wordsE.find? (fun x => x.1 == Sx.text L σ) with
      | some w =>
        have hn := Sx.M_next he hi
        have h3 := Sx.M_le (Sx.le_nest hL [40] (by decide) { σ with at' := σ.at' + 1 })
        by_cases hr : Sx.text L σ = Sx.wRor
        · rw [Sx.W_ror hL hi he hr]
          have h4 := hM 1 true (Sx.nest L [40] { σ with at' := σ.at' + 1 })
          have h5 := Sx.M_le ((Sx.le_eat hL [44] (by decide) (Sx.Mn L 1 true (Sx.nest L [40] { σ with at' := σ.at' + 1 })).2).trans ((Sx.le_some hL 2 (by decide) _).trans (Sx.le_unnest hL [41] (by decide) _)))
          exact Nat.le_trans (Nat.add_le_add_right (Nat.le_trans h5 (Nat.le_trans h4 h3)) 16) hn
        · rw [Sx.W_call hL hi he hw hr]
          have h4 := hM w.2.2 true (Sx.nest L [40] { σ with at' := σ.at' + 1 })
          have h5 := Sx.M_le (Sx.le_unnest hL [41] (by decide) (Sx.Mn L w.2.2 true (Sx.nest L [40] { σ with at' := σ.at' + 1 })).2)
          exact Nat.le_trans (Nat.add_le_add_right (Nat.le_trans h5 (Nat.le_trans h4 h3)) 16) hn
      | none =>
        by_cases hk : (Sx.tk L σ).kind = 2
        · rw [Sx.W_num hL hi he hw hk]; exact Sx.M_next he hi
        · rw [Sx.W_name hL hi he hw hk]
          have h3 := Sx.M_some (k := 1) he hi
          exact Nat.le_trans (Nat.add_le_add_right (hB _ _) 16) h3
theorem Sx.M_X {t : Nat} {σ : Sx.R} (hi : σ.at' < L.length) (he : σ.err = 0) : Sx.M L (Sx.X L t σ).2 + 16 ≤ Sx.M L σ := by
  rw [Sx.X_eq hL _ hi]
  have h1 := Sx.M_U hL hi he
  have h2 := Sx.M_le ((Sx.le_exprs hL (Sx.fuel L)).2.1 t 7 false (Sx.U L σ).1 (Sx.U L σ).2)
  exact Nat.le_trans (Nat.add_le_add_right h2 16) h1
/-- where no error is, a token is read -/
theorem Sx.X_at {t : Nat} {σ : Sx.R} (hi : σ.at' < L.length) (he : (Sx.X L t σ).2.err = 0) : σ.at' + 1 ≤ (Sx.X L t σ).2.at' := by
  have hs : σ.err = 0 := by
    apply Classical.byContradiction
    intro h
    rw [Sx.X_err hL hi h] at he
    exact h he
  have h1 := Sx.M_X hL (t := t) hi hs
  have h2 := Sx.X_in hL (t := t) hi
  unfold Sx.M at h1
  rw [if_neg (by simpa using he), if_neg (by simpa using hs)] at h1
  omega
omit hL in
theorem Sx.op_X (t : Nat) (σ : Sx.R) : (Sx.X L t σ).2.opn = σ.opn := (Sx.op_exprs L _).1 t σ
end
end Go.Proofs.YtbnhegipdfkdgaaDoor
end
section
namespace Go.Proofs.YtbnhegipdfkdgaaDoor
open Go.ChangeShapes Go.WideShapes Go.ChangeAt Go.RowKit Go.WideMaps Go.Maps
set_option linter.unusedVariables false
set_option linter.unusedSimpArgs false

theorem Lx.isEmpty (s : ByteArray) (h : 0 < s.size) : s.toList.isEmpty = false := by
  have h1 := Lx.notEmpty s
  cases hq : s.toList.isEmpty
  · rfl
  · rw [hq, decide_eq_true h] at h1; cases h1
theorem bel_new {w w' : World} {o : Obj} (h : Below (w.alloc o).heap.size (w.alloc o) w') : Below w.heap.size w w' := ((Below.refl _ w).alloc (Nat.le_refl _) o).trans (h.mono (by simp))
set_option maxHeartbeats 4000000 in
set_option maxRecDepth 100000 in
theorem token_none (b : Nat) (w : World) :
    Calls Tryd.prog 16 #[.string ⟨#[]⟩, .map (some b)] w fun e w' => e = .returned (.tuple #[.agg (tkA 0 0 0 ⟨#[]⟩), .bool false]) ∧ Below w.heap.size w w' := by
  have HB := Lib.hid (Blk.new w 59 (tkA 0 0 0 ⟨#[]⟩))
  go_enter Tryd.func16, Tryd.ntmps16
  go_wp2_with (first
    | ((with_reducible refine wpList_store_blk tokT HB.out (fitsT 0 0 0 ⟨#[]⟩) ?_ ?_); exact rfl))
  try simp only [Exit.inBlock, Exit.then]
  refine bp_blk2 tokT rfl rfl (HB.out.row (ds := tkA 0 0 0 ⟨#[]⟩) rfl) rfl ⟨rfl, below_setRow ((Below.refl _ _).alloc (Nat.le_refl _) _) (Nat.le_refl _) _⟩
set_option maxHeartbeats 4000000 in
set_option maxRecDepth 100000 in
theorem token_num (s : ByteArray) (hs : s.size ≤ 281474976710656) (h0 : 0 < s.size) (hd : Lx.digit (s[0]'h0) = true) (b : Nat) (w : World) :
    Calls Tryd.prog 16 #[.string s, .map (some b)] w fun e w' => (∃ n : Int, e = .returned (.tuple #[.agg (tkA 2 0 n ⟨#[]⟩), .bool (decide (0 ≤ Lx.num s.data.toList))]) ∧ (0 ≤ Lx.num s.data.toList → n = Lx.num s.data.toList)) ∧ Below w.heap.size w w' := by
  have HB := Lib.hid (Blk.new w 59 (tkA 0 0 0 ⟨#[]⟩))
  have hE := Lx.isEmpty s h0
  have C1 := Lib.hid fun w => digit_any (s[0]'h0) w
  rw [hd] at C1
  have C2 := Lib.hid fun w => number_any s hs w
  have h0' : (0 : Int) < (s.size : Int) := by omega
  generalize Lx.num s.data.toList = N at C2 ⊢
  clear hd
  go_enter Tryd.func16, Tryd.ntmps16
  go_wp2_with (first
    | (go_at_call 24; refine (C1.out _).mono ?_; rintro e w1 ⟨rfl, rfl⟩)
    | (go_at_call 26; refine (C2.out _).mono ?_; rintro e w2 ⟨⟨n, rfl, HN0⟩, hb2⟩; have HN := Lib.hid HN0; have HB2 := Lib.hid (HB.out.kept hb2); have HC := Lib.hid (bel_new hb2); clear HN0 hb2)
    | ((with_reducible refine wpList_store_blk tokT HB2.out (fitsT 2 0 n ⟨#[]⟩) ?_ ?_); exact rfl))
  try simp only [Exit.inBlock, Exit.then]
  refine bp_blk2 tokT rfl rfl (HB2.out.row (ds := tkA 2 0 n ⟨#[]⟩) rfl) rfl ⟨⟨n, rfl, HN.out⟩, below_setRow HC.out (Nat.le_refl _) _⟩
set_option maxHeartbeats 4000000 in
set_option maxRecDepth 100000 in
theorem token_sign (s : ByteArray) (hs : s.size ≤ 281474976710656) (h0 : 0 < s.size) (hd : Lx.digit (s[0]'h0) = false) (hl : Lx.letter (s[0]'h0) = false) (b : Nat) (w : World) :
    Calls Tryd.prog 16 #[.string s, .map (some b)] w fun e w' => e = .returned (.tuple #[.agg (tkA 4 0 0 s), .bool true]) ∧ Below w.heap.size w w' := by
  have HB := Lib.hid (Blk.new w 59 (tkA 0 0 0 ⟨#[]⟩))
  have hE := Lx.isEmpty s h0
  have C1 := Lib.hid fun w => digit_any (s[0]'h0) w
  rw [hd] at C1
  have C2 := Lib.hid fun w => letter_any (s[0]'h0) w
  rw [hl] at C2
  have C3 := Lib.hid fun w => clone_any s w hs
  have h0' : (0 : Int) < (s.size : Int) := by omega
  clear hd hl
  go_enter Tryd.func16, Tryd.ntmps16
  go_wp2_with (first
    | (go_at_call 24; refine (C1.out _).mono ?_; rintro e w1 ⟨rfl, rfl⟩)
    | (go_at_call 23; refine (C2.out _).mono ?_; rintro e w1 ⟨rfl, rfl⟩)
    | (go_at_call 27; refine (C3.out _).mono ?_; rintro e w2 ⟨rfl, hb2⟩; have HB2 := Lib.hid (HB.out.kept hb2); have HC := Lib.hid (bel_new hb2); clear hb2)
    | ((with_reducible refine wpList_store_blk tokT HB2.out (fitsT 4 0 0 s) ?_ ?_); exact rfl))
  try simp only [Exit.inBlock, Exit.then]
  refine bp_blk2 tokT rfl rfl (HB2.out.row (ds := tkA 4 0 0 s) rfl) rfl ⟨rfl, below_setRow HC.out (Nat.le_refl _) _⟩
set_option maxHeartbeats 4000000 in
set_option maxRecDepth 100000 in
theorem token_name (s : ByteArray) (hs : s.size ≤ 281474976710656) (h0 : 0 < s.size) (hd : Lx.digit (s[0]'h0) = false) (hl : Lx.letter (s[0]'h0) = true) (b : Nat) (w : World) (hk : KnownAt w b) :
    Calls Tryd.prog 16 #[.string s, .map (some b)] w fun e w' => e = .returned (.tuple #[.agg (tkA (if Lx.words.contains s.data.toList then 3 else 1) 0 0 s), .bool (decide (s.size ≤ 40))]) ∧ Below w.heap.size w w' := by
  have HB := Lib.hid (Blk.new w 59 (tkA 0 0 0 ⟨#[]⟩))
  have HK := Lib.hid (hk.kept ((Below.refl _ _).alloc (Nat.le_refl _) (.cells (tkA 0 0 0 ⟨#[]⟩) 59)))
  clear hk
  have hE := Lx.isEmpty s h0
  have C1 := Lib.hid fun w => digit_any (s[0]'h0) w
  rw [hd] at C1
  have C2 := Lib.hid fun w => letter_any (s[0]'h0) w
  rw [hl] at C2
  have C3 := Lib.hid fun w => clone_any s w hs
  have h0' : (0 : Int) < (s.size : Int) := by omega
  clear hd hl
  have hkey : keyOf Tryd.prog 9 (.string s) = some (.string s.data.toList) := keyOf_string_mk Tryd.underlying9 (by unfold maxLen; omega)
  have HHAS := Lib.hid (Lx.known_has s.data.toList)
  have HAT := Lib.hid (fun z => Lx.known_at s.data.toList z)
  have hdec : decide ((s.size : Int) ≤ 40) = decide (s.size ≤ 40) := decide_eq_decide.2 (by omega)
  have HD := Lib.hid hdec
  clear hdec
  cases hc : Lx.words.contains s.data.toList
  · rw [hc] at HHAS
    rw [if_neg (by decide)]
    clear HAT hc
    go_enter Tryd.func16, Tryd.ntmps16
    go_wp2_with (first
      | (go_at_call 24; refine (C1.out _).mono ?_; rintro e w1 ⟨rfl, rfl⟩)
      | (go_at_call 23; refine (C2.out _).mono ?_; rintro e w1 ⟨rfl, rfl⟩)
      | (at_lookup; refine wpList_lookup_own_ok_int _ rfl _ _ 55 rfl 9 3 .i64 lawS Tryd.underlying55 Tryd.underlying3 (zeroI _) b 19 _ rfl HK.out _ _ rfl hkey ?_; intro c hat hwc; rw [HHAS.out]; clear hat hwc)
      | (go_at_call 27; refine (C3.out _).mono ?_; rintro e w2 ⟨rfl, hb2⟩; have HB2 := Lib.hid (HB.out.kept hb2); have HC := Lib.hid (bel_new hb2); clear hb2)
      | ((with_reducible refine wpList_store_blk tokT HB2.out (fitsT 1 0 0 s) ?_ ?_); exact rfl))
    all_goals
      try simp only [Exit.inBlock, Exit.then]
      refine bp_blk2 tokT rfl rfl (HB2.out.row (ds := tkA 1 0 0 s) rfl) rfl ⟨?_, below_setRow HC.out (Nat.le_refl _) _⟩
      rw [← HD.out]; rfl
  · rw [hc] at HHAS
    have hat3 := HAT.out (.lit (.int .i64 0)) hc
    have HAT3 := Lib.hid hat3
    rw [if_pos rfl]
    clear HAT hc hat3
    go_enter Tryd.func16, Tryd.ntmps16
    go_wp2_with (first
      | (go_at_call 24; refine (C1.out _).mono ?_; rintro e w1 ⟨rfl, rfl⟩)
      | (go_at_call 23; refine (C2.out _).mono ?_; rintro e w1 ⟨rfl, rfl⟩)
      | (at_lookup; refine wpList_lookup_own_ok_int _ rfl _ _ 55 rfl 9 3 .i64 lawS Tryd.underlying55 Tryd.underlying3 (zeroI _) b 19 _ rfl HK.out _ _ rfl hkey ?_; intro c hat hwc; rw [HHAS.out]; have hc3 : c = 3 := (by have h9 := hat.symm.trans HAT3.out; injection h9 with h9; injection h9); subst hc3; clear hat hwc)
      | (go_at_call 27; refine (C3.out _).mono ?_; rintro e w2 ⟨rfl, hb2⟩; have HB2 := Lib.hid (HB.out.kept hb2); have HC := Lib.hid (bel_new hb2); clear hb2)
      | ((with_reducible refine wpList_store_blk tokT HB2.out (fitsT 3 0 0 s) ?_ ?_); exact rfl))
    all_goals
      try simp only [Exit.inBlock, Exit.then]
      refine bp_blk2 tokT rfl rfl (HB2.out.row (ds := tkA 3 0 0 s) rfl) rfl ⟨?_, below_setRow HC.out (Nat.le_refl _) _⟩
      rw [← HD.out]; rfl
end Go.Proofs.YtbnhegipdfkdgaaDoor
end
section
set_option linter.unusedVariables false
set_option linter.unusedSimpArgs false
namespace Go.Proofs.YtbnhegipdfkdgaaDoor

theorem Sx.Le.ok {L : List Lx.Tok} {σ τ : Sx.R} (h : Sx.Le L σ τ) (he : τ.err = 0) : σ.err = 0 := by
  by_cases h1 : σ.err = 0
  · exact h1
  · have := (h.2.1 h1).1; omega
/-- tokens that are no end, and an end -/
def Sx.Whole (A L : List Lx.Tok) : Prop := (∀ x ∈ A, x.kind ≠ 0) ∧ ∃ z : Lx.Tok, z.kind = 0 ∧ L = A ++ [z]
theorem Sx.whole_lt {A L : List Lx.Tok} (h : Sx.Whole A L) {σ : Sx.R} (hi : σ.at' < L.length) : ((Sx.tk L σ).kind ≠ 0 ↔ σ.at' < A.length) ∧ σ.at' ≤ A.length := by
  obtain ⟨hA, z, hz, rfl⟩ := h
  rw [List.length_append, List.length_singleton] at hi
  unfold Sx.tk
  rw [List.getD_eq_getElem?_getD]
  refine ⟨⟨fun h => ?_, fun h => ?_⟩, by omega⟩
  · rcases Nat.lt_or_ge σ.at' A.length with h1 | h1
    · exact h1
    · exfalso
      have : σ.at' = A.length := by omega
      rw [this, List.getElem?_append_right (Nat.le_refl _), Nat.sub_self] at h
      exact h hz
  · rw [List.getElem?_append_left h, List.getElem?_eq_getElem h]
    exact hA _ (List.getElem_mem h)
theorem Sx.whole_ends {A L : List Lx.Tok} (h : Sx.Whole A L) : Sx.Ends L := by
  intro i x hx hk
  obtain ⟨hA, z, hz, rfl⟩ := h
  rw [List.length_append, List.length_singleton]
  rcases Nat.lt_or_ge i A.length with h1 | h1
  · omega
  · exfalso
    rw [List.getElem?_append_right h1] at hx
    rcases hi : i - A.length with _ | j
    · rw [hi] at hx
      simp at hx
      exact hk (by rw [← hx]; exact hz)
    · rw [hi] at hx; simp at hx
theorem Sx.functions_more {A L J : List Lx.Tok} (hW : Sx.Whole A L) (hJ : Sx.Ends J) (hl : A.length < J.length) (h : ∀ i, i < A.length → J[i]? = A[i]?) (f : Nat) :
    ∀ g k σ, σ.at' < L.length → Sx.M L σ < f → Sx.M J σ < g → Sx.M J ⟨A.length, σ.opn, 0, σ.pos⟩ < k → (Sx.functions L f σ).2.err = 0 →
      (Sx.functions L f σ).2 = ⟨A.length, σ.opn, 0, σ.pos⟩ ∧ Sx.functions J g σ = ((Sx.functions L f σ).1 ++ (Sx.functions J k ⟨A.length, σ.opn, 0, σ.pos⟩).1, (Sx.functions J k ⟨A.length, σ.opn, 0, σ.pos⟩).2) := by
  have hL := Sx.whole_ends hW
  have hlen : L.length = A.length + 1 := by obtain ⟨_, z, _, rfl⟩ := hW; simp
  induction f with
  | zero => intros; omega
  | succ f ih =>
    intro g k σ hi hf hg hk he
    have hs := (Sx.le_functions hL _ σ).ok he
    obtain ⟨g, rfl⟩ : ∃ k, g = k + 1 := ⟨g - 1, by omega⟩
    obtain ⟨hw, hle⟩ := Sx.whole_lt hW hi
    rw [Sx.functions] at he ⊢
    by_cases hc : (Sx.tk L σ).kind ≠ 0
    · have hc1 : (decide (σ.err = 0) && decide ((Sx.tk L σ).kind ≠ 0)) = true := by simp [hs, hc]
      rw [if_pos hc1] at he ⊢
      simp only [] at he ⊢
      have hA := hw.1 hc
      have hlo : Sx.Lo L J (A.length - 1) := by
        intro i hi
        obtain ⟨_, z, _, rfl⟩ := hW
        rw [h i (by omega), List.getElem?_append_left (by omega)]
      have hfn := Sx.le_function hL σ
      have he1 := (Sx.le_functions hL f _).ok he
      have hi1 := hfn.2.2.1 hi
      have hm1 := Sx.M_function hL hs hi
      have hiJ : σ.at' < J.length := by omega
      have hm2 := Sx.M_function hJ hs hiJ
      have ef : Sx.function J σ = Sx.function L σ := Sx.lo_function1 hL hJ hi hlo he1 (by omega)
      have ho := Sx.op_function L σ
      have hp := hfn.2.2.2.2.2 he1
      rw [ef] at hm2
      obtain ⟨r1, r2⟩ := ih g k (Sx.function L σ).2 hi1 (by omega) (by omega) (by rw [ho, hp]; exact hk) he
      rw [ho, hp] at r1 r2
      refine ⟨r1, ?_⟩
      have hcJ : (decide (σ.err = 0) && decide ((Sx.tk J σ).kind ≠ 0)) = true := by rw [Sx.lo_tk hlo (by omega)]; exact hc1
      rw [Sx.functions, if_pos hcJ]
      simp only []
      rw [ef, r2, List.cons_append]
    · have hc1 : ¬ (decide (σ.err = 0) && decide ((Sx.tk L σ).kind ≠ 0)) = true := by simp [hc]
      rw [if_neg hc1]
      have ha : σ.at' = A.length := by
        have : ¬ σ.at' < A.length := fun h => hc (hw.2 h)
        omega
      have e : σ = ⟨A.length, σ.opn, 0, σ.pos⟩ := by
        cases σ; simp only at ha hs ⊢; rw [ha, hs]
      refine ⟨e, ?_⟩
      rw [← e, List.nil_append]
      rw [← e] at hk
      exact Sx.enough_functions hJ _ _ _ (by omega) hg hk
end Go.Proofs.YtbnhegipdfkdgaaDoor
end
