/-
The reader's small functions: an error, a word or sign that may or has to be, a token of a kind, nests.
The reader's small functions: a token of a kind, a nest that opens and one that ends.
-/
import Derived.Test.YtjfdcnggnldgdaaGreatDoorP13a
section
namespace Go.Proofs.YtjfdcnggnldgdaaGreatDoor
open Go.ChangeShapes Go.WideShapes Go.ChangeAt Go.RowKit
set_option linter.unusedVariables false
set_option linter.unusedSimpArgs false

theorem Sx.wrong_ok {L : List Lx.Tok} {e : Int} {σ : Sx.R} (h : σ.err = 0) : Sx.wrong L e σ = { σ with err := e, pos := (Sx.tk L σ).pos } := by unfold Sx.wrong; rw [if_pos h]
theorem Sx.wrong_no {L : List Lx.Tok} {e : Int} {σ : Sx.R} (h : σ.err ≠ 0) : Sx.wrong L e σ = σ := by unfold Sx.wrong; rw [if_neg h]
theorem Sx.pk_tk {L : List Lx.Tok} {σ : Sx.R} (h : σ.err = 0) : Sx.pk L σ = Sx.tk L σ := by unfold Sx.pk Sx.tk Sx.cur; rw [if_pos h]
theorem left_len {a : Addr} {cap c : Nat} {L : List Lx.Tok} {σ : Sx.R} {m e p : Int} (h : RdAt a cap L σ c m e p) : ∃ n q, L.length - c = n + 1 ∧ cap - c = q + (n + 1) ∧ n + 1 < 281474976710656 ∧ c + n + 1 = L.length := by
  have h1 := h.hc
  have h2 := cur_lt h.hat
  have h3 := h.hcap
  have h4 := h.hbig
  exact ⟨L.length - c - 1, cap - L.length, by omega, by omega, by omega, by omega⟩
theorem wrap_small (n : Nat) (h : n + 1 < 281474976710656) : IntKind.i64.wrap (n : Int) = (n : Int) := by
  rw [IntKind.wrap_i64]; omega
/-- the tokens that are left, fewer -/
theorem St.moved {X : Nat → Prop} {w0 w : World} {b : Nat} {L : List Lx.Tok} {I : List It} {a : Addr} {cap c : Nat} {m e p : Int} (h : St X w0 w (.row b 69 (rdC a cap L c m e p) :: .hp (toksHp a L) :: I)) (c' : Nat) {v : Value} (hv : v = .slice (some (a.add (c' * 4))) (L.length - c') (cap - c')) :
    St X w0 (w.setCell ⟨b, 0, none⟩ v) (.row b 69 (rdC a cap L c' m e p) :: .hp (toksHp a L) :: I) := by
  subst hv
  exact h.setCell 0 rfl 0 _
/-- the nests, another number -/
theorem St.nests {X : Nat → Prop} {w0 w : World} {b : Nat} {L : List Lx.Tok} {I : List It} {a : Addr} {cap c : Nat} {m e p : Int} (h : St X w0 w (.row b 69 (rdC a cap L c m e p) :: .hp (toksHp a L) :: I)) (m' : Int) :
    St X w0 (w.setCell ⟨b, 1, none⟩ (.int .i64 m')) (.row b 69 (rdC a cap L c m' e p) :: .hp (toksHp a L) :: I) := h.setCell 0 rfl 1 _
theorem rd_last {a : Addr} {cap c : Nat} {L : List Lx.Tok} {σ : Sx.R} {m e p : Int} (h : RdAt a cap L σ c m e p) (τ : Sx.R) (e' p' : Int) (ha : τ.at' = σ.at') (he : τ.err ≠ 0) (he' : e' = τ.err) (hp' : p' = τ.pos) : RdAt a cap L τ (L.length - 1) m e' p' :=
  ⟨h.hcap, h.hbig, by rw [ha]; exact h.hat, by unfold Sx.cur; rw [if_neg he], he', hp', fun h0 => absurd h0 he, fun h0 => absurd h0 he⟩
theorem rd_next {a : Addr} {cap c : Nat} {L : List Lx.Tok} {σ : Sx.R} {m e p : Int} (h : RdAt a cap L σ c m e p) (he : σ.err = 0) (hl : c + 1 < L.length) : RdAt a cap L { σ with at' := σ.at' + 1 } (c + 1) m e p := by
  have hc : c = σ.at' := by rw [h.hc]; unfold Sx.cur; rw [if_pos he]
  exact ⟨h.hcap, h.hbig, by show σ.at' + 1 < _; omega, by unfold Sx.cur; rw [if_pos (by exact he)]; show _ = σ.at' + 1; omega, h.he, h.hp, h.hz, h.hm⟩
theorem last_slice {a : Addr} {cap c n q : Nat} {L : List Lx.Tok} (hq : cap - c = q + (n + 1)) (hi : c + n + 1 = L.length) : Value.slice (some ((a.add (c * 4)).add (n * 4))) 1 (q + (n + 1) - n) = .slice (some (a.add ((L.length - 1) * 4))) (L.length - (L.length - 1)) (cap - (L.length - 1)) := by
  rw [Go.Deep.add_add, show c * 4 + n * 4 = (L.length - 1) * 4 by omega, show L.length - (L.length - 1) = 1 by omega, show cap - (L.length - 1) = q + (n + 1) - n by omega]
theorem next_slice {a : Addr} {cap c n q : Nat} {L : List Lx.Tok} (hq : cap - c = q + (n + 1)) (hi : c + n + 1 = L.length) : Value.slice (some { block := (a.add (c * 4)).block, off := (a.add (c * 4)).off + 4, spot := none }) n (q + n) = .slice (some (a.add ((c + 1) * 4))) (L.length - (c + 1)) (cap - (c + 1)) := by
  show Value.slice (some ((a.add (c * 4)).add 4)) n (q + n) = _
  rw [Go.Deep.add_add, show c * 4 + 4 = (c + 1) * 4 by omega, show L.length - (c + 1) = n by omega, show cap - (c + 1) = q + n by omega]
/-- what lex tells of a token -/
def Sx.Clean (L : List Lx.Tok) : Prop := ∀ x ∈ L, (x.kind = 1 → (∃ c r, x.text = c :: r ∧ Lx.letter c = true) ∧ Lx.words.contains x.text = false) ∧ (x.kind = 2 ∨ x.kind = 0 → x.text = []) ∧ (x.kind = 0 ∨ x.kind = 1 ∨ x.kind = 2 ∨ x.kind = 3 ∨ x.kind = 4)
/-- a word of the language, or a sign -/
def Sx.kw (s : List UInt8) : Bool := match s with | [] => false | c :: r => Lx.words.contains (c :: r) || !Lx.letter c
theorem Sx.kw_ne {s : List UInt8} (h : Sx.kw s = true) : s ≠ [] := by rintro rfl; cases h
theorem Sx.clean_at {L : List Lx.Tok} (hC : Sx.Clean L) {x : Lx.Tok} (hx : x ∈ L) {s : List UInt8} (hs : Sx.kw s = true) : x.text = s ↔ (if x.kind = 3 ∨ x.kind = 4 then x.text else []) = s := by
  obtain ⟨h1, h2, h3⟩ := hC x hx
  rcases h3 with h | h | h | h | h
  · rw [h2 (Or.inr h), if_neg (by rw [h]; decide)]
  · rw [if_neg (by rw [h]; decide)]
    obtain ⟨⟨c, r, hc, hl⟩, hw⟩ := h1 h
    refine ⟨fun e => ?_, fun e => absurd e.symm (Sx.kw_ne hs)⟩
    subst e
    rw [hc] at hs hw
    have h9 : (Lx.words.contains (c :: r) || !Lx.letter c) = true := hs
    rw [hw, hl] at h9
    cases h9
  · rw [h2 (Or.inl h), if_neg (by rw [h]; decide)]
  · rw [if_pos (Or.inl h)]
  · rw [if_pos (Or.inr h)]
theorem Sx.pk_in {L : List Lx.Tok} {σ : Sx.R} (hi : σ.at' < L.length) : Sx.pk L σ ∈ L := by
  have hl := cur_lt hi
  unfold Sx.pk
  rw [List.getD_eq_getElem?_getD, List.getElem?_eq_getElem hl]
  exact List.getElem_mem hl
theorem Sx.end_tok {L : List Lx.Tok} (hL : Sx.Ends L) (hC : Sx.Clean L) {σ : Sx.R} (hi : σ.at' < L.length) (he : σ.err ≠ 0) : (Sx.pk L σ).kind = 0 ∧ (Sx.pk L σ).text = [] := by
  have hl : L.length - 1 < L.length := by omega
  have hk : (Sx.pk L σ).kind = 0 := by
    unfold Sx.pk Sx.cur
    rw [if_neg he, List.getD_eq_getElem?_getD, List.getElem?_eq_getElem hl]
    apply Classical.byContradiction
    intro h
    have := hL (L.length - 1) _ (List.getElem?_eq_getElem hl) h
    omega
  exact ⟨hk, (hC _ (Sx.pk_in hi)).2.1 (Or.inr hk)⟩
/-- whether a word or sign is next -/
theorem Sx.is_sees {L : List Lx.Tok} (hL : Sx.Ends L) (hC : Sx.Clean L) {σ : Sx.R} (hi : σ.at' < L.length) {s : List UInt8} (hs : Sx.kw s = true) : decide ((Sx.pk L σ).text = s) = Sx.sees L s σ := by
  unfold Sx.sees
  by_cases he : σ.err = 0
  · rw [decide_eq_true he, Bool.true_and]
    refine decide_eq_decide.2 ?_
    have h := Sx.clean_at hC (Sx.pk_in hi) hs
    rw [Sx.pk_tk he] at h ⊢
    exact h
  · rw [decide_eq_false he, Bool.false_and, (Sx.end_tok hL hC hi he).2]
    exact decide_eq_false (fun h => Sx.kw_ne hs h.symm)
/-- what a reader's tokens are -/
structure Sx.Ok (L : List Lx.Tok) : Prop where
  ends : Sx.Ends L
  clean : Sx.Clean L
  len : L.length ≤ 65537
theorem Lx.S_inj {s t : List UInt8} : ((Lx.S s).toList == (Lx.S t).toList) = decide (s = t) := by
  rw [Lib.toList_data, Lib.toList_data]
  show (s == t) = _
  by_cases h : s = t
  · rw [decide_eq_true h, h]; simp
  · rw [decide_eq_false h]; simpa using h
theorem St.at' {X : Nat → Prop} {w0 w : World} {b : Nat} {L : List Lx.Tok} {σ : Sx.R} {I : List It} (h : St X w0 w (rd b L σ :: I)) : σ.at' < L.length := by
  obtain ⟨a, cap, c, m, e, p, hr, _⟩ := h.rdOpen
  exact hr.hat
set_option maxHeartbeats 4000000 in
set_option maxRecDepth 100000 in
theorem fail_fn (b : Nat) (L : List Lx.Tok) (σ : Sx.R) (er : Int) (her : er ≠ 0) : Fn 178 #[.pointer (some ⟨b, 0, none⟩), .int .i64 er] [rd b L σ]
    fun e J => e = .returned (.tuple #[]) ∧ J = [rd b L (Sx.wrong L er σ)] := by
  intro w P hP hs
  have HS := Lib.hid (St.start hP hs)
  have C1 := Lib.hid (failed_fn b L σ)
  have C2 := Lib.hid (next_fn b L σ)
  have HE := Lib.hid her
  have hF1 := tokF1
  clear hs hP her
  by_cases herr : σ.err = 0
  · have hd : decide (σ.err ≠ 0) = false := by rw [herr]; rfl
    rw [hd] at C1
    have HX := Lib.hid herr
    clear hd herr
    go_enter Tryz.func178, Tryz.ntmps178
    go_wp2_with (first
      | (go_at_call 32; refine (HS.out.call1 C1.out).mono ?_; rintro e w1 ⟨J, ⟨rfl, rfl⟩, hs⟩; simp only [List.cons_append, List.nil_append] at hs; have HS1 := Lib.hid hs; clear hs)
      | (go_at_call 61; refine (HS1.out.call1 C2.out).mono ?_; rintro e w2 ⟨J, ⟨rfl, rfl⟩, hs⟩; simp only [List.cons_append, List.nil_append] at hs; have HS2 := Lib.hid hs; clear hs; obtain ⟨a, cap, c, m, e, p, hr, hs3⟩ := HS2.out.rdOpen; have HS3 := Lib.hid hs3; have HR := Lib.hid hr; clear hs3 hr)
      | (refine wpl_storeBad HS3.out 0 er ((Sx.pk L σ).pos : Int) rfl rfl ?_; intro w4 hs4; have HS4 := Lib.hid (show St _ _ _ [.row b 69 (rdC a cap L c m er ((Sx.pk L σ).pos : Int)), .hp (toksHp a L)] from hs4.out); obtain ⟨n, q, hn, hq, hb, hi⟩ := left_len HR.out; have hw := wrap_small n hb; have hle : (n : Int) ≤ (n : Int) + 1 := (by omega); have h0 : (0 : Int) ≤ (n : Int) := Int.natCast_nonneg n; have hne : ¬ (q + (n + 1) = n) := (by omega); have c0 : w4.cell? ⟨b, 0, none⟩ = some (.slice (some (a.add (c * 4))) (L.length - c) (cap - c)) := HS4.out.cell 0 rfl 0; have f0 := HS4.out.open 0 rfl 0; rw [hn, hq] at c0; clear hs4))
    go_region
    all_goals (try go_wp2)
    all_goals (refine bodyPost_end (results_none rfl _ _ _) rfl ⟨_, ⟨rfl, rfl⟩, St.rdClose (rd_last HR.out _ _ _ ?_ ?_ ?_ ?_) (HS4.out.moved (L.length - 1) (last_slice hq hi)).drew⟩)
    all_goals rw [Sx.wrong_ok HX.out]
    all_goals first | exact HE.out | rfl | (rw [Sx.pk_tk HX.out])
  · have hd : decide (σ.err ≠ 0) = true := decide_eq_true herr
    rw [hd] at C1
    have HX := Lib.hid herr
    clear hd herr
    go_enter Tryz.func178, Tryz.ntmps178
    go_wp2_with (first
      | (go_at_call 32; refine (HS.out.call1 C1.out).mono ?_; rintro e w1 ⟨J, ⟨rfl, rfl⟩, hs⟩; simp only [List.cons_append, List.nil_append] at hs; have HS1 := Lib.hid hs; clear hs; obtain ⟨a, cap, c, m, e, p, hr, hs3⟩ := HS1.out.rdOpen; have HS3 := Lib.hid hs3; have HR := Lib.hid hr; clear hs3 hr; obtain ⟨n, q, hn, hq, hb, hi⟩ := left_len HR.out; have hw := wrap_small n hb; have hle : (n : Int) ≤ (n : Int) + 1 := (by omega); have h0 : (0 : Int) ≤ (n : Int) := Int.natCast_nonneg n; have hne : ¬ (q + (n + 1) = n) := (by omega); have c0 : w1.cell? ⟨b, 0, none⟩ = some (.slice (some (a.add (c * 4))) (L.length - c) (cap - c)) := HS3.out.cell 0 rfl 0; have f0 := HS3.out.open 0 rfl 0; rw [hn, hq] at c0))
    go_region
    all_goals (try go_wp2)
    all_goals (refine bodyPost_end (results_none rfl _ _ _) rfl ⟨_, ⟨rfl, rfl⟩, St.rdClose (rd_last HR.out _ _ _ ?_ ?_ ?_ ?_) (HS3.out.moved (L.length - 1) (last_slice hq hi)).drew⟩)
    all_goals rw [Sx.wrong_no HX.out]
    all_goals first | exact HX.out | exact HR.out.he | exact HR.out.hp
set_option maxHeartbeats 4000000 in
set_option maxRecDepth 100000 in
theorem is_fn (b : Nat) (L : List Lx.Tok) (hL : Sx.Ok L) (σ : Sx.R) (s : List UInt8) (hs : Sx.kw s = true) : Fn 180 #[.pointer (some ⟨b, 0, none⟩), .string (Lx.S s)] [rd b L σ]
    fun e J => e = .returned (.bool (Sx.sees L s σ)) ∧ J = [rd b L σ] := by
  intro w P hP h0
  have HS := Lib.hid (St.start hP h0)
  have C2 := Lib.hid (next_fn b L σ)
  have HI := Lib.hid (Sx.is_sees hL.ends hL.clean HS.out.at' hs)
  have hE : ((Lx.S (Sx.pk L σ).text).toList == (Lx.S s).toList) = decide ((Sx.pk L σ).text = s) := Lx.S_inj
  have hF3 := tokF3
  clear h0 hP hs hL
  go_enter Tryz.func180, Tryz.ntmps180
  go_wp2_with (first
    | (go_at_call 61; refine (HS.out.call1 C2.out).mono ?_; rintro e w1 ⟨J, ⟨rfl, rfl⟩, hs⟩; simp only [List.cons_append, List.nil_append] at hs; have HS1 := Lib.hid hs; clear hs))
  go_ret
  exact ⟨_, ⟨by rw [← HI.out]; simp [hE], rfl⟩, HS1.out⟩
set_option maxHeartbeats 4000000 in
set_option maxRecDepth 100000 in
theorem may_fn (b : Nat) (L : List Lx.Tok) (hL : Sx.Ok L) (σ : Sx.R) (s : List UInt8) (hs : Sx.kw s = true) : Fn 121 #[.pointer (some ⟨b, 0, none⟩), .string (Lx.S s)] [rd b L σ]
    fun e J => e = .returned (.bool (Sx.may L s σ).1) ∧ J = [rd b L (Sx.may L s σ).2] := by
  intro w P hP h0
  have HS := Lib.hid (St.start hP h0)
  have C1 := Lib.hid (is_fn b L hL σ s hs)
  have hle := Sx.le_may hL.ends s (Sx.kw_ne hs) σ
  have hat := hle.2.2.1 HS.out.at'
  clear h0 hP hs hL hle
  unfold Sx.may at hat ⊢
  by_cases h : Sx.sees L s σ = true
  · rw [h] at C1
    rw [if_pos h] at hat ⊢
    have HX := Lib.hid (Sx.sees_text h).1
    have HA := Lib.hid hat
    clear h hat
    go_enter Tryz.func121, Tryz.ntmps121
    go_wp2_with (first
      | (go_at_call 180; refine (HS.out.call1 C1.out).mono ?_; rintro e w1 ⟨J, ⟨rfl, rfl⟩, hs⟩; simp only [List.cons_append, List.nil_append] at hs; have HS1 := Lib.hid hs; clear hs; obtain ⟨a, cap, c, m, e, p, hr, hs3⟩ := HS1.out.rdOpen; have HS3 := Lib.hid hs3; have HR := Lib.hid hr; clear hs3 hr; obtain ⟨n, q, hn, hq, hb, hi⟩ := left_len HR.out; have hw := wrap_small n hb; have hle : (n : Int) ≤ (n : Int) + 1 := (by omega); have h0 : (0 : Int) ≤ (n : Int) := Int.natCast_nonneg n; have hne : ¬ (q + (n + 1) = n) := (by omega); have c0 : w1.cell? ⟨b, 0, none⟩ = some (.slice (some (a.add (c * 4))) (L.length - c) (cap - c)) := HS3.out.cell 0 rfl 0; have f0 := HS3.out.open 0 rfl 0; rw [hn, hq] at c0; have hne1 : ¬ (q + (n + 1) = 1) := (by have h1 : c = σ.at' := (by rw [HR.out.hc]; unfold Sx.cur; rw [if_pos HX.out]); have h2 : σ.at' + 1 < L.length := HA.out; omega); have hle1 : (1 : Int) ≤ (n : Int) + 1 := (by omega)))
    refine bodyPost_ret (results_tmp rfl _ _ _) rfl ⟨_, ⟨rfl, rfl⟩, St.rdClose (rd_next HR.out HX.out ?_) (HS3.out.moved (c + 1) (next_slice hq hi))⟩
    have h1 : c = σ.at' := by rw [HR.out.hc]; unfold Sx.cur; rw [if_pos HX.out]
    have h2 : σ.at' + 1 < L.length := HA.out
    omega
  · have h' : Sx.sees L s σ = false := by simpa using h
    rw [h'] at C1 ⊢
    clear h h'
    go_enter Tryz.func121, Tryz.ntmps121
    go_wp2_with (first
      | (go_at_call 180; refine (HS.out.call1 C1.out).mono ?_; rintro e w1 ⟨J, ⟨rfl, rfl⟩, hs⟩; simp only [List.cons_append, List.nil_append] at hs; have HS1 := Lib.hid hs; clear hs))
    go_ret
    exact ⟨_, ⟨rfl, rfl⟩, HS1.out⟩
theorem Sx.eat_may {L : List Lx.Tok} {s : List UInt8} {σ : Sx.R} : Sx.eat L s σ = if (Sx.may L s σ).1 = true then (Sx.may L s σ).2 else Sx.wrong L 10 (Sx.may L s σ).2 := by
  unfold Sx.eat Sx.may Sx.sees
  by_cases he : σ.err = 0
  · by_cases ht : Sx.text L σ = s
    · simp [he, ht]
    · simp [he, ht]
  · simp [he, Sx.wrong_no he]
set_option maxHeartbeats 4000000 in
set_option maxRecDepth 100000 in
theorem want_fn (b : Nat) (L : List Lx.Tok) (hL : Sx.Ok L) (σ : Sx.R) (s : List UInt8) (hs : Sx.kw s = true) : Fn 117 #[.pointer (some ⟨b, 0, none⟩), .string (Lx.S s)] [rd b L σ]
    fun e J => e = .returned (.tuple #[]) ∧ J = [rd b L (Sx.eat L s σ)] := by
  intro w P hP h0
  have HS := Lib.hid (St.start hP h0)
  have C1 := Lib.hid (may_fn b L hL σ s hs)
  have C2 := Lib.hid (fail_fn b L (Sx.may L s σ).2 10 (by decide))
  have HE := Lib.hid (Sx.eat_may (L := L) (s := s) (σ := σ))
  clear h0 hP hs hL
  cases h : (Sx.may L s σ).1
  · rw [h] at C1 HE
    clear h
    go_enter Tryz.func117, Tryz.ntmps117
    go_wp2_with (first
      | (go_at_call 121; refine (HS.out.call1 C1.out).mono ?_; rintro e w1 ⟨J, ⟨rfl, rfl⟩, hs⟩; simp only [List.cons_append, List.nil_append] at hs; have HS1 := Lib.hid hs; clear hs)
      | (go_at_call 178; refine (HS1.out.call1 C2.out).mono ?_; rintro e w2 ⟨J, ⟨rfl, rfl⟩, hs⟩; simp only [List.cons_append, List.nil_append] at hs; have HS2 := Lib.hid hs; clear hs))
    try simp only [Exit.inBlock, Exit.then]
    refine bodyPost_end (results_none rfl _ _ _) rfl ⟨_, ⟨rfl, rfl⟩, ?_⟩
    rw [HE.out]; exact HS2.out
  · rw [h] at C1 HE
    clear h
    go_enter Tryz.func117, Tryz.ntmps117
    go_wp2_with (first
      | (go_at_call 121; refine (HS.out.call1 C1.out).mono ?_; rintro e w1 ⟨J, ⟨rfl, rfl⟩, hs⟩; simp only [List.cons_append, List.nil_append] at hs; have HS1 := Lib.hid hs; clear hs))
    try simp only [Exit.inBlock, Exit.then]
    refine bodyPost_end (results_none rfl _ _ _) rfl ⟨_, ⟨rfl, rfl⟩, ?_⟩
    rw [HE.out]; exact HS1.out
end Go.Proofs.YtjfdcnggnldgdaaGreatDoor
end
section
namespace Go.Proofs.YtjfdcnggnldgdaaGreatDoor
open Go.ChangeShapes Go.WideShapes Go.ChangeAt Go.RowKit
set_option linter.unusedVariables false
set_option linter.unusedSimpArgs false

theorem Sx.some_no {L : List Lx.Tok} {k : Int} {σ : Sx.R} (hL : Sx.Ok L) (hi : σ.at' < L.length) (hk : k ≠ 0) (h : (Sx.pk L σ).kind ≠ k) : Sx.some L k σ = (Sx.noTok, Sx.wrong L 10 σ) := by
  unfold Sx.some
  by_cases he : σ.err = 0
  · rw [if_neg (by simpa using he), if_pos (by rw [← Sx.pk_tk he]; exact h)]
  · rw [if_pos he, Sx.wrong_no he]
theorem Sx.some_is {L : List Lx.Tok} {k : Int} {σ : Sx.R} (hL : Sx.Ok L) (hi : σ.at' < L.length) (hk : k ≠ 0) (h : (Sx.pk L σ).kind = k) : σ.err = 0 ∧ Sx.some L k σ = (Sx.pk L σ, { σ with at' := σ.at' + 1 }) := by
  have he : σ.err = 0 := by
    apply Classical.byContradiction
    intro he
    exact hk (h.symm.trans (Sx.end_tok hL.ends hL.clean hi he).1)
  refine ⟨he, ?_⟩
  unfold Sx.some
  rw [if_neg (by simpa using he), if_neg (by rw [← Sx.pk_tk he]; simpa using h), Sx.pk_tk he]
set_option maxHeartbeats 8000000 in
set_option maxRecDepth 100000 in
theorem take_fn (b : Nat) (L : List Lx.Tok) (hL : Sx.Ok L) (σ : Sx.R) (k : Int) (hk : k ≠ 0) : Fn 118 #[.pointer (some ⟨b, 0, none⟩), .int .i64 k] [rd b L σ]
    fun e J => e = .returned (.agg #[.int .i64 ((Sx.some L k σ).1).kind, .int .i64 ((Sx.some L k σ).1).pos, .int .i64 ((Sx.some L k σ).1).num, .string (Lx.S ((Sx.some L k σ).1).text)]) ∧ J = [rd b L (Sx.some L k σ).2] := by
  intro w P hP h0
  have HS := Lib.hid (St.start hP h0)
  have hat := HS.out.at'
  have C1 := Lib.hid (next_fn b L σ)
  have C2 := Lib.hid (fail_fn b L σ 10 (by decide))
  clear h0 hP
  by_cases h : (Sx.pk L σ).kind = k
  · obtain ⟨he, hso⟩ := Sx.some_is hL hat hk h
    have hl := ((Sx.le_some hL.ends k hk σ).2.2.1 hat)
    rw [hso] at hl ⊢
    have HX := Lib.hid he
    have HA := Lib.hid hl
    clear hL he hl hso hat
    go_enter Tryz.func118, Tryz.ntmps118
    go_wp2_with (first
      | (refine wpl_alloc HS.out _ rfl tokZ ?_; intro b1 w1 HS1)
      | (go_at_call 61; refine (HS1.out.call1 C1.out).mono ?_; rintro e w2 ⟨J, ⟨rfl, rfl⟩, hs⟩; simp only [List.cons_append, List.nil_append] at hs; have HS2 := Lib.hid hs; clear hs)
      | (refine wpl_alloc HS2.out _ rfl tokZ ?_; intro b2 w3 HS3)
      | (refine wpl_storeS HS3.out 1 rfl rfl tokT rfl (fitsT _ _ _ _) ?_; intro w4 hs4; have HS4 := Lib.hid (show St _ _ _ (_ :: _ :: _ :: []) from hs4.out); clear hs4; obtain ⟨a, cap, c, m, e, p, hr, hs3⟩ := HS4.out.rdOpen; have HR := Lib.hid hr; clear hr; obtain ⟨n, q, hn, hq, hb, hi⟩ := left_len HR.out; have hw := wrap_small n hb; have hle : (n : Int) ≤ (n : Int) + 1 := (by omega); have h0 : (0 : Int) ≤ (n : Int) := Int.natCast_nonneg n; have hne : ¬ (q + (n + 1) = n) := (by omega); rw [rdC, hn, hq] at hs3; have HO := Lib.hid hs3; clear hs3; have hne1 : ¬ (q + (n + 1) = 1) := (by have h1 : c = σ.at' := (by rw [HR.out.hc]; unfold Sx.cur; rw [if_pos HX.out]); have h2 : σ.at' + 1 < L.length := HA.out; omega); have hle1 : (1 : Int) ≤ (n : Int) + 1 := (by omega))
      | (refine wpl_load HS4.out 1 rfl rfl intO rfl ?_)
      | (refine wpl_load HO.out 0 rfl rfl toksO rfl ?_)
      | (refine wpl_store HO.out 0 rfl rfl toksO (of_decide_eq_true rfl) rfl ?_; intro w5 hs5; have HS5 := Lib.hid (show St _ _ _ (_ :: _ :: _ :: _ :: []) from hs5.out); clear hs5)
      | (refine wpl_loadS HS5.out 2 rfl rfl tokT rfl ?_)
      | (refine wpl_storeS HS5.out 3 rfl rfl tokT rfl (fitsT _ _ _ _) ?_; intro w6 HS6))
    refine bp_cell HS6.out 3 tokT rfl rfl rfl rfl rfl ⟨_, ⟨by rw [h], rfl⟩, St.rdClose (rd_next HR.out HX.out ?_) ?_⟩
    · have h1 : c = σ.at' := by rw [HR.out.hc]; unfold Sx.cur; rw [if_pos HX.out]
      have h2 : σ.at' + 1 < L.length := HA.out
      omega
    · have hx : St P w w6 [.row b 69 #[Value.slice (some { block := (a.add (c * 4)).block, off := (a.add (c * 4)).off + 4, spot := none }) n (q + n), .int .i64 m, .int .i64 e, .int .i64 p], .hp (toksHp a L)] := HS6.out.sel [0, 0] rfl
      rw [next_slice hq hi] at hx
      exact hx
  · have hso := Sx.some_no hL hat hk h
    rw [hso]
    clear hL hso hat
    go_enter Tryz.func118, Tryz.ntmps118
    go_wp2_with (first
      | (refine wpl_alloc HS.out _ rfl tokZ ?_; intro b1 w1 HS1)
      | (go_at_call 61; refine (HS1.out.call1 C1.out).mono ?_; rintro e w2 ⟨J, ⟨rfl, rfl⟩, hs⟩; simp only [List.cons_append, List.nil_append] at hs; have HS2 := Lib.hid hs; clear hs)
      | (refine wpl_alloc HS2.out _ rfl tokZ ?_; intro b2 w3 HS3)
      | (go_at_call 178; refine (HS4.out.call1 C2.out).mono ?_; rintro e w5 ⟨J, ⟨rfl, rfl⟩, hs⟩; simp only [List.cons_append, List.nil_append] at hs; have HS5 := Lib.hid hs; clear hs)
      | (refine wpl_storeS HS3.out 1 rfl rfl tokT rfl (fitsT _ _ _ _) ?_; intro w4 hs4; have HS4 := Lib.hid (show St _ _ _ (_ :: _ :: _ :: []) from hs4.out); clear hs4)
      | (refine wpl_load HS4.out 1 rfl rfl intO rfl ?_)
      | (refine wpl_storeS HS5.out 2 rfl rfl tokT rfl (fitsT 0 0 0 ⟨#[]⟩) ?_; intro w6 HS6))
    refine bp_cell HS6.out 2 tokT rfl rfl rfl rfl rfl ⟨_, ⟨rfl, rfl⟩, HS6.out.sel [0] rfl⟩
theorem rd_more {a : Addr} {cap c : Nat} {L : List Lx.Tok} {σ : Sx.R} {m e p : Int} (h : RdAt a cap L σ c m e p) (hl : σ.err = 0 → σ.opn ≤ 63) : RdAt a cap L { σ with opn := σ.opn + 1 } c (wrap64 (m + 1)) e p :=
  ⟨h.hcap, h.hbig, h.hat, h.hc, h.he, h.hp, h.hz, fun h0 => by
    obtain ⟨h1, h2, h3⟩ := h.hm h0
    have h4 := hl h0
    have h5 : wrap64 (m + 1) = m + 1 := by simp only [wrap64]; omega
    rw [h5]
    refine ⟨?_, ?_, ?_⟩
    · show m + 1 = σ.opn + 1; omega
    · omega
    · omega⟩
theorem rd_less {a : Addr} {cap c : Nat} {L : List Lx.Tok} {σ : Sx.R} {m e p : Int} (h : RdAt a cap L σ c m e p) (hl : σ.err = 0 → 1 ≤ σ.opn) : RdAt a cap L { σ with opn := σ.opn - 1 } c (wrap64 (m - 1)) e p :=
  ⟨h.hcap, h.hbig, h.hat, h.hc, h.he, h.hp, h.hz, fun h0 => by
    obtain ⟨h1, h2, h3⟩ := h.hm h0
    have h4 := hl h0
    have h5 : wrap64 (m - 1) = m - 1 := by simp only [wrap64]; omega
    rw [h5]
    refine ⟨?_, ?_, ?_⟩
    · show m - 1 = σ.opn - 1; omega
    · omega
    · omega⟩
theorem Sx.eat_sees {L : List Lx.Tok} {s : List UInt8} {σ : Sx.R} (h : (Sx.eat L s σ).err = 0) : Sx.sees L s σ = true := by
  unfold Sx.eat at h
  unfold Sx.sees
  by_cases he : σ.err = 0
  · rw [if_neg (by simpa using he)] at h
    by_cases ht : Sx.text L σ = s
    · simp [he, ht]
    · rw [if_pos ht] at h
      exact absurd h (Sx.wrong_err (by decide))
  · rw [if_pos he] at h; exact absurd h he
theorem Sx.eat_no {L : List Lx.Tok} {s : List UInt8} {σ : Sx.R} (h : σ.err ≠ 0) : Sx.eat L s σ = σ := by unfold Sx.eat; rw [if_pos h]
/-- a state of which the program's number of nests is not yet told -/
theorem Sx.op_keep {L : List Lx.Tok} (s : List UInt8) (σ : Sx.R) : (Sx.eat L s σ).opn = σ.opn := by
  unfold Sx.eat Sx.wrong
  split
  · rfl
  · split
    · split <;> rfl
    · rfl
set_option maxHeartbeats 8000000 in
set_option maxRecDepth 100000 in
theorem open_fn (b : Nat) (L : List Lx.Tok) (hL : Sx.Ok L) (σ : Sx.R) (s : List UInt8) (hs : Sx.kw s = true) : Fn 179 #[.pointer (some ⟨b, 0, none⟩), .string (Lx.S s)] [rd b L σ]
    fun e J => e = .returned (.tuple #[]) ∧ J = [rd b L (Sx.nest L s σ)] := by
  intro w P hP h0
  have HS := Lib.hid (St.start hP h0)
  have C1 := Lib.hid (is_fn b L hL σ s hs)
  have C2 := Lib.hid (fail_fn b L σ 11 (by decide))
  by_cases h : Sx.sees L s σ = true
  · by_cases h64 : 64 ≤ σ.opn
    · have hn : Sx.nest L s σ = { Sx.eat L s (Sx.wrong L 11 σ) with opn := (Sx.eat L s (Sx.wrong L 11 σ)).opn + 1 } := by
        unfold Sx.nest; rw [h, decide_eq_true h64]; rfl
      have C3 := Lib.hid (want_fn b L hL (Sx.wrong L 11 σ) s hs)
      have hw : (Sx.eat L s (Sx.wrong L 11 σ)).err ≠ 0 := by rw [Sx.eat_no (Sx.wrong_err (by decide))]; exact Sx.wrong_err (by decide)
      rw [h] at C1
      rw [hn]
      have HW := Lib.hid hw
      have HX := Lib.hid (Sx.sees_text h).1
      have H64 := Lib.hid h64
      clear h0 hP hs hL hw hn h h64
      go_enter Tryz.func179, Tryz.ntmps179
      go_wp2_with (first
        | (go_at_call 180; refine (HS.out.call1 C1.out).mono ?_; rintro e w1 ⟨J, ⟨rfl, rfl⟩, hs⟩; simp only [List.cons_append, List.nil_append] at hs; have HS1 := Lib.hid hs; clear hs; obtain ⟨a, cap, c, m, e, p, hr, hs3⟩ := HS1.out.rdOpen; have HR := Lib.hid hr; have HO := Lib.hid hs3; clear hs3 hr; have c1 : w1.cell? ⟨b, 1, none⟩ = some (.int .i64 m) := HO.out.cell 0 rfl 1; have hm64 : m = 64 := (by have h1 := HR.out.hm HX.out; have h2 := H64.out; omega))
        | (go_at_call 178; refine (HS1.out.call1 C2.out).mono ?_; rintro e w2 ⟨J, ⟨rfl, rfl⟩, hs⟩; simp only [List.cons_append, List.nil_append] at hs; have HS2 := Lib.hid hs; clear hs)
        | (go_at_call 117; refine (HS2.out.call1 C3.out).mono ?_; rintro e w3 ⟨J, ⟨rfl, rfl⟩, hs⟩; simp only [List.cons_append, List.nil_append] at hs; have HS3 := Lib.hid hs; clear hs; obtain ⟨a2, cap2, c2, m2, e2, p2, hr, hs3⟩ := HS3.out.rdOpen; have HR2 := Lib.hid hr; have HO2 := Lib.hid hs3; clear hs3 hr)
        | (refine wpl_load HO2.out 0 rfl rfl intO rfl ?_)
        | (refine wpl_store HO2.out 0 rfl rfl intO (of_decide_eq_true rfl) rfl ?_; intro w9 hs5; have HS9 := Lib.hid (show St _ _ _ [.row b 69 (rdC a2 cap2 L c2 (wrap64 (m2 + 1)) e2 p2), .hp (toksHp a2 L)] from hs5.out); clear hs5))
      try simp only [Exit.inBlock, Exit.then]
      refine bodyPost_end (results_none rfl _ _ _) rfl ⟨_, ⟨rfl, rfl⟩, HS9.out.rdClose (rd_more HR2.out (fun h => absurd h HW.out))⟩
    · have hn : Sx.nest L s σ = { Sx.eat L s σ with opn := (Sx.eat L s σ).opn + 1 } := by
        unfold Sx.nest; rw [h, decide_eq_false h64]; rfl
      have C3 := Lib.hid (want_fn b L hL σ s hs)
      rw [h] at C1
      rw [hn]
      have hw : (Sx.eat L s σ).err = 0 → (Sx.eat L s σ).opn ≤ 63 := fun _ => by rw [Sx.op_keep]; omega
      have HW := Lib.hid hw
      have HX := Lib.hid (Sx.sees_text h).1
      have H64 := Lib.hid h64
      clear h0 hP hs hL hw hn h h64
      go_enter Tryz.func179, Tryz.ntmps179
      go_wp2_with (first
        | (go_at_call 180; refine (HS.out.call1 C1.out).mono ?_; rintro e w1 ⟨J, ⟨rfl, rfl⟩, hs⟩; simp only [List.cons_append, List.nil_append] at hs; have HS1 := Lib.hid hs; clear hs; obtain ⟨a, cap, c, m, e, p, hr, hs3⟩ := HS1.out.rdOpen; have HR := Lib.hid hr; have HO := Lib.hid hs3; clear hs3 hr; have c1 : w1.cell? ⟨b, 1, none⟩ = some (.int .i64 m) := HO.out.cell 0 rfl 1; have hm64 : ¬ m = 64 := (by have h1 := HR.out.hm HX.out; have h2 := H64.out; omega))
        | (go_at_call 117; refine (HS1.out.call1 C3.out).mono ?_; rintro e w3 ⟨J, ⟨rfl, rfl⟩, hs⟩; simp only [List.cons_append, List.nil_append] at hs; have HS3 := Lib.hid hs; clear hs; obtain ⟨a2, cap2, c2, m2, e2, p2, hr, hs3⟩ := HS3.out.rdOpen; have HR2 := Lib.hid hr; have HO2 := Lib.hid hs3; clear hs3 hr)
        | (refine wpl_load HO2.out 0 rfl rfl intO rfl ?_)
        | (refine wpl_store HO2.out 0 rfl rfl intO (of_decide_eq_true rfl) rfl ?_; intro w9 hs5; have HS9 := Lib.hid (show St _ _ _ [.row b 69 (rdC a2 cap2 L c2 (wrap64 (m2 + 1)) e2 p2), .hp (toksHp a2 L)] from hs5.out); clear hs5))
      try simp only [Exit.inBlock, Exit.then]
      refine bodyPost_end (results_none rfl _ _ _) rfl ⟨_, ⟨rfl, rfl⟩, HS9.out.rdClose (rd_more HR2.out HW.out)⟩
  · have hf : Sx.sees L s σ = false := by simpa using h
    have hn : Sx.nest L s σ = { Sx.eat L s σ with opn := (Sx.eat L s σ).opn + 1 } := by
      unfold Sx.nest; rw [hf]; rfl
    have C3 := Lib.hid (want_fn b L hL σ s hs)
    rw [hf] at C1
    rw [hn]
    have hw : (Sx.eat L s σ).err = 0 → (Sx.eat L s σ).opn ≤ 63 := fun h1 => absurd (Sx.eat_sees h1) h
    have HW := Lib.hid hw
    clear h0 hP hs hL hw hn h hf
    go_enter Tryz.func179, Tryz.ntmps179
    go_wp2_with (first
      | (go_at_call 180; refine (HS.out.call1 C1.out).mono ?_; rintro e w1 ⟨J, ⟨rfl, rfl⟩, hs⟩; simp only [List.cons_append, List.nil_append] at hs; have HS1 := Lib.hid hs; clear hs)
      | (go_at_call 117; refine (HS1.out.call1 C3.out).mono ?_; rintro e w3 ⟨J, ⟨rfl, rfl⟩, hs⟩; simp only [List.cons_append, List.nil_append] at hs; have HS3 := Lib.hid hs; clear hs; obtain ⟨a2, cap2, c2, m2, e2, p2, hr, hs3⟩ := HS3.out.rdOpen; have HR2 := Lib.hid hr; have HO2 := Lib.hid hs3; clear hs3 hr)
      | (refine wpl_load HO2.out 0 rfl rfl intO rfl ?_)
      | (refine wpl_store HO2.out 0 rfl rfl intO (of_decide_eq_true rfl) rfl ?_; intro w9 hs5; have HS9 := Lib.hid (show St _ _ _ [.row b 69 (rdC a2 cap2 L c2 (wrap64 (m2 + 1)) e2 p2), .hp (toksHp a2 L)] from hs5.out); clear hs5))
    try simp only [Exit.inBlock, Exit.then]
    refine bodyPost_end (results_none rfl _ _ _) rfl ⟨_, ⟨rfl, rfl⟩, HS9.out.rdClose (rd_more HR2.out HW.out)⟩
set_option maxHeartbeats 8000000 in
set_option maxRecDepth 100000 in
theorem shut_fn (b : Nat) (L : List Lx.Tok) (hL : Sx.Ok L) (σ : Sx.R) (s : List UInt8) (hs : Sx.kw s = true) (ho : (Sx.eat L s σ).err = 0 → 1 ≤ σ.opn) : Fn 181 #[.pointer (some ⟨b, 0, none⟩), .string (Lx.S s)] [rd b L σ]
    fun e J => e = .returned (.tuple #[]) ∧ J = [rd b L (Sx.unnest L s σ)] := by
  intro w P hP h0
  have HS := Lib.hid (St.start hP h0)
  have C3 := Lib.hid (want_fn b L hL σ s hs)
  have hn : Sx.unnest L s σ = { Sx.eat L s σ with opn := (Sx.eat L s σ).opn - 1 } := rfl
  have hw : (Sx.eat L s σ).err = 0 → 1 ≤ (Sx.eat L s σ).opn := fun h1 => by rw [Sx.op_keep]; exact ho h1
  have HW := Lib.hid hw
  rw [hn]
  clear h0 hP hs hL hw hn ho
  go_enter Tryz.func181, Tryz.ntmps181
  go_wp2_with (first
    | (go_at_call 117; refine (HS.out.call1 C3.out).mono ?_; rintro e w3 ⟨J, ⟨rfl, rfl⟩, hs⟩; simp only [List.cons_append, List.nil_append] at hs; have HS3 := Lib.hid hs; clear hs; obtain ⟨a2, cap2, c2, m2, e2, p2, hr, hs3⟩ := HS3.out.rdOpen; have HR2 := Lib.hid hr; have HO2 := Lib.hid hs3; clear hs3 hr)
    | (refine wpl_load HO2.out 0 rfl rfl intO rfl ?_)
    | (refine wpl_store HO2.out 0 rfl rfl intO (of_decide_eq_true rfl) rfl ?_; intro w9 hs5; have HS9 := Lib.hid (show St _ _ _ [.row b 69 (rdC a2 cap2 L c2 (wrap64 (m2 - 1)) e2 p2), .hp (toksHp a2 L)] from hs5.out); clear hs5))
  try simp only [Exit.inBlock, Exit.then]
  refine bodyPost_end (results_none rfl _ _ _) rfl ⟨_, ⟨rfl, rfl⟩, HS9.out.rdClose (rd_less HR2.out HW.out)⟩
end Go.Proofs.YtjfdcnggnldgdaaGreatDoor
end
