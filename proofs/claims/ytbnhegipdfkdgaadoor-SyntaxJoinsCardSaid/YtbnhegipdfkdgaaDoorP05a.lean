/-
What lex's sign and first return.
Plain mathematics of layer 12, fourth part: more fuel than serves changes nothing, for statements, parameters and functions.
-/
import Derived.ChangeKeysEq
import Derived.Test.YtbnhegipdfkdgaaDoorP04a
section
namespace Go.Proofs.YtbnhegipdfkdgaaDoor
open Go.ChangeShapes Go.WideShapes Go.ChangeAt Go.RowKit
set_option linter.unusedVariables false
set_option linter.unusedSimpArgs false

/-- an array's element, by value -/
theorem run_index_arr {P : Program} {t e : TypeId} {n : Nat} {cs : Array Value} {k : Nat} {v : Value} (h : P.underlying t = some (.array n e)) (hz : ∀ w, (Go.sizeOf e).run P w = .ok 1 w) (ha : ∀ w, (isAgg e).run P w = .ok false w) (hk : k < n) (hv : cs[k]? = some v) (w : World) :
    (Instr.index t (.agg cs) (.int .i64 (k : Int))).run P w = .ok v w := by
  have hn : (0 ≤ (k : Int) ∧ (k : Int) < (n : Int)) := by omega
  simp [Instr.index, run_underlying h, asIntOf, hn, go_sem, part, hz, ha, hv]
  exact fun h => absurd h (by omega)
def Lx.signV : Array Value := #[.string ⟨#[60, 60]⟩, .string ⟨#[62, 62]⟩, .string ⟨#[61, 61]⟩, .string ⟨#[33, 61]⟩, .string ⟨#[60, 61]⟩, .string ⟨#[62, 61]⟩, .string ⟨#[40]⟩, .string ⟨#[41]⟩, .string ⟨#[123]⟩, .string ⟨#[125]⟩, .string ⟨#[91]⟩, .string ⟨#[93]⟩, .string ⟨#[44]⟩, .string ⟨#[59]⟩, .string ⟨#[58]⟩, .string ⟨#[61]⟩, .string ⟨#[43]⟩, .string ⟨#[45]⟩, .string ⟨#[42]⟩, .string ⟨#[38]⟩, .string ⟨#[124]⟩, .string ⟨#[94]⟩, .string ⟨#[126]⟩, .string ⟨#[33]⟩, .string ⟨#[60]⟩, .string ⟨#[62]⟩]
theorem Lx.signV_get : ∀ k, k < 26 → Lx.signV[k]? = (Lx.signs[k]?).map fun x => .string (Lx.S x) := by
  intro k hk
  rcases (by omega : k = 0 ∨ k = 1 ∨ k = 2 ∨ k = 3 ∨ k = 4 ∨ k = 5 ∨ k = 6 ∨ k = 7 ∨ k = 8 ∨ k = 9 ∨ k = 10 ∨ k = 11 ∨ k = 12 ∨ k = 13 ∨ k = 14 ∨ k = 15 ∨ k = 16 ∨ k = 17 ∨ k = 18 ∨ k = 19 ∨ k = 20 ∨ k = 21 ∨ k = 22 ∨ k = 23 ∨ k = 24 ∨ k = 25) with rfl | rfl | rfl | rfl | rfl | rfl | rfl | rfl | rfl | rfl | rfl | rfl | rfl | rfl | rfl | rfl | rfl | rfl | rfl | rfl | rfl | rfl | rfl | rfl | rfl | rfl <;> rfl
theorem Lx.signs_len : Lx.signs.length = 26 := by decide
theorem Lx.signIn_hit {L : List (List UInt8)} {x l : List UInt8} {k : Nat} (h : L[k]? = some x) (hp : x.isPrefixOf l = true) : Lx.signIn (L.drop k) l = x := by
  obtain ⟨hk, rfl⟩ := List.getElem?_eq_some_iff.1 h
  rw [List.drop_eq_getElem_cons hk]
  unfold Lx.signIn; rw [List.find?_cons, hp]; try rfl
theorem Lx.signIn_miss {L : List (List UInt8)} {x l : List UInt8} {k : Nat} (h : L[k]? = some x) (hp : x.isPrefixOf l = false) : Lx.signIn (L.drop (k + 1)) l = Lx.signIn (L.drop k) l := by
  obtain ⟨hk, rfl⟩ := List.getElem?_eq_some_iff.1 h
  rw [List.drop_eq_getElem_cons hk]
  unfold Lx.signIn; rw [List.find?_cons, hp]; try rfl
set_option maxHeartbeats 4000000 in
theorem sign_any (s : ByteArray) (w : World) :
    Calls Tryd.prog 25 #[.string s] w fun e w' => e = .returned (.string (Lx.S (s.data.toList.take (Lx.sign s.data.toList)))) ∧ w' = w := by
  have HR := Lib.hid (Lx.signs_is s.data.toList)
  have C := Lib.hid fun x w => pre_any s x w
  go_enter Tryd.func25, Tryd.ntmps25
  go_wp2
  go_loopw [6] (fun K wr => wr = w ∧ ∃ k : Nat, k ≤ 26 ∧ K = .int .i64 (k : Int) ∧ Hid (Lx.signIn (Lx.signs.drop k) s.data.toList = Lx.signIn Lx.signs s.data.toList)) (fun K _ => 26 - (intOf K).toNat)
  case atStart => exact ⟨rfl, 0, Nat.zero_le _, rfl, Lib.hid rfl⟩
  case round =>
    obtain ⟨rfl, k, hk, rfl, HK⟩ := hrel
    by_cases hlt : k < 26
    · have hlt' : (k : Int) < 26 := by omega
      obtain ⟨x, hx⟩ : ∃ x, Lx.signs[k]? = some x := ⟨Lx.signs[k]'(by rw [Lx.signs_len]; exact hlt), List.getElem?_eq_getElem _⟩
      have hv : Lx.signV[k]? = some (.string (Lx.S x)) := by rw [Lx.signV_get k hlt, hx]; rfl
      have E : ∀ w, (Instr.index 86 (.agg #[.string ⟨#[60, 60]⟩, .string ⟨#[62, 62]⟩, .string ⟨#[61, 61]⟩, .string ⟨#[33, 61]⟩, .string ⟨#[60, 61]⟩, .string ⟨#[62, 61]⟩, .string ⟨#[40]⟩, .string ⟨#[41]⟩, .string ⟨#[123]⟩, .string ⟨#[125]⟩, .string ⟨#[91]⟩, .string ⟨#[93]⟩, .string ⟨#[44]⟩, .string ⟨#[59]⟩, .string ⟨#[58]⟩, .string ⟨#[61]⟩, .string ⟨#[43]⟩, .string ⟨#[45]⟩, .string ⟨#[42]⟩, .string ⟨#[38]⟩, .string ⟨#[124]⟩, .string ⟨#[94]⟩, .string ⟨#[126]⟩, .string ⟨#[33]⟩, .string ⟨#[60]⟩, .string ⟨#[62]⟩]) (.int .i64 (k : Int))).run Tryd.prog w = .ok (.string (Lx.S x)) w :=
        run_index_arr (P := Tryd.prog) (n := 26) Tryd.underlying86 Tryd.sizeOf9 Tryd.isAgg9 hlt hv
      have HX := Lib.hid hx
      clear hx hv
      have C1 := Lib.hid fun w => C.out (Lx.S x) w
      rw [Lx.S_list] at C1
      cases hp : x.isPrefixOf s.data.toList
      · have HP := Lib.hid hp
        rw [hp] at C1
        clear hp
        go_wp2_with (first | (go_at_call 21; refine (C1.out _).mono ?_; rintro e w2 ⟨rfl, rfl⟩))
        exact ⟨⟨trivial, k + 1, by omega, by go_num, Lib.hid ((Lx.signIn_miss HX.out HP.out).trans HK.out)⟩, by simp [intOf]; omega⟩
      · have HP := Lib.hid hp
        rw [hp] at C1
        clear hp
        go_wp2_with (first | (go_at_call 21; refine (C1.out _).mono ?_; rintro e w2 ⟨rfl, rfl⟩))
        go_ret
        exact ⟨ret_str' (congrArg Lx.S (by rw [← HR.out, ← HK.out, Lx.signIn_hit HX.out HP.out])), rfl⟩
    · have hge : ¬ (k : Int) < 26 := by omega
      have HE : Hid (Lx.signIn Lx.signs s.data.toList = []) := Lib.hid (by
        rw [← HK.out, List.drop_of_length_le (by rw [Lx.signs_len]; omega)]; rfl)
      go_wp2
      go_ret
      exact ⟨ret_str' (by rw [← HR.out, HE.out]; rfl), rfl⟩
theorem Lx.run_upto (l : List UInt8) (n : Nat) (hn : n ≤ l.length) (h : ∀ c ∈ l.take n, Lx.wordy c = true) (he : ∀ c r, l.drop n = c :: r → Lx.wordy c = false) : Lx.run l = l.take n := by
  have h1 : Lx.run l = (l.take n ++ l.drop n).takeWhile Lx.wordy := by rw [List.take_append_drop]; rfl
  rw [h1, List.takeWhile_append_of_pos h]
  cases hd : l.drop n with
  | nil => simp
  | cons c r => rw [List.takeWhile_cons, he c r hd]; simp
theorem Lx.run_step {l r : List UInt8} {c : UInt8} {k : Nat} (h : ∀ x ∈ l.take k, Lx.wordy x = true) (hd : l.drop k = c :: r) (hc : Lx.wordy c = true) : ∀ x ∈ l.take (k + 1), Lx.wordy x = true := by
  intro x hx
  have hk : l.take (k + 1) = l.take k ++ [c] := by rw [List.take_add_one, ← List.head?_drop, hd]; rfl
  rw [hk, List.mem_append] at hx
  rcases hx with hx | hx
  · exact h x hx
  · rw [List.mem_singleton.1 hx]; exact hc
/-- the bytes of the token ahead -/
def Lx.fst (l : List UInt8) : List UInt8 := if Lx.run l = [] then l.take (Lx.sign l) else Lx.run l
set_option maxHeartbeats 4000000 in
theorem first_any (s : ByteArray) (hs : s.size ≤ 281474976710656) (w : World) :
    Calls Tryd.prog 15 #[.string s] w fun e w' => e = .returned (.string (Lx.S (Lx.fst s.data.toList))) ∧ w' = w := by
  have CS := Lib.hid fun w => sign_any s w
  have CL := Lib.hid letter_any
  have CD := Lib.hid digit_any
  go_enter Tryd.func15, Tryd.ntmps15
  go_wp2
  go_loopw [3] (fun K wr => wr = w ∧ ∃ k : Nat, k ≤ s.size ∧ K = .int .i64 (k : Int) ∧ Hid (∀ c ∈ s.data.toList.take k, Lx.wordy c = true)) (fun K _ => s.size - (intOf K).toNat)
  case atStart => exact ⟨rfl, 0, Nat.zero_le _, rfl, Lib.hid (by simp)⟩
  case round =>
    obtain ⟨rfl, k, hk, rfl, HK⟩ := hrel
    have step : ∀ (c : UInt8), (∀ r, s.data.toList.drop k ≠ c :: r) ∨ True := fun _ => Or.inr trivial
    clear step
    have fin : Hid ((∀ c r, s.data.toList.drop k = c :: r → Lx.wordy c = false) → Lx.fst s.data.toList = if k = 0 then s.data.toList.take (Lx.sign s.data.toList) else s.data.toList.take k) := Lib.hid (fun he => by
      have hr := Lx.run_upto s.data.toList k (by rw [← Lib.size_eq]; exact hk) HK.out he
      unfold Lx.fst
      by_cases h0 : k = 0
      · subst h0; rw [if_pos rfl, if_pos (by rw [hr]; simp)]
      · rw [if_neg h0, if_neg ?_, hr]
        rw [hr, List.take_eq_nil_iff]
        rintro (h | h)
        · exact h0 h
        · have h5 := Lib.size_eq s; rw [h, List.length_nil] at h5; omega)
    by_cases hlt : k < s.size
    · have hlt' : (k : Int) < (s.size : Int) := by omega
      have HG := Lib.hid (Lx.get s k hlt)
      have C1 := Lib.hid fun w => CL.out s[k] w
      have C2 := Lib.hid fun w => CD.out s[k] w
      cases hl : Lx.letter s[k] <;> cases hd : Lx.digit s[k]
      all_goals
        rw [hl] at C1
        rw [hd] at C2
        have HW : Hid (Lx.wordy s[k] = (Lx.letter s[k] || Lx.digit s[k])) := Lib.hid rfl
        rw [hl, hd] at HW
        clear hl hd
      · have FN := Lib.hid (fin.out (fun c r h => by rw [HG.out] at h; cases h; exact HW.out))
        by_cases h0 : k = 0
        · have FM := Lib.hid (FN.out.trans (if_pos h0))
          subst h0
          clear fin FN
          go_wp2_with (first
            | (go_at_call 23; refine (C1.out _).mono ?_; rintro e w2 ⟨rfl, rfl⟩)
            | (go_at_call 24; refine (C2.out _).mono ?_; rintro e w2 ⟨rfl, rfl⟩)
            | (go_at_call 25; refine (CS.out _).mono ?_; rintro e w2 ⟨rfl, rfl⟩))
          go_ret
          exact ⟨ret_str' (congrArg Lx.S FM.out.symm), rfl⟩
        · have FM := Lib.hid (FN.out.trans (if_neg h0))
          have hpos : (0 : Int) < (k : Int) := by omega
          clear fin FN
          go_wp2_with (first
            | (go_at_call 23; refine (C1.out _).mono ?_; rintro e w2 ⟨rfl, rfl⟩)
            | (go_at_call 24; refine (C2.out _).mono ?_; rintro e w2 ⟨rfl, rfl⟩)
            | (go_at_call 25; refine (CS.out _).mono ?_; rintro e w2 ⟨rfl, rfl⟩))
          go_ret
          exact ⟨ret_str' (by rw [FM.out, Lx.S_ext]; simp), rfl⟩
      all_goals
        clear fin
        have HN := Lib.hid (Lx.run_step HK.out HG.out HW.out)
        go_wp2_with (first
          | (go_at_call 23; refine (C1.out _).mono ?_; rintro e w2 ⟨rfl, rfl⟩)
          | (go_at_call 24; refine (C2.out _).mono ?_; rintro e w2 ⟨rfl, rfl⟩))
        exact ⟨⟨trivial, k + 1, by omega, by go_num, HN⟩, by simp [intOf]; omega⟩
    · have hge : ¬ (k : Int) < (s.size : Int) := by omega
      have FN := Lib.hid (fin.out (fun c r h => by rw [Lx.drop_nil s k (by omega)] at h; cases h))
      by_cases h0 : k = 0
      · have FM := Lib.hid (FN.out.trans (if_pos h0))
        subst h0
        clear fin FN
        go_wp2_with (first
          | (go_at_call 25; refine (CS.out _).mono ?_; rintro e w2 ⟨rfl, rfl⟩))
        go_ret
        exact ⟨ret_str' (congrArg Lx.S FM.out.symm), rfl⟩
      · have FM := Lib.hid (FN.out.trans (if_neg h0))
        have hpos : (0 : Int) < (k : Int) := by omega
        clear fin FN
        go_wp2_with (first
          | (go_at_call 25; refine (CS.out _).mono ?_; rintro e w2 ⟨rfl, rfl⟩))
        go_ret
        exact ⟨ret_str' (by rw [FM.out, Lx.S_ext]; simp), rfl⟩
end Go.Proofs.YtbnhegipdfkdgaaDoor
end
section
set_option linter.unusedVariables false
set_option linter.unusedSimpArgs false
namespace Go.Proofs.YtbnhegipdfkdgaaDoor

/-- a statement reads something, or tells an error -/
theorem Sx.M_stmt {L : List Lx.Tok} (hL : Sx.Ends L) {f : Nat} {σ : Sx.R} (he : σ.err = 0) (hi : σ.at' < L.length) : Sx.M L (Sx.stmt L (f + 1) σ).2 + 16 ≤ Sx.M L σ := by
  have hE : ∀ σ, Sx.Le L σ (Sx.ex L σ).2 := fun σ => (Sx.le_exprs hL _).1 0 σ
  have hB : ∀ σ, Sx.Le L σ (Sx.block L f σ).2 := (Sx.le_stmts hL f).1
  rw [Sx.stmt]
  simp only []
  split
  · rename_i h
    have h1 := Sx.M_may h hi
    have h2 := Sx.M_le ((Sx.le_some hL 1 (by decide) (Sx.may L Sx.wLet σ).2).trans ((Sx.le_eat hL [61] (by decide) _).trans (Sx.le_value hL [] _)))
    exact Nat.le_trans (Nat.add_le_add_right h2 16) h1
  · split
    · rename_i h
      have h1 := Sx.M_may h hi
      have h2 := Sx.M_le ((Sx.le_label hL (Sx.may L Sx.wVar σ).2).trans ((Sx.le_some hL 1 (by decide) _).trans ((Sx.le_eat hL [58] (by decide) _).trans ((Sx.le_type hL false (Sx.label L (Sx.may L Sx.wVar σ).2).1 _).trans (Sx.le_eat hL [59] (by decide) _)))))
      exact Nat.le_trans (Nat.add_le_add_right h2 16) h1
    · split
      · rename_i h
        have h1 := Sx.M_may h hi
        have h2 := (hE (Sx.may L Sx.wIf σ).2).trans (hB _)
        split
        · exact Nat.le_trans (Nat.add_le_add_right (Sx.M_le (h2.trans ((Sx.le_may hL Sx.wElse (by decide) _).trans (hB _)))) 16) h1
        · exact Nat.le_trans (Nat.add_le_add_right (Sx.M_le (h2.trans (Sx.le_may hL Sx.wElse (by decide) _))) 16) h1
      · split
        · rename_i h
          have h1 := Sx.M_may h hi
          have h2 := Sx.M_le ((Sx.le_some hL 1 (by decide) (Sx.may L Sx.wFor σ).2).trans ((Sx.le_eat hL [60] (by decide) _).trans ((hE _).trans ((Sx.le_eat hL Sx.wMax (by decide) _).trans ((Sx.le_some hL 2 (by decide) _).trans (hB _))))))
          exact Nat.le_trans (Nat.add_le_add_right h2 16) h1
        · split
          · rename_i h
            have h1 := Sx.M_may h hi
            have h2 := Sx.M_le (Sx.le_value hL [] (Sx.may L Sx.wRet σ).2)
            exact Nat.le_trans (Nat.add_le_add_right h2 16) h1
          · have h1 := Sx.M_some (L := L) (k := 1) he hi
            unfold Sx.named
            simp only []
            have hb := fun t σ => (Sx.le_exprs hL (Sx.fuel L)).2.2.2.2.2.1 t σ
            split
            · exact Nat.le_trans (Nat.add_le_add_right (Sx.M_le ((hb (Sx.some L 1 σ).1 (Sx.some L 1 σ).2).trans (Sx.le_eat hL [59] (by decide) _))) 16) h1
            · split
              · exact Nat.le_trans (Nat.add_le_add_right (Sx.M_le ((hb (Sx.some L 1 σ).1 (Sx.some L 1 σ).2).trans ((Sx.le_eat hL [61] (by decide) _).trans (Sx.le_value hL (Sx.behind L (Sx.fuel L) (Sx.some L 1 σ).1 (Sx.some L 1 σ).2).1.args _)))) 16) h1
              · exact Nat.le_trans (Nat.add_le_add_right (Sx.M_le ((Sx.le_eat hL [61] (by decide) _).trans (Sx.le_value hL [] _))) 16) h1
theorem Sx.enough_stmts {L : List Lx.Tok} (hL : Sx.Ends L) (f : Nat) :
    (∀ g σ, σ.at' < L.length → Sx.M L σ + 6 ≤ f → Sx.M L σ + 6 ≤ g → Sx.block L f σ = Sx.block L g σ) ∧
    (∀ g σ, σ.at' < L.length → Sx.M L σ + 5 ≤ f → Sx.M L σ + 5 ≤ g → Sx.stmts L f σ = Sx.stmts L g σ) ∧
    (∀ g σ, σ.at' < L.length → σ.err = 0 → Sx.M L σ + 4 ≤ f → Sx.M L σ + 4 ≤ g → Sx.stmt L f σ = Sx.stmt L g σ) := by
  have hE : ∀ σ, Sx.Le L σ (Sx.ex L σ).2 := fun σ => (Sx.le_exprs hL _).1 0 σ
  have lB : ∀ f σ, Sx.Le L σ (Sx.block L f σ).2 := fun f => (Sx.le_stmts hL f).1
  have lS : ∀ f σ, Sx.Le L σ (Sx.stmt L f σ).2 := fun f => (Sx.le_stmts hL f).2.2
  induction f with
  | zero => refine ⟨?_, ?_, ?_⟩ <;> intros <;> omega
  | succ f ih =>
    obtain ⟨iB, iL, iS⟩ := ih
    refine ⟨fun g σ hi hf hg => ?_, fun g σ hi hf hg => ?_, fun g σ hi he hf hg => ?_⟩
    · obtain ⟨g, rfl⟩ : ∃ k, g = k + 1 := ⟨g - 1, by omega⟩
      rw [Sx.block, Sx.block]
      have h1 := Sx.le_nest hL [123] (by decide) σ
      have h2 := Sx.M_le h1
      rw [iL g _ (h1.2.2.1 hi) (by omega) (by omega)]
    · obtain ⟨g, rfl⟩ : ∃ k, g = k + 1 := ⟨g - 1, by omega⟩
      rw [Sx.stmts, Sx.stmts]
      split
      · rename_i h
        have he : σ.err = 0 := by
          rw [Bool.and_eq_true] at h; exact of_decide_eq_true h.1
        obtain ⟨k, hk⟩ : ∃ k, g = k + 1 := ⟨g - 1, by have := Sx.M_pos he hi; omega⟩
        have h3 := lS g σ
        have h4 : Sx.M L (Sx.stmt L g σ).2 + 16 ≤ Sx.M L σ := by rw [hk]; exact Sx.M_stmt hL he hi
        try simp only []
        rw [iS g σ hi he (by omega) (by omega), iL g _ (h3.2.2.1 hi) (by omega) (by omega)]
      · rfl
    · obtain ⟨g, rfl⟩ : ∃ k, g = k + 1 := ⟨g - 1, by omega⟩
      rw [Sx.stmt, Sx.stmt]
      simp only []
      split
      · rfl
      · split
        · rfl
        · split
          · rename_i h
            have h1 := Sx.le_may hL Sx.wIf (by decide) σ
            have h2 := Sx.M_may h hi
            have h3 := hE (Sx.may L Sx.wIf σ).2
            have h4 := Sx.M_le h3
            have h5 := h3.2.2.1 (h1.2.2.1 hi)
            have h6 := lB g (Sx.ex L (Sx.may L Sx.wIf σ).2).2
            rw [iB g _ h5 (by omega) (by omega)]
            have h7 := h6.trans (Sx.le_may hL Sx.wElse (by decide) _)
            have h8 := Sx.M_le h7
            rw [iB g _ (h7.2.2.1 h5) (by omega) (by omega)]
          · split
            · rename_i h
              have h1 := Sx.le_may hL Sx.wFor (by decide) σ
              have h2 := Sx.M_may h hi
              have h3 := (Sx.le_some hL 1 (by decide) (Sx.may L Sx.wFor σ).2).trans ((Sx.le_eat hL [60] (by decide) _).trans ((hE _).trans ((Sx.le_eat hL Sx.wMax (by decide) _).trans (Sx.le_some hL 2 (by decide) _))))
              have h4 := Sx.M_le h3
              rw [iB g _ (h3.2.2.1 (h1.2.2.1 hi)) (by omega) (by omega)]
            · rfl
theorem Sx.enough_params {L : List Lx.Tok} (hL : Sx.Ends L) (f : Nat) : ∀ g σ, σ.at' < L.length → Sx.M L σ < f → Sx.M L σ < g → Sx.params L f σ = Sx.params L g σ := by
  induction f with
  | zero => intros; omega
  | succ f ih =>
    intro g σ hi hf hg
    obtain ⟨g, rfl⟩ : ∃ k, g = k + 1 := ⟨g - 1, by omega⟩
    rw [Sx.params, Sx.params]
    split
    · rename_i h
      have h1 := Sx.le_may hL [44] (by decide) σ
      have h2 := Sx.M_may h hi
      have h3 := Sx.le_param hL (Sx.may L [44] σ).2
      have h4 := Sx.M_le h3
      simp only []
      rw [ih g _ (h3.2.2.1 (h1.2.2.1 hi)) (by omega) (by omega)]
    · rfl
theorem Sx.M_function {L : List Lx.Tok} (hL : Sx.Ends L) {σ : Sx.R} (he : σ.err = 0) (hi : σ.at' < L.length) : Sx.M L (Sx.function L σ).2 + 16 ≤ Sx.M L σ := by
  have h1 := Sx.M_eat (s := Sx.wFn) he hi
  unfold Sx.function
  exact Nat.le_trans (Nat.add_le_add_right (Sx.M_le ((Sx.le_some hL 1 (by decide) (Sx.eat L Sx.wFn σ)).trans ((Sx.le_eat hL [40] (by decide) _).trans ((Sx.le_plist hL _).trans ((Sx.le_eat hL [41] (by decide) _).trans ((Sx.le_may hL [58] (by decide) _).trans ((Sx.le_res hL _).trans ((Sx.le_stmts hL _).1 _)))))))) 16) h1
theorem Sx.enough_functions {L : List Lx.Tok} (hL : Sx.Ends L) (f : Nat) : ∀ g σ, σ.at' < L.length → Sx.M L σ < f → Sx.M L σ < g → Sx.functions L f σ = Sx.functions L g σ := by
  induction f with
  | zero => intros; omega
  | succ f ih =>
    intro g σ hi hf hg
    obtain ⟨g, rfl⟩ : ∃ k, g = k + 1 := ⟨g - 1, by omega⟩
    rw [Sx.functions, Sx.functions]
    split
    · rename_i h
      have he : σ.err = 0 := by
        rw [Bool.and_eq_true] at h; exact of_decide_eq_true h.1
      have h1 := Sx.le_function hL σ
      have h2 := Sx.M_function hL he hi
      simp only []
      rw [ih g _ (h1.2.2.1 hi) (by omega) (by omega)]
    · rfl
end Go.Proofs.YtbnhegipdfkdgaaDoor
end
