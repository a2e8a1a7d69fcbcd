/-
  What lex's sign and first return.
-/
import Derived.ChangeKeysEq
import Derived.Test.YtknbnfnibdbokaaDoorLxC
namespace Go.Proofs.YtknbnfnibdbokaaDoor
open Go.ChangeShapes Go.WideShapes Go.ChangeAt Go.RowKit
set_option linter.unusedVariables false
set_option linter.unusedSimpArgs false

/-- an array's element, by value -/
theorem run_index_arr {P : Program} {t e : TypeId} {n : Nat} {cs : Array Value} {k : Nat} {v : Value} (h : P.underlying t = some (.array n e)) (hz : ∀ w, (Go.sizeOf e).run P w = .ok 1 w) (ha : ∀ w, (isAgg e).run P w = .ok false w) (hk : k < n) (hv : cs[k]? = some v) (w : World) :
    (Instr.index t (.agg cs) (.int .i64 (k : Int))).run P w = .ok v w := by
  have hn : (0 ≤ (k : Int) ∧ (k : Int) < (n : Int)) := by omega
  simp [Instr.index, run_underlying h, asIntOf, hn, go_sem, part, hz, ha, hv]
  exact fun h => absurd h (by omega)
def Lx.signV : Array Value := #[.string ⟨#[60, 60]⟩, .string ⟨#[62, 62]⟩, .string ⟨#[61, 61]⟩, .string ⟨#[33, 61]⟩, .string ⟨#[60, 61]⟩, .string ⟨#[62, 61]⟩, .string ⟨#[40]⟩, .string ⟨#[41]⟩, .string ⟨#[123]⟩, .string ⟨#[125]⟩, .string ⟨#[91]⟩, .string ⟨#[93]⟩, .string ⟨#[44]⟩, .string ⟨#[59]⟩, .string ⟨#[58]⟩, .string ⟨#[61]⟩, .string ⟨#[43]⟩, .string ⟨#[45]⟩, .string ⟨#[42]⟩, .string ⟨#[38]⟩, .string ⟨#[124]⟩, .string ⟨#[94]⟩, .string ⟨#[126]⟩, .string ⟨#[33]⟩, .string ⟨#[60]⟩, .string ⟨#[62]⟩]
theorem Lx.signV_get : ∀ k, k < 26 → Lx.signV[k]? = (Lx.signs[k]?).map fun x => .string (Lx.S x) := by
  intro k hk
  rcases (by omega : k = 0 ∨ k = 1 ∨ k = 2 ∨ k = 3 ∨ k = 4 ∨ k = 5 ∨ k = 6 ∨ k = 7 ∨ k = 8 ∨ k = 9 ∨ k = 10 ∨ k = 11 ∨ k = 12 ∨ k = 13 ∨ k = 14 ∨ k = 15 ∨ k = 16 ∨ k = 17 ∨ k = 18 ∨ k = 19 ∨ k = 20 ∨ k = 21 ∨ k = 22 ∨ k = 23 ∨ k = 24 ∨ k = 25) with rfl | rfl | rfl | rfl | rfl | rfl | rfl | rfl | rfl | rfl | rfl | rfl | rfl | rfl | rfl | rfl | rfl | rfl | rfl | rfl | rfl | rfl | rfl | rfl | rfl | rfl <;> rfl
theorem Lx.signs_len : Lx.signs.length = 26 := by decide
theorem Lx.signIn_hit {L : List (List UInt8)} {x l : List UInt8} {k : Nat} (h : L[k]? = some x) (hp : x.isPrefixOf l = true) : Lx.signIn (L.drop k) l = x := by
  obtain ⟨hk, rfl⟩ := List.getElem?_eq_some_iff.1 h
  rw [List.drop_eq_getElem_cons hk]
  unfold Lx.signIn; rw [List.find?_cons, hp]; try rfl
theorem Lx.signIn_miss {L : List (List UInt8)} {x l : List UInt8} {k : Nat} (h : L[k]? = some x) (hp : x.isPrefixOf l = false) : Lx.signIn (L.drop (k + 1)) l = Lx.signIn (L.drop k) l := by
  obtain ⟨hk, rfl⟩ := List.getElem?_eq_some_iff.1 h
  rw [List.drop_eq_getElem_cons hk]
  unfold Lx.signIn; rw [List.find?_cons, hp]; try rfl
set_option maxHeartbeats 4000000 in
theorem sign_any (s : ByteArray) (w : World) :
    Calls Tryd.prog 22 #[.string s] w fun e w' => e = .returned (.string (Lx.S (s.data.toList.take (Lx.sign s.data.toList)))) ∧ w' = w := by
  have HR := Lib.hid (Lx.signs_is s.data.toList)
  have C := Lib.hid fun x w => pre_any s x w
  go_enter Tryd.func22, Tryd.ntmps22
  go_wp2
  go_loopw [6] (fun K wr => wr = w ∧ ∃ k : Nat, k ≤ 26 ∧ K = .int .i64 (k : Int) ∧ Hid (Lx.signIn (Lx.signs.drop k) s.data.toList = Lx.signIn Lx.signs s.data.toList)) (fun K _ => 26 - (intOf K).toNat)
  case atStart => exact ⟨rfl, 0, Nat.zero_le _, rfl, Lib.hid rfl⟩
  case round =>
    obtain ⟨rfl, k, hk, rfl, HK⟩ := hrel
    by_cases hlt : k < 26
    · have hlt' : (k : Int) < 26 := by omega
      obtain ⟨x, hx⟩ : ∃ x, Lx.signs[k]? = some x := ⟨Lx.signs[k]'(by rw [Lx.signs_len]; exact hlt), List.getElem?_eq_getElem _⟩
      have hv : Lx.signV[k]? = some (.string (Lx.S x)) := by rw [Lx.signV_get k hlt, hx]; rfl
      have E : ∀ w, (Instr.index 66 (.agg #[.string ⟨#[60, 60]⟩, .string ⟨#[62, 62]⟩, .string ⟨#[61, 61]⟩, .string ⟨#[33, 61]⟩, .string ⟨#[60, 61]⟩, .string ⟨#[62, 61]⟩, .string ⟨#[40]⟩, .string ⟨#[41]⟩, .string ⟨#[123]⟩, .string ⟨#[125]⟩, .string ⟨#[91]⟩, .string ⟨#[93]⟩, .string ⟨#[44]⟩, .string ⟨#[59]⟩, .string ⟨#[58]⟩, .string ⟨#[61]⟩, .string ⟨#[43]⟩, .string ⟨#[45]⟩, .string ⟨#[42]⟩, .string ⟨#[38]⟩, .string ⟨#[124]⟩, .string ⟨#[94]⟩, .string ⟨#[126]⟩, .string ⟨#[33]⟩, .string ⟨#[60]⟩, .string ⟨#[62]⟩]) (.int .i64 (k : Int))).run Tryd.prog w = .ok (.string (Lx.S x)) w :=
        run_index_arr (P := Tryd.prog) (n := 26) Tryd.underlying66 Tryd.sizeOf9 Tryd.isAgg9 hlt hv
      have HX := Lib.hid hx
      clear hx hv
      have C1 := Lib.hid fun w => C.out (Lx.S x) w
      rw [Lx.S_list] at C1
      cases hp : x.isPrefixOf s.data.toList
      · have HP := Lib.hid hp
        rw [hp] at C1
        clear hp
        go_wp2_with (first | (go_at_call 18; refine (C1.out _).mono ?_; rintro e w2 ⟨rfl, rfl⟩))
        exact ⟨⟨trivial, k + 1, by omega, by go_num, Lib.hid ((Lx.signIn_miss HX.out HP.out).trans HK.out)⟩, by simp [intOf]; omega⟩
      · have HP := Lib.hid hp
        rw [hp] at C1
        clear hp
        go_wp2_with (first | (go_at_call 18; refine (C1.out _).mono ?_; rintro e w2 ⟨rfl, rfl⟩))
        go_ret
        exact ⟨ret_str' (congrArg Lx.S (by rw [← HR.out, ← HK.out, Lx.signIn_hit HX.out HP.out])), rfl⟩
    · have hge : ¬ (k : Int) < 26 := by omega
      have HE : Hid (Lx.signIn Lx.signs s.data.toList = []) := Lib.hid (by
        rw [← HK.out, List.drop_of_length_le (by rw [Lx.signs_len]; omega)]; rfl)
      go_wp2
      go_ret
      exact ⟨ret_str' (by rw [← HR.out, HE.out]; rfl), rfl⟩
theorem Lx.run_upto (l : List UInt8) (n : Nat) (hn : n ≤ l.length) (h : ∀ c ∈ l.take n, Lx.wordy c = true) (he : ∀ c r, l.drop n = c :: r → Lx.wordy c = false) : Lx.run l = l.take n := by
  have h1 : Lx.run l = (l.take n ++ l.drop n).takeWhile Lx.wordy := by rw [List.take_append_drop]; rfl
  rw [h1, List.takeWhile_append_of_pos h]
  cases hd : l.drop n with
  | nil => simp
  | cons c r => rw [List.takeWhile_cons, he c r hd]; simp
theorem Lx.run_step {l r : List UInt8} {c : UInt8} {k : Nat} (h : ∀ x ∈ l.take k, Lx.wordy x = true) (hd : l.drop k = c :: r) (hc : Lx.wordy c = true) : ∀ x ∈ l.take (k + 1), Lx.wordy x = true := by
  intro x hx
  have hk : l.take (k + 1) = l.take k ++ [c] := by rw [List.take_add_one, ← List.head?_drop, hd]; rfl
  rw [hk, List.mem_append] at hx
  rcases hx with hx | hx
  · exact h x hx
  · rw [List.mem_singleton.1 hx]; exact hc
/-- the bytes of the token ahead -/
def Lx.fst (l : List UInt8) : List UInt8 := if Lx.run l = [] then l.take (Lx.sign l) else Lx.run l
set_option maxHeartbeats 4000000 in
theorem first_any (s : ByteArray) (hs : s.size ≤ 281474976710656) (w : World) :
    Calls Tryd.prog 13 #[.string s] w fun e w' => e = .returned (.string (Lx.S (Lx.fst s.data.toList))) ∧ w' = w := by
  have CS := Lib.hid fun w => sign_any s w
  have CL := Lib.hid letter_any
  have CD := Lib.hid digit_any
  go_enter Tryd.func13, Tryd.ntmps13
  go_wp2
  go_loopw [3] (fun K wr => wr = w ∧ ∃ k : Nat, k ≤ s.size ∧ K = .int .i64 (k : Int) ∧ Hid (∀ c ∈ s.data.toList.take k, Lx.wordy c = true)) (fun K _ => s.size - (intOf K).toNat)
  case atStart => exact ⟨rfl, 0, Nat.zero_le _, rfl, Lib.hid (by simp)⟩
  case round =>
    obtain ⟨rfl, k, hk, rfl, HK⟩ := hrel
    have step : ∀ (c : UInt8), (∀ r, s.data.toList.drop k ≠ c :: r) ∨ True := fun _ => Or.inr trivial
    clear step
    have fin : Hid ((∀ c r, s.data.toList.drop k = c :: r → Lx.wordy c = false) → Lx.fst s.data.toList = if k = 0 then s.data.toList.take (Lx.sign s.data.toList) else s.data.toList.take k) := Lib.hid (fun he => by
      have hr := Lx.run_upto s.data.toList k (by rw [← Lib.size_eq]; exact hk) HK.out he
      unfold Lx.fst
      by_cases h0 : k = 0
      · subst h0; rw [if_pos rfl, if_pos (by rw [hr]; simp)]
      · rw [if_neg h0, if_neg ?_, hr]
        rw [hr, List.take_eq_nil_iff]
        rintro (h | h)
        · exact h0 h
        · have h5 := Lib.size_eq s; rw [h, List.length_nil] at h5; omega)
    by_cases hlt : k < s.size
    · have hlt' : (k : Int) < (s.size : Int) := by omega
      have HG := Lib.hid (Lx.get s k hlt)
      have C1 := Lib.hid fun w => CL.out s[k] w
      have C2 := Lib.hid fun w => CD.out s[k] w
      cases hl : Lx.letter s[k] <;> cases hd : Lx.digit s[k]
      all_goals
        rw [hl] at C1
        rw [hd] at C2
        have HW : Hid (Lx.wordy s[k] = (Lx.letter s[k] || Lx.digit s[k])) := Lib.hid rfl
        rw [hl, hd] at HW
        clear hl hd
      · have FN := Lib.hid (fin.out (fun c r h => by rw [HG.out] at h; cases h; exact HW.out))
        by_cases h0 : k = 0
        · have FM := Lib.hid (FN.out.trans (if_pos h0))
          subst h0
          clear fin FN
          go_wp2_with (first
            | (go_at_call 20; refine (C1.out _).mono ?_; rintro e w2 ⟨rfl, rfl⟩)
            | (go_at_call 21; refine (C2.out _).mono ?_; rintro e w2 ⟨rfl, rfl⟩)
            | (go_at_call 22; refine (CS.out _).mono ?_; rintro e w2 ⟨rfl, rfl⟩))
          go_ret
          exact ⟨ret_str' (congrArg Lx.S FM.out.symm), rfl⟩
        · have FM := Lib.hid (FN.out.trans (if_neg h0))
          have hpos : (0 : Int) < (k : Int) := by omega
          clear fin FN
          go_wp2_with (first
            | (go_at_call 20; refine (C1.out _).mono ?_; rintro e w2 ⟨rfl, rfl⟩)
            | (go_at_call 21; refine (C2.out _).mono ?_; rintro e w2 ⟨rfl, rfl⟩)
            | (go_at_call 22; refine (CS.out _).mono ?_; rintro e w2 ⟨rfl, rfl⟩))
          go_ret
          exact ⟨ret_str' (by rw [FM.out, Lx.S_ext]; simp), rfl⟩
      all_goals
        clear fin
        have HN := Lib.hid (Lx.run_step HK.out HG.out HW.out)
        go_wp2_with (first
          | (go_at_call 20; refine (C1.out _).mono ?_; rintro e w2 ⟨rfl, rfl⟩)
          | (go_at_call 21; refine (C2.out _).mono ?_; rintro e w2 ⟨rfl, rfl⟩))
        exact ⟨⟨trivial, k + 1, by omega, by go_num, HN⟩, by simp [intOf]; omega⟩
    · have hge : ¬ (k : Int) < (s.size : Int) := by omega
      have FN := Lib.hid (fin.out (fun c r h => by rw [Lx.drop_nil s k (by omega)] at h; cases h))
      by_cases h0 : k = 0
      · have FM := Lib.hid (FN.out.trans (if_pos h0))
        subst h0
        clear fin FN
        go_wp2_with (first
          | (go_at_call 22; refine (CS.out _).mono ?_; rintro e w2 ⟨rfl, rfl⟩))
        go_ret
        exact ⟨ret_str' (congrArg Lx.S FM.out.symm), rfl⟩
      · have FM := Lib.hid (FN.out.trans (if_neg h0))
        have hpos : (0 : Int) < (k : Int) := by omega
        clear fin FN
        go_wp2_with (first
          | (go_at_call 22; refine (CS.out _).mono ?_; rintro e w2 ⟨rfl, rfl⟩))
        go_ret
        exact ⟨ret_str' (by rw [FM.out, Lx.S_ext]; simp), rfl⟩
end Go.Proofs.YtknbnfnibdbokaaDoor
