/-
What lex's sign and first return.
What the document's next and in return (layer 11).
Plain mathematics of layer 12, fourth part: more fuel than serves changes nothing, for statements, parameters and functions.
What lex's reckon and number return.
What the document's in and sign return (layer 11).
Plain mathematics of layer 12, for the program's own way: the document's functions without fuel, as equations; levels of signs, one loop each.
Plain mathematics of layer 12, fifth part: lists of tokens that agree as far as a reader comes are read alike.
-/
import Derived.ChangeKeysEq
import Derived.Test.YtjfdcnggnldgdaaGreatDoorP03a
import Derived.Laws.Strings2
section
namespace Go.Proofs.YtjfdcnggnldgdaaGreatDoor
open Go.ChangeShapes Go.WideShapes Go.ChangeAt Go.RowKit
set_option linter.unusedVariables false
set_option linter.unusedSimpArgs false

/-- an array's element, by value -/
theorem run_index_arr {P : Program} {t e : TypeId} {n : Nat} {cs : Array Value} {k : Nat} {v : Value} (h : P.underlying t = some (.array n e)) (hz : ∀ w, (Go.sizeOf e).run P w = .ok 1 w) (ha : ∀ w, (isAgg e).run P w = .ok false w) (hk : k < n) (hv : cs[k]? = some v) (w : World) :
    (Instr.index t (.agg cs) (.int .i64 (k : Int))).run P w = .ok v w := by
  have hn : (0 ≤ (k : Int) ∧ (k : Int) < (n : Int)) := by omega
  simp [Instr.index, run_underlying h, asIntOf, hn, go_sem, part, hz, ha, hv]
  exact fun h => absurd h (by omega)
def Lx.signV : Array Value := #[.string ⟨#[60, 60]⟩, .string ⟨#[62, 62]⟩, .string ⟨#[61, 61]⟩, .string ⟨#[33, 61]⟩, .string ⟨#[60, 61]⟩, .string ⟨#[62, 61]⟩, .string ⟨#[40]⟩, .string ⟨#[41]⟩, .string ⟨#[123]⟩, .string ⟨#[125]⟩, .string ⟨#[91]⟩, .string ⟨#[93]⟩, .string ⟨#[44]⟩, .string ⟨#[59]⟩, .string ⟨#[58]⟩, .string ⟨#[61]⟩, .string ⟨#[43]⟩, .string ⟨#[45]⟩, .string ⟨#[42]⟩, .string ⟨#[38]⟩, .string ⟨#[124]⟩, .string ⟨#[94]⟩, .string ⟨#[126]⟩, .string ⟨#[33]⟩, .string ⟨#[60]⟩, .string ⟨#[62]⟩]
theorem Lx.signV_get : ∀ k, k < 26 → Lx.signV[k]? = (Lx.signs[k]?).map fun x => .string (Lx.S x) := by
  intro k hk
  rcases (by omega : k = 0 ∨ k = 1 ∨ k = 2 ∨ k = 3 ∨ k = 4 ∨ k = 5 ∨ k = 6 ∨ k = 7 ∨ k = 8 ∨ k = 9 ∨ k = 10 ∨ k = 11 ∨ k = 12 ∨ k = 13 ∨ k = 14 ∨ k = 15 ∨ k = 16 ∨ k = 17 ∨ k = 18 ∨ k = 19 ∨ k = 20 ∨ k = 21 ∨ k = 22 ∨ k = 23 ∨ k = 24 ∨ k = 25) with rfl | rfl | rfl | rfl | rfl | rfl | rfl | rfl | rfl | rfl | rfl | rfl | rfl | rfl | rfl | rfl | rfl | rfl | rfl | rfl | rfl | rfl | rfl | rfl | rfl | rfl <;> rfl
theorem Lx.signs_len : Lx.signs.length = 26 := by decide
theorem Lx.signIn_hit {L : List (List UInt8)} {x l : List UInt8} {k : Nat} (h : L[k]? = some x) (hp : x.isPrefixOf l = true) : Lx.signIn (L.drop k) l = x := by
  obtain ⟨hk, rfl⟩ := List.getElem?_eq_some_iff.1 h
  rw [List.drop_eq_getElem_cons hk]
  unfold Lx.signIn; rw [List.find?_cons, hp]; try rfl
theorem Lx.signIn_miss {L : List (List UInt8)} {x l : List UInt8} {k : Nat} (h : L[k]? = some x) (hp : x.isPrefixOf l = false) : Lx.signIn (L.drop (k + 1)) l = Lx.signIn (L.drop k) l := by
  obtain ⟨hk, rfl⟩ := List.getElem?_eq_some_iff.1 h
  rw [List.drop_eq_getElem_cons hk]
  unfold Lx.signIn; rw [List.find?_cons, hp]; try rfl
set_option maxHeartbeats 4000000 in
theorem sign_any (s : ByteArray) (w : World) :
    Calls Tryz.prog 114 #[.string s] w fun e w' => e = .returned (.string (Lx.S (s.data.toList.take (Lx.sign s.data.toList)))) ∧ w' = w := by
  have HR := Lib.hid (Lx.signs_is s.data.toList)
  have C := Lib.hid fun x w => pre_any s x w
  go_enter Tryz.func114, Tryz.ntmps114
  go_wp2
  go_loopw [6] (fun K wr => wr = w ∧ ∃ k : Nat, k ≤ 26 ∧ K = .int .i64 (k : Int) ∧ Hid (Lx.signIn (Lx.signs.drop k) s.data.toList = Lx.signIn Lx.signs s.data.toList)) (fun K _ => 26 - (intOf K).toNat)
  case atStart => exact ⟨rfl, 0, Nat.zero_le _, rfl, Lib.hid rfl⟩
  case round =>
    obtain ⟨rfl, k, hk, rfl, HK⟩ := hrel
    by_cases hlt : k < 26
    · have hlt' : (k : Int) < 26 := by omega
      obtain ⟨x, hx⟩ : ∃ x, Lx.signs[k]? = some x := ⟨Lx.signs[k]'(by rw [Lx.signs_len]; exact hlt), List.getElem?_eq_getElem _⟩
      have hv : Lx.signV[k]? = some (.string (Lx.S x)) := by rw [Lx.signV_get k hlt, hx]; rfl
      have E : ∀ w, (Instr.index 215 (.agg #[.string ⟨#[60, 60]⟩, .string ⟨#[62, 62]⟩, .string ⟨#[61, 61]⟩, .string ⟨#[33, 61]⟩, .string ⟨#[60, 61]⟩, .string ⟨#[62, 61]⟩, .string ⟨#[40]⟩, .string ⟨#[41]⟩, .string ⟨#[123]⟩, .string ⟨#[125]⟩, .string ⟨#[91]⟩, .string ⟨#[93]⟩, .string ⟨#[44]⟩, .string ⟨#[59]⟩, .string ⟨#[58]⟩, .string ⟨#[61]⟩, .string ⟨#[43]⟩, .string ⟨#[45]⟩, .string ⟨#[42]⟩, .string ⟨#[38]⟩, .string ⟨#[124]⟩, .string ⟨#[94]⟩, .string ⟨#[126]⟩, .string ⟨#[33]⟩, .string ⟨#[60]⟩, .string ⟨#[62]⟩]) (.int .i64 (k : Int))).run Tryz.prog w = .ok (.string (Lx.S x)) w :=
        run_index_arr (P := Tryz.prog) (n := 26) Tryz.underlying215 Tryz.sizeOf9 Tryz.isAgg9 hlt hv
      have HX := Lib.hid hx
      clear hx hv
      have C1 := Lib.hid fun w => C.out (Lx.S x) w
      rw [Lx.S_list] at C1
      cases hp : x.isPrefixOf s.data.toList
      · have HP := Lib.hid hp
        rw [hp] at C1
        clear hp
        go_wp2_with (first | (go_at_call 110; refine (C1.out _).mono ?_; rintro e w2 ⟨rfl, rfl⟩))
        exact ⟨⟨trivial, k + 1, by omega, by go_num, Lib.hid ((Lx.signIn_miss HX.out HP.out).trans HK.out)⟩, by simp [intOf]; omega⟩
      · have HP := Lib.hid hp
        rw [hp] at C1
        clear hp
        go_wp2_with (first | (go_at_call 110; refine (C1.out _).mono ?_; rintro e w2 ⟨rfl, rfl⟩))
        go_ret
        exact ⟨ret_str' (congrArg Lx.S (by rw [← HR.out, ← HK.out, Lx.signIn_hit HX.out HP.out])), rfl⟩
    · have hge : ¬ (k : Int) < 26 := by omega
      have HE : Hid (Lx.signIn Lx.signs s.data.toList = []) := Lib.hid (by
        rw [← HK.out, List.drop_of_length_le (by rw [Lx.signs_len]; omega)]; rfl)
      go_wp2
      go_ret
      exact ⟨ret_str' (by rw [← HR.out, HE.out]; rfl), rfl⟩
theorem Lx.run_upto (l : List UInt8) (n : Nat) (hn : n ≤ l.length) (h : ∀ c ∈ l.take n, Lx.wordy c = true) (he : ∀ c r, l.drop n = c :: r → Lx.wordy c = false) : Lx.run l = l.take n := by
  have h1 : Lx.run l = (l.take n ++ l.drop n).takeWhile Lx.wordy := by rw [List.take_append_drop]; rfl
  rw [h1, List.takeWhile_append_of_pos h]
  cases hd : l.drop n with
  | nil => simp
  | cons c r => rw [List.takeWhile_cons, he c r hd]; simp
theorem Lx.run_step {l r : List UInt8} {c : UInt8} {k : Nat} (h : ∀ x ∈ l.take k, Lx.wordy x = true) (hd : l.drop k = c :: r) (hc : Lx.wordy c = true) : ∀ x ∈ l.take (k + 1), Lx.wordy x = true := by
  intro x hx
  have hk : l.take (k + 1) = l.take k ++ [c] := by rw [List.take_add_one, ← List.head?_drop, hd]; rfl
  rw [hk, List.mem_append] at hx
  rcases hx with hx | hx
  · exact h x hx
  · rw [List.mem_singleton.1 hx]; exact hc
/-- the bytes of the token ahead -/
def Lx.fst (l : List UInt8) : List UInt8 := if Lx.run l = [] then l.take (Lx.sign l) else Lx.run l
set_option maxHeartbeats 4000000 in
theorem first_any (s : ByteArray) (hs : s.size ≤ 281474976710656) (w : World) :
    Calls Tryz.prog 59 #[.string s] w fun e w' => e = .returned (.string (Lx.S (Lx.fst s.data.toList))) ∧ w' = w := by
  have CS := Lib.hid fun w => sign_any s w
  have CL := Lib.hid letter_any
  have CD := Lib.hid digit_any
  go_enter Tryz.func59, Tryz.ntmps59
  go_wp2
  go_loopw [3] (fun K wr => wr = w ∧ ∃ k : Nat, k ≤ s.size ∧ K = .int .i64 (k : Int) ∧ Hid (∀ c ∈ s.data.toList.take k, Lx.wordy c = true)) (fun K _ => s.size - (intOf K).toNat)
  case atStart => exact ⟨rfl, 0, Nat.zero_le _, rfl, Lib.hid (by simp)⟩
  case round =>
    obtain ⟨rfl, k, hk, rfl, HK⟩ := hrel
    have step : ∀ (c : UInt8), (∀ r, s.data.toList.drop k ≠ c :: r) ∨ True := fun _ => Or.inr trivial
    clear step
    have fin : Hid ((∀ c r, s.data.toList.drop k = c :: r → Lx.wordy c = false) → Lx.fst s.data.toList = if k = 0 then s.data.toList.take (Lx.sign s.data.toList) else s.data.toList.take k) := Lib.hid (fun he => by
      have hr := Lx.run_upto s.data.toList k (by rw [← Lib.size_eq]; exact hk) HK.out he
      unfold Lx.fst
      by_cases h0 : k = 0
      · subst h0; rw [if_pos rfl, if_pos (by rw [hr]; simp)]
      · rw [if_neg h0, if_neg ?_, hr]
        rw [hr, List.take_eq_nil_iff]
        rintro (h | h)
        · exact h0 h
        · have h5 := Lib.size_eq s; rw [h, List.length_nil] at h5; omega)
    by_cases hlt : k < s.size
    · have hlt' : (k : Int) < (s.size : Int) := by omega
      have HG := Lib.hid (Lx.get s k hlt)
      have C1 := Lib.hid fun w => CL.out s[k] w
      have C2 := Lib.hid fun w => CD.out s[k] w
      cases hl : Lx.letter s[k] <;> cases hd : Lx.digit s[k]
      all_goals
        rw [hl] at C1
        rw [hd] at C2
        have HW : Hid (Lx.wordy s[k] = (Lx.letter s[k] || Lx.digit s[k])) := Lib.hid rfl
        rw [hl, hd] at HW
        clear hl hd
      · have FN := Lib.hid (fin.out (fun c r h => by rw [HG.out] at h; cases h; exact HW.out))
        by_cases h0 : k = 0
        · have FM := Lib.hid (FN.out.trans (if_pos h0))
          subst h0
          clear fin FN
          go_wp2_with (first
            | (go_at_call 112; refine (C1.out _).mono ?_; rintro e w2 ⟨rfl, rfl⟩)
            | (go_at_call 113; refine (C2.out _).mono ?_; rintro e w2 ⟨rfl, rfl⟩)
            | (go_at_call 114; refine (CS.out _).mono ?_; rintro e w2 ⟨rfl, rfl⟩))
          go_ret
          exact ⟨ret_str' (congrArg Lx.S FM.out.symm), rfl⟩
        · have FM := Lib.hid (FN.out.trans (if_neg h0))
          have hpos : (0 : Int) < (k : Int) := by omega
          clear fin FN
          go_wp2_with (first
            | (go_at_call 112; refine (C1.out _).mono ?_; rintro e w2 ⟨rfl, rfl⟩)
            | (go_at_call 113; refine (C2.out _).mono ?_; rintro e w2 ⟨rfl, rfl⟩)
            | (go_at_call 114; refine (CS.out _).mono ?_; rintro e w2 ⟨rfl, rfl⟩))
          go_ret
          exact ⟨ret_str' (by rw [FM.out, Lx.S_ext]; simp), rfl⟩
      all_goals
        clear fin
        have HN := Lib.hid (Lx.run_step HK.out HG.out HW.out)
        go_wp2_with (first
          | (go_at_call 112; refine (C1.out _).mono ?_; rintro e w2 ⟨rfl, rfl⟩)
          | (go_at_call 113; refine (C2.out _).mono ?_; rintro e w2 ⟨rfl, rfl⟩))
        exact ⟨⟨trivial, k + 1, by omega, by go_num, HN⟩, by simp [intOf]; omega⟩
    · have hge : ¬ (k : Int) < (s.size : Int) := by omega
      have FN := Lib.hid (fin.out (fun c r h => by rw [Lx.drop_nil s k (by omega)] at h; cases h))
      by_cases h0 : k = 0
      · have FM := Lib.hid (FN.out.trans (if_pos h0))
        subst h0
        clear fin FN
        go_wp2_with (first
          | (go_at_call 114; refine (CS.out _).mono ?_; rintro e w2 ⟨rfl, rfl⟩))
        go_ret
        exact ⟨ret_str' (congrArg Lx.S FM.out.symm), rfl⟩
      · have FM := Lib.hid (FN.out.trans (if_neg h0))
        have hpos : (0 : Int) < (k : Int) := by omega
        clear fin FN
        go_wp2_with (first
          | (go_at_call 114; refine (CS.out _).mono ?_; rintro e w2 ⟨rfl, rfl⟩))
        go_ret
        exact ⟨ret_str' (by rw [FM.out, Lx.S_ext]; simp), rfl⟩
end Go.Proofs.YtjfdcnggnldgdaaGreatDoor
end
section
namespace Go.Proofs.YtjfdcnggnldgdaaGreatDoor
open Go.ChangeShapes Go.WideShapes Go.ChangeAt Go.RowKit
set_option linter.unusedVariables false
set_option linter.unusedSimpArgs false

theorem Lx.byte_eq {c : UInt8} {n : Nat} (hn : n < 256) (h : ((c.toNat : Int) == (n : Int)) = true) : c = UInt8.ofNat n := by
  have h1 := eq_of_beq h
  have h2 : c.toNat = n := by exact_mod_cast h1
  rw [← h2]; simp
theorem Lx.byte_ne {c : UInt8} {n : Nat} (hn : n < 256) (h : ((c.toNat : Int) == (n : Int)) = false) : c ≠ UInt8.ofNat n := by
  rintro rfl
  rw [show (UInt8.ofNat n).toNat = n from by simp [Nat.mod_eq_of_lt hn]] at h
  simp at h
/-- where the next token begins, from a place on -/
def Lx.nxt (l : List UInt8) (k : Nat) : Nat := k + Lx.skip false (l.drop k)
def Lx.nxr (l : List UInt8) (k : Nat) : Nat := k + Lx.skip true (l.drop k)
theorem Lx.nxr_step {l r : List UInt8} {c : UInt8} {k : Nat} (h : l.drop k = c :: r) (hr : l.drop (k + 1) = r) (hc : c ≠ 10) : Lx.nxr l k = Lx.nxr l (k + 1) := by
  unfold Lx.nxr; rw [h, hr, Lx.skip_rem, decide_eq_true hc]; omega
theorem Lx.nxr_end {l r : List UInt8} {c : UInt8} {k : Nat} (h : l.drop k = c :: r) (hc : c = 10) : Lx.nxr l k = Lx.nxt l k := by
  subst hc
  unfold Lx.nxr Lx.nxt
  rw [h, Lx.skip_rem, Lx.skip_blank (by simp) (by decide)]; rfl
theorem Lx.nxr_stop {l : List UInt8} {k : Nat} (h : l.drop k = []) : Lx.nxr l k = Lx.nxt l k := by
  unfold Lx.nxr Lx.nxt; rw [h, Lx.skip_nil, Lx.skip_nil]
theorem Lx.nxt_two {l r : List UInt8} {c : UInt8} {k : Nat} (h : l.drop k = c :: r) (hc : c = 47 ∧ r.head? = some 47) : Lx.nxt l k = Lx.nxr l k := by
  obtain ⟨rfl, h2⟩ := hc
  unfold Lx.nxr Lx.nxt
  rw [h, Lx.skip_two ⟨rfl, h2⟩, Lx.skip_rem]; rfl
theorem Lx.nxt_blank {l r : List UInt8} {c : UInt8} {k : Nat} (h : l.drop k = c :: r) (hr : l.drop (k + 1) = r) (hn : ¬ (c = 47 ∧ r.head? = some 47)) (hb : Lx.blank c = true) : Lx.nxt l k = Lx.nxt l (k + 1) := by
  unfold Lx.nxt; rw [h, hr, Lx.skip_blank hn hb]; omega
theorem Lx.nxt_tok {l r : List UInt8} {c : UInt8} {k : Nat} (h : l.drop k = c :: r) (hn : ¬ (c = 47 ∧ r.head? = some 47)) (hb : Lx.blank c = false) : Lx.nxt l k = k := by
  unfold Lx.nxt; rw [h, Lx.skip_tok hn hb]; omega
theorem Lx.nxt_end {l : List UInt8} {k : Nat} (h : l.drop k = []) : Lx.nxt l k = k := by unfold Lx.nxt; rw [h, Lx.skip_nil]; omega
set_option maxHeartbeats 8000000 in
theorem rnext_any (s : ByteArray) (hs : s.size ≤ 281474976710656) (k0 : Nat) (hk0 : k0 ≤ s.size) (w : World) :
    Calls Tryz.prog 63 #[.string s, .int .i64 (k0 : Int)] w fun e w' => e = .returned (.int .i64 (Lx.nxt s.data.toList k0 : Nat)) ∧ w' = w := by
  have CB := Lib.hid rblank_any
  obtain ⟨T, hT⟩ : ∃ T, Lx.nxt s.data.toList k0 = T := ⟨_, rfl⟩
  rw [hT]
  have HT := Lib.hid hT
  clear hT
  go_enter Tryz.func63, Tryz.ntmps63
  go_wp2
  go_loopw [1] (fun K wr => wr = w ∧ ∃ k : Nat, k ≤ s.size ∧ K = .int .i64 (k : Int) ∧ Hid (Lx.nxt s.data.toList k = T)) (fun K _ => s.size - (intOf K).toNat)
  case atStart => exact ⟨rfl, k0, hk0, rfl, HT⟩
  case round =>
    obtain ⟨rfl, k, hk, rfl, HK⟩ := hrel
    by_cases hlt : k < s.size
    · have hlt' : (k : Int) < (s.size : Int) := by omega
      have HG := Lib.hid (Lx.get s k hlt)
      have C1 := Lib.hid fun w => CB.out s[k] w
      obtain ⟨q, hq⟩ : ∃ q : Bool, Lx.blank s[k] = q := ⟨_, rfl⟩
      rw [hq] at C1
      have HQ := Lib.hid hq
      clear hq
      by_cases h1 : k + 1 < s.size
      · have h1' : (k : Int) + 1 < (s.size : Int) := by omega
        have HG2 := Lib.hid (Lx.get s (k + 1) h1)
        cases e1 : ((s[k].toNat : Int) == 47)
        · have HN : Hid (¬ (s[k] = 47 ∧ (s.data.toList.drop (k + 1)).head? = some 47)) := Lib.hid (fun h => Lx.byte_ne (n := 47) (by omega) e1 h.1)
          cases q
          · have HF := Lib.hid ((Lx.nxt_tok HG.out HN.out HQ.out).symm.trans HK.out)
            go_wp2_with (go_at_call 125; refine (C1.out _).mono ?_; rintro e w2 ⟨rfl, rfl⟩)
            go_ret
            exact ⟨by rw [← HF.out]; rfl, rfl⟩
          · have HF := Lib.hid ((Lx.nxt_blank HG.out rfl HN.out HQ.out).symm.trans HK.out)
            go_wp2_with (go_at_call 125; refine (C1.out _).mono ?_; rintro e w2 ⟨rfl, rfl⟩)
            exact ⟨⟨trivial, k + 1, by omega, by go_num, HF⟩, by simp [intOf]; omega⟩
        · cases e2 : ((s[k + 1].toNat : Int) == 47)
          · have HN : Hid (¬ (s[k] = 47 ∧ (s.data.toList.drop (k + 1)).head? = some 47)) := Lib.hid (fun h => Lx.byte_ne (n := 47) (by omega) e2 (by
              have h2 := h.2
              rw [HG2.out] at h2
              simpa using h2))
            cases q
            · have HF := Lib.hid ((Lx.nxt_tok HG.out HN.out HQ.out).symm.trans HK.out)
              go_wp2_with (go_at_call 125; refine (C1.out _).mono ?_; rintro e w2 ⟨rfl, rfl⟩)
              go_ret
              exact ⟨by rw [← HF.out]; rfl, rfl⟩
            · have HF := Lib.hid ((Lx.nxt_blank HG.out rfl HN.out HQ.out).symm.trans HK.out)
              go_wp2_with (go_at_call 125; refine (C1.out _).mono ?_; rintro e w2 ⟨rfl, rfl⟩)
              exact ⟨⟨trivial, k + 1, by omega, by go_num, HF⟩, by simp [intOf]; omega⟩
          · have HN : Hid (s[k] = 47 ∧ (s.data.toList.drop (k + 1)).head? = some 47) := Lib.hid ⟨Lx.byte_eq (n := 47) (by omega) e1, by rw [HG2.out, List.head?_cons, Lx.byte_eq (n := 47) (by omega) e2]; rfl⟩
            have HF := Lib.hid ((Lx.nxt_two HG.out HN.out).symm.trans HK.out)
            have H47 : Hid (s[k] ≠ 10) := Lib.hid (by rw [HN.out.1]; decide)
            have HF2 := Lib.hid ((Lx.nxr_step HG.out rfl H47.out).symm.trans HF.out)
            go_wp2
            go_loopw [1] (fun J wz => wz = wr ∧ ∃ j : Nat, k ≤ j ∧ j ≤ s.size ∧ J = .int .i64 (j : Int) ∧ Hid (Lx.nxr s.data.toList j = T ∧ (j = k → Lx.nxr s.data.toList (k + 1) = T))) (fun J _ => s.size - (intOf J).toNat)
            case atStart => exact ⟨rfl, k, Nat.le_refl _, hk, rfl, Lib.hid ⟨HF.out, fun _ => HF2.out⟩⟩
            case round =>
              obtain ⟨rfl, j, hkj, hj, rfl, HJ⟩ := hrel
              by_cases hjl : j < s.size
              · have hjl' : (j : Int) < (s.size : Int) := by omega
                have HGJ := Lib.hid (Lx.get s j hjl)
                cases e3 : ((s[j].toNat : Int) == 10)
                · have e3' : ((s[j].toNat : Int) != 10) = true := by simp [bne, e3]
                  have HX := Lib.hid ((Lx.nxr_step HGJ.out rfl (Lx.byte_ne (n := 10) (by omega) e3)).symm.trans HJ.out.1)
                  go_wp2
                  exact ⟨⟨trivial, j + 1, by omega, by omega, by go_num, Lib.hid ⟨HX.out, fun h => absurd h (by omega)⟩⟩, by simp [intOf]; omega⟩
                · have e3' : ((s[j].toNat : Int) != 10) = false := by simp [bne, e3]
                  have h10 := Lx.byte_eq (n := 10) (by omega) e3
                  have HX := Lib.hid ((Lx.nxr_end HGJ.out h10).symm.trans HJ.out.1)
                  have hjk : k < j := by
                    rcases Nat.lt_or_ge k j with h | h
                    · exact h
                    · exfalso
                      obtain rfl : j = k := by omega
                      exact H47.out h10
                  go_wp2
                  exact ⟨⟨trivial, j, hj, rfl, HX⟩, by simp [intOf]; omega⟩
              · have hjl' : ¬ (j : Int) < (s.size : Int) := by omega
                have HX := Lib.hid ((Lx.nxr_stop (Lx.drop_nil s j (by omega))).symm.trans HJ.out.1)
                go_wp2
                exact ⟨⟨trivial, j, hj, rfl, HX⟩, by simp [intOf]; omega⟩
      · have h1' : ¬ (k : Int) + 1 < (s.size : Int) := by omega
        have HN : Hid (¬ (s[k] = 47 ∧ (s.data.toList.drop (k + 1)).head? = some 47)) := Lib.hid (fun h => by have h2 := h.2; rw [Lx.drop_nil s (k + 1) (by omega)] at h2; cases h2)
        cases q
        · have HF := Lib.hid ((Lx.nxt_tok HG.out HN.out HQ.out).symm.trans HK.out)
          go_wp2_with (go_at_call 125; refine (C1.out _).mono ?_; rintro e w2 ⟨rfl, rfl⟩)
          go_ret
          exact ⟨by rw [← HF.out]; rfl, rfl⟩
        · have HF := Lib.hid ((Lx.nxt_blank HG.out rfl HN.out HQ.out).symm.trans HK.out)
          go_wp2_with (go_at_call 125; refine (C1.out _).mono ?_; rintro e w2 ⟨rfl, rfl⟩)
          exact ⟨⟨trivial, k + 1, by omega, by go_num, HF⟩, by simp [intOf]; omega⟩
    · have hge : ¬ (k : Int) < (s.size : Int) := by omega
      have HF := Lib.hid ((Lx.nxt_end (Lx.drop_nil s k (by omega))).symm.trans HK.out)
      go_wp2
      go_ret
      exact ⟨by rw [← HF.out]; rfl, rfl⟩
end Go.Proofs.YtjfdcnggnldgdaaGreatDoor
end
section
set_option linter.unusedVariables false
set_option linter.unusedSimpArgs false
namespace Go.Proofs.YtjfdcnggnldgdaaGreatDoor

/-- a statement reads something, or tells an error -/
theorem Sx.M_stmt {L : List Lx.Tok} (hL : Sx.Ends L) {f : Nat} {σ : Sx.R} (he : σ.err = 0) (hi : σ.at' < L.length) : Sx.M L (Sx.stmt L (f + 1) σ).2 + 16 ≤ Sx.M L σ := by
  have hE : ∀ σ, Sx.Le L σ (Sx.ex L σ).2 := fun σ => (Sx.le_exprs hL _).1 0 σ
  have hB : ∀ σ, Sx.Le L σ (Sx.block L f σ).2 := (Sx.le_stmts hL f).1
  rw [Sx.stmt]
  simp only []
  split
  · rename_i h
    have h1 := Sx.M_may h hi
    have h2 := Sx.M_le ((Sx.le_some hL 1 (by decide) (Sx.may L Sx.wLet σ).2).trans ((Sx.le_eat hL [61] (by decide) _).trans (Sx.le_value hL [] _)))
    exact Nat.le_trans (Nat.add_le_add_right h2 16) h1
  · split
    · rename_i h
      have h1 := Sx.M_may h hi
      have h2 := Sx.M_le ((Sx.le_label hL (Sx.may L Sx.wVar σ).2).trans ((Sx.le_some hL 1 (by decide) _).trans ((Sx.le_eat hL [58] (by decide) _).trans ((Sx.le_type hL false (Sx.label L (Sx.may L Sx.wVar σ).2).1 _).trans (Sx.le_eat hL [59] (by decide) _)))))
      exact Nat.le_trans (Nat.add_le_add_right h2 16) h1
    · split
      · rename_i h
        have h1 := Sx.M_may h hi
        have h2 := (hE (Sx.may L Sx.wIf σ).2).trans (hB _)
        split
        · exact Nat.le_trans (Nat.add_le_add_right (Sx.M_le (h2.trans ((Sx.le_may hL Sx.wElse (by decide) _).trans (hB _)))) 16) h1
        · exact Nat.le_trans (Nat.add_le_add_right (Sx.M_le (h2.trans (Sx.le_may hL Sx.wElse (by decide) _))) 16) h1
      · split
        · rename_i h
          have h1 := Sx.M_may h hi
          have h2 := Sx.M_le ((Sx.le_some hL 1 (by decide) (Sx.may L Sx.wFor σ).2).trans ((Sx.le_eat hL [60] (by decide) _).trans ((hE _).trans ((Sx.le_eat hL Sx.wMax (by decide) _).trans ((Sx.le_some hL 2 (by decide) _).trans (hB _))))))
          exact Nat.le_trans (Nat.add_le_add_right h2 16) h1
        · split
          · rename_i h
            have h1 := Sx.M_may h hi
            have h2 := Sx.M_le (Sx.le_value hL [] (Sx.may L Sx.wRet σ).2)
            exact Nat.le_trans (Nat.add_le_add_right h2 16) h1
          · have h1 := Sx.M_some (L := L) (k := 1) he hi
            unfold Sx.named
            simp only []
            have hb := fun t σ => (Sx.le_exprs hL (Sx.fuel L)).2.2.2.2.2.1 t σ
            split
            · exact Nat.le_trans (Nat.add_le_add_right (Sx.M_le ((hb (Sx.some L 1 σ).1 (Sx.some L 1 σ).2).trans (Sx.le_eat hL [59] (by decide) _))) 16) h1
            · split
              · exact Nat.le_trans (Nat.add_le_add_right (Sx.M_le ((hb (Sx.some L 1 σ).1 (Sx.some L 1 σ).2).trans ((Sx.le_eat hL [61] (by decide) _).trans (Sx.le_value hL (Sx.behind L (Sx.fuel L) (Sx.some L 1 σ).1 (Sx.some L 1 σ).2).1.args _)))) 16) h1
              · exact Nat.le_trans (Nat.add_le_add_right (Sx.M_le ((Sx.le_eat hL [61] (by decide) _).trans (Sx.le_value hL [] _))) 16) h1
theorem Sx.enough_stmts {L : List Lx.Tok} (hL : Sx.Ends L) (f : Nat) :
    (∀ g σ, σ.at' < L.length → Sx.M L σ + 6 ≤ f → Sx.M L σ + 6 ≤ g → Sx.block L f σ = Sx.block L g σ) ∧
    (∀ g σ, σ.at' < L.length → Sx.M L σ + 5 ≤ f → Sx.M L σ + 5 ≤ g → Sx.stmts L f σ = Sx.stmts L g σ) ∧
    (∀ g σ, σ.at' < L.length → σ.err = 0 → Sx.M L σ + 4 ≤ f → Sx.M L σ + 4 ≤ g → Sx.stmt L f σ = Sx.stmt L g σ) := by
  have hE : ∀ σ, Sx.Le L σ (Sx.ex L σ).2 := fun σ => (Sx.le_exprs hL _).1 0 σ
  have lB : ∀ f σ, Sx.Le L σ (Sx.block L f σ).2 := fun f => (Sx.le_stmts hL f).1
  have lS : ∀ f σ, Sx.Le L σ (Sx.stmt L f σ).2 := fun f => (Sx.le_stmts hL f).2.2
  induction f with
  | zero => refine ⟨?_, ?_, ?_⟩ <;> intros <;> omega
  | succ f ih =>
    obtain ⟨iB, iL, iS⟩ := ih
    refine ⟨fun g σ hi hf hg => ?_, fun g σ hi hf hg => ?_, fun g σ hi he hf hg => ?_⟩
    · obtain ⟨g, rfl⟩ : ∃ k, g = k + 1 := ⟨g - 1, by omega⟩
      rw [Sx.block, Sx.block]
      have h1 := Sx.le_nest hL [123] (by decide) σ
      have h2 := Sx.M_le h1
      rw [iL g _ (h1.2.2.1 hi) (by omega) (by omega)]
    · obtain ⟨g, rfl⟩ : ∃ k, g = k + 1 := ⟨g - 1, by omega⟩
      rw [Sx.stmts, Sx.stmts]
      split
      · rename_i h
        have he : σ.err = 0 := by
          rw [Bool.and_eq_true] at h; exact of_decide_eq_true h.1
        obtain ⟨k, hk⟩ : ∃ k, g = k + 1 := ⟨g - 1, by have := Sx.M_pos he hi; omega⟩
        have h3 := lS g σ
        have h4 : Sx.M L (Sx.stmt L g σ).2 + 16 ≤ Sx.M L σ := by rw [hk]; exact Sx.M_stmt hL he hi
        try simp only []
        rw [iS g σ hi he (by omega) (by omega), iL g _ (h3.2.2.1 hi) (by omega) (by omega)]
      · rfl
    · obtain ⟨g, rfl⟩ : ∃ k, g = k + 1 := ⟨g - 1, by omega⟩
      rw [Sx.stmt, Sx.stmt]
      simp only []
      split
      · rfl
      · split
        · rfl
        · split
          · rename_i h
            have h1 := Sx.le_may hL Sx.wIf (by decide) σ
            have h2 := Sx.M_may h hi
            have h3 := hE (Sx.may L Sx.wIf σ).2
            have h4 := Sx.M_le h3
            have h5 := h3.2.2.1 (h1.2.2.1 hi)
            have h6 := lB g (Sx.ex L (Sx.may L Sx.wIf σ).2).2
            rw [iB g _ h5 (by omega) (by omega)]
            have h7 := h6.trans (Sx.le_may hL Sx.wElse (by decide) _)
            have h8 := Sx.M_le h7
            rw [iB g _ (h7.2.2.1 h5) (by omega) (by omega)]
          · split
            · rename_i h
              have h1 := Sx.le_may hL Sx.wFor (by decide) σ
              have h2 := Sx.M_may h hi
              have h3 := (Sx.le_some hL 1 (by decide) (Sx.may L Sx.wFor σ).2).trans ((Sx.le_eat hL [60] (by decide) _).trans ((hE _).trans ((Sx.le_eat hL Sx.wMax (by decide) _).trans (Sx.le_some hL 2 (by decide) _))))
              have h4 := Sx.M_le h3
              rw [iB g _ (h3.2.2.1 (h1.2.2.1 hi)) (by omega) (by omega)]
            · rfl
theorem Sx.enough_params {L : List Lx.Tok} (hL : Sx.Ends L) (f : Nat) : ∀ g σ, σ.at' < L.length → Sx.M L σ < f → Sx.M L σ < g → Sx.params L f σ = Sx.params L g σ := by
  induction f with
  | zero => intros; omega
  | succ f ih =>
    intro g σ hi hf hg
    obtain ⟨g, rfl⟩ : ∃ k, g = k + 1 := ⟨g - 1, by omega⟩
    rw [Sx.params, Sx.params]
    split
    · rename_i h
      have h1 := Sx.le_may hL [44] (by decide) σ
      have h2 := Sx.M_may h hi
      have h3 := Sx.le_param hL (Sx.may L [44] σ).2
      have h4 := Sx.M_le h3
      simp only []
      rw [ih g _ (h3.2.2.1 (h1.2.2.1 hi)) (by omega) (by omega)]
    · rfl
theorem Sx.M_function {L : List Lx.Tok} (hL : Sx.Ends L) {σ : Sx.R} (he : σ.err = 0) (hi : σ.at' < L.length) : Sx.M L (Sx.function L σ).2 + 16 ≤ Sx.M L σ := by
  have h1 := Sx.M_eat (s := Sx.wFn) he hi
  unfold Sx.function
  exact Nat.le_trans (Nat.add_le_add_right (Sx.M_le ((Sx.le_some hL 1 (by decide) (Sx.eat L Sx.wFn σ)).trans ((Sx.le_eat hL [40] (by decide) _).trans ((Sx.le_plist hL _).trans ((Sx.le_eat hL [41] (by decide) _).trans ((Sx.le_may hL [58] (by decide) _).trans ((Sx.le_res hL _).trans ((Sx.le_stmts hL _).1 _)))))))) 16) h1
theorem Sx.enough_functions {L : List Lx.Tok} (hL : Sx.Ends L) (f : Nat) : ∀ g σ, σ.at' < L.length → Sx.M L σ < f → Sx.M L σ < g → Sx.functions L f σ = Sx.functions L g σ := by
  induction f with
  | zero => intros; omega
  | succ f ih =>
    intro g σ hi hf hg
    obtain ⟨g, rfl⟩ : ∃ k, g = k + 1 := ⟨g - 1, by omega⟩
    rw [Sx.functions, Sx.functions]
    split
    · rename_i h
      have he : σ.err = 0 := by
        rw [Bool.and_eq_true] at h; exact of_decide_eq_true h.1
      have h1 := Sx.le_function hL σ
      have h2 := Sx.M_function hL he hi
      simp only []
      rw [ih g _ (h1.2.2.1 hi) (by omega) (by omega)]
    · rfl
end Go.Proofs.YtjfdcnggnldgdaaGreatDoor
end
section
namespace Go.Proofs.YtjfdcnggnldgdaaGreatDoor
open Go.ChangeShapes Go.WideShapes Go.ChangeAt Go.RowKit
set_option linter.unusedVariables false
set_option linter.unusedSimpArgs false

/-- is it a digit of that base? -/
def Lx.okd (b : Nat) (c : UInt8) : Bool := if b = 16 then Lx.hex c else Lx.digit c
/-- what reckon comes to, from a number on -/
def Lx.rk (b : Nat) : Nat → List UInt8 → Option Nat
  | n, [] => some n
  | n, c :: r => if Lx.okd b c = true ∧ n * b + Lx.hval c ≤ 4294967295 then Lx.rk b (n * b + Lx.hval c) r else none
theorem Lx.ix10 : ∀ n, n < 256 → Lib.indexByte [48, 49, 50, 51, 52, 53, 54, 55, 56, 57] (UInt8.ofNat n) = if Lx.okd 10 (UInt8.ofNat n) then (Lx.hval (UInt8.ofNat n) : Int) else -1 := by decide +kernel
theorem Lx.ix16 : ∀ n, n < 256 → Lib.indexByte [48, 49, 50, 51, 52, 53, 54, 55, 56, 57, 97, 98, 99, 100, 101, 102] (UInt8.ofNat n) = if Lx.okd 16 (UInt8.ofNat n) then (Lx.hval (UInt8.ofNat n) : Int) else -1 := by decide +kernel
theorem Lx.hval_lt : ∀ n, n < 256 → Lx.okd 16 (UInt8.ofNat n) = true → Lx.hval (UInt8.ofNat n) < 16 := by decide +kernel
theorem Lx.hval_lt10 : ∀ n, n < 256 → Lx.okd 10 (UInt8.ofNat n) = true → Lx.hval (UInt8.ofNat n) < 10 := by decide +kernel
theorem Lx.of_byte (c : UInt8) : UInt8.ofNat c.toNat = c := by simp
def Lx.tens : List UInt8 := [48, 49, 50, 51, 52, 53, 54, 55, 56, 57]
def Lx.hexs : List UInt8 := [48, 49, 50, 51, 52, 53, 54, 55, 56, 57, 97, 98, 99, 100, 101, 102]
theorem Lx.notEmpty (s : ByteArray) : (!s.toList.isEmpty) = decide (0 < s.size) := by
  rw [Lib.toList_data, Lib.size_eq]
  cases s.data.toList <;> rfl
set_option maxHeartbeats 8000000 in
theorem reckon_any (s : ByteArray) (hs : s.size ≤ 281474976710656) (b : Nat) (hb : b = 10 ∨ b = 16) (w : World) :
    Calls Tryz.prog 176 #[.string s, .int .i64 (b : Int)] w fun e w' => e = .returned (.tuple #[.int .i64 ((((Lx.rk b 0 s.data.toList).getD 0) : Nat) : Int), .bool ((Lx.rk b 0 s.data.toList).isSome && decide (0 < s.size))]) ∧ Below w.heap.size w w' := by
  obtain ⟨D, hD, hDs⟩ : ∃ D : List UInt8, (⟨#[48, 49, 50, 51, 52, 53, 54, 55, 56, 57, 97, 98, 99, 100, 101, 102]⟩ : ByteArray).extract 0 b = Lx.S D ∧ ∀ c, Lib.indexByte D c = if Lx.okd b c then (Lx.hval c : Int) else -1 := by
    rcases hb with rfl | rfl
    · exact ⟨Lx.tens, by rw [Lx.S_ext]; rfl, fun c => by have := Lx.ix10 c.toNat c.toNat_lt; rw [Lx.of_byte] at this; exact this⟩
    · exact ⟨Lx.hexs, by rw [Lx.S_ext]; rfl, fun c => by have := Lx.ix16 c.toNat c.toNat_lt; rw [Lx.of_byte] at this; exact this⟩
  have hv : ∀ c, Lx.okd b c = true → Lx.hval c < 16 := by
    rcases hb with rfl | rfl
    · intro c h; have := Lx.hval_lt10 c.toNat c.toNat_lt; rw [Lx.of_byte] at this; have := this h; omega
    · intro c h; have := Lx.hval_lt c.toNat c.toNat_lt; rw [Lx.of_byte] at this; exact this h
  have HV := Lib.hid hv
  have HDS := Lib.hid hDs
  have CI := Lib.hid fun c w => ixb_any (Lx.S D) c w
  have hb1 : b ≤ 16 := by omega
  have hb2 : (b : Int) ≤ 16 := by omega
  clear hv hDs hb
  go_enter Tryz.func176, Tryz.ntmps176
  go_wp2
  go_loopw [6, 11] (fun N K wr => ∃ k m : Nat, k ≤ s.size ∧ K = .int .i64 (k : Int) ∧ N = .int .i64 (m : Int) ∧ m ≤ 4294967295 ∧ Hid (Lx.rk b m (s.data.toList.drop k) = Lx.rk b 0 s.data.toList) ∧ Below w.heap.size w wr) (fun _ K _ => s.size - (intOf K).toNat)
  case atStart => exact ⟨0, 0, Nat.zero_le _, rfl, rfl, by omega, Lib.hid rfl, Below.refl _ _⟩
  case round =>
    obtain ⟨k, m, hk, rfl, rfl, hm, HK, hB⟩ := hrel
    by_cases hlt : k < s.size
    · have hlt' : (k : Int) < (s.size : Int) := by omega
      have HG := Lib.hid (Lx.get s k hlt)
      have C1 := Lib.hid fun w => CI.out s[k] w
      rw [Lx.S_list, HDS.out] at C1
      have hq0 : (0 : Int) ≤ (m : Int) * (b : Int) := Int.mul_nonneg (by omega) (by omega)
      have hq1 : (m : Int) * (b : Int) ≤ 68719476720 := by
        have h := Nat.mul_le_mul hm hb1
        have : ((m * b : Nat) : Int) ≤ ((4294967295 * 16 : Nat) : Int) := by exact_mod_cast h
        simpa using this
      cases ho : Lx.okd b s[k]
      · rw [ho] at C1
        simp only [Bool.false_eq_true, if_false] at C1
        have HN : Hid (Lx.rk b 0 s.data.toList = none) := Lib.hid (by rw [← HK.out, HG.out, Lx.rk, if_neg (by rw [ho]; simp)])
        clear ho
        go_wp2
        go_quiet ((go_at_call 210; refine Calls.quiet_of_same (C1.out _)))
        go_wp2
        go_ret2
        exact ⟨by rw [HN.out]; rfl, below_drewN hB _⟩
      · rw [ho] at C1
        simp only [if_true] at C1
        have hvl := HV.out _ ho
        obtain ⟨d, hd⟩ : ∃ d, Lx.hval s[k] = d := ⟨_, rfl⟩
        have HD := Lib.hid hd
        rw [hd] at C1 hvl
        clear hd
        by_cases hle : (m : Int) * (b : Int) + (d : Int) ≤ 4294967295
        · have hle' : m * b + d ≤ 4294967295 := by
            have : ((m * b + d : Nat) : Int) ≤ 4294967295 := by simpa using hle
            omega
          have HN : Hid (Lx.rk b (m * b + d) (s.data.toList.drop (k + 1)) = Lx.rk b 0 s.data.toList) := Lib.hid (by rw [← HK.out, HG.out, Lx.rk, if_pos ⟨ho, by rw [HD.out]; exact hle'⟩, HD.out])
          clear ho
          go_wp2
          go_quiet ((go_at_call 210; refine Calls.quiet_of_same (C1.out _)))
          go_wp2
          exact ⟨⟨k + 1, m * b + d, by omega, by go_num, by simp, hle', HN, below_drewN hB _⟩, by simp [intOf]; omega⟩
        · have hgt : (4294967295 : Int) < (m : Int) * (b : Int) + (d : Int) := by omega
          have hgt' : ¬ m * b + d ≤ 4294967295 := fun h => hle (by
            have : ((m * b + d : Nat) : Int) ≤ 4294967295 := by omega
            simpa using this)
          have HN : Hid (Lx.rk b 0 s.data.toList = none) := Lib.hid (by rw [← HK.out, HG.out, Lx.rk, if_neg (by rw [HD.out]; exact fun h => hgt' h.2)])
          clear ho hgt'
          go_wp2
          go_quiet ((go_at_call 210; refine Calls.quiet_of_same (C1.out _)))
          go_wp2
          go_ret2
          exact ⟨by rw [HN.out]; rfl, below_drewN hB _⟩
    · have hge : ¬ (k : Int) < (s.size : Int) := by omega
      have HN : Hid (Lx.rk b 0 s.data.toList = some m) := Lib.hid (by rw [← HK.out, Lx.drop_nil s k (by omega)]; rfl)
      go_wp2
      go_ret2
      refine ⟨?_, hB⟩
      show Ending.returned (.tuple #[.int .i64 (m : Int), .bool (!s.toList.isEmpty)]) = _
      rw [HN.out, Lx.notEmpty]; rfl
theorem Lx.valF_le (b : Nat) (hb : 1 ≤ b) (l : List UInt8) : ∀ n, n * b ^ l.length ≤ l.foldl (fun n c => n * b + Lx.hval c) n := by
  induction l with
  | nil => intro n; simp
  | cons c r ih =>
    intro n
    have h := ih (n * b + Lx.hval c)
    rw [List.foldl_cons, List.length_cons, Nat.pow_succ]
    have h2 : n * (b ^ r.length * b) = (n * b) * b ^ r.length := by rw [Nat.mul_comm (b ^ r.length) b, Nat.mul_assoc]
    rw [h2]
    exact Nat.le_trans (Nat.mul_le_mul_right _ (Nat.le_add_right _ _)) h
theorem Lx.valF_ge (b : Nat) (hb : 1 ≤ b) (l : List UInt8) (n : Nat) : n ≤ l.foldl (fun n c => n * b + Lx.hval c) n :=
  Nat.le_trans (Nat.le_mul_of_pos_right n (Nat.pow_pos (by omega))) (Lx.valF_le b hb l n)
theorem Lx.rk_is (b : Nat) (hb : 1 ≤ b) (l : List UInt8) : ∀ n, n ≤ 4294967295 → Lx.rk b n l = if l.all (Lx.okd b) = true ∧ l.foldl (fun n c => n * b + Lx.hval c) n ≤ 4294967295 then some (l.foldl (fun n c => n * b + Lx.hval c) n) else none := by
  induction l with
  | nil => intro n hn; rw [Lx.rk, if_pos ⟨rfl, hn⟩]; rfl
  | cons c r ih =>
    intro n hn
    rw [Lx.rk, List.foldl_cons, List.all_cons]
    have hg := Lx.valF_ge b hb r (n * b + Lx.hval c)
    by_cases h : Lx.okd b c = true ∧ n * b + Lx.hval c ≤ 4294967295
    · rw [if_pos h, ih _ h.2, h.1, Bool.true_and]
    · rw [if_neg h, if_neg]
      rintro ⟨h1, h2⟩
      rw [Bool.and_eq_true] at h1
      exact h ⟨h1.1, Nat.le_trans hg h2⟩
theorem Lx.hval_hex (c : UInt8) (h : Lx.hex c = true) : Lx.hval c < 16 := by
  have := Lx.hval_lt c.toNat c.toNat_lt; rw [Lx.of_byte] at this; exact this h
theorem Lx.valF_lt (l : List UInt8) (h : l.all Lx.hex = true) : ∀ n, l.foldl (fun n c => n * 16 + Lx.hval c) n < (n + 1) * 16 ^ l.length := by
  induction l with
  | nil => intro n; simp
  | cons c r ih =>
    intro n
    rw [List.all_cons, Bool.and_eq_true] at h
    have h1 := ih h.2 (n * 16 + Lx.hval c)
    have h2 := Lx.hval_hex c h.1
    rw [List.foldl_cons, List.length_cons, Nat.pow_succ, Nat.mul_comm (16 ^ r.length) 16, ← Nat.mul_assoc]
    exact Nat.lt_of_lt_of_le h1 (Nat.mul_le_mul_right _ (by omega))
theorem Lx.num_hex (l : List UInt8) (h : l.take 2 = [48, 120]) : (0 ≤ Lx.num l ↔ ((Lx.rk 16 0 (l.drop 2)).isSome = true ∧ 0 < (l.drop 2).length) ∧ (l.drop 2).length ≤ 8) ∧ (0 ≤ Lx.num l → Lx.num l = (((Lx.rk 16 0 (l.drop 2)).getD 0 : Nat) : Int)) := by
  rw [Lx.num, if_pos h, Lx.rk_is 16 (by omega) _ 0 (by omega)]
  obtain ⟨m, hm⟩ : ∃ m, l.drop 2 = m := ⟨_, rfl⟩
  rw [hm]
  have ha : m.all (Lx.okd 16) = m.all Lx.hex := rfl
  rw [ha]
  by_cases h1 : m.length ≤ 8 ∧ m ≠ [] ∧ m.all Lx.hex = true
  · have h2 := Lx.valF_lt m h1.2.2 0
    have h3 : 16 ^ m.length ≤ 16 ^ 8 := Nat.pow_le_pow_right (by omega) h1.1
    have h4 : 0 < m.length := List.length_pos_iff.2 h1.2.1
    rw [if_pos h1, if_pos ⟨h1.2.2, by omega⟩]
    unfold Lx.val
    exact ⟨⟨fun _ => ⟨⟨rfl, h4⟩, h1.1⟩, fun _ => by omega⟩, fun _ => rfl⟩
  · rw [if_neg h1]
    refine ⟨⟨fun h => by omega, fun h => ?_⟩, fun h => by omega⟩
    exfalso
    obtain ⟨⟨h2, h3⟩, h4⟩ := h
    refine h1 ⟨h4, fun e => by rw [e] at h3; simp at h3, ?_⟩
    by_cases h5 : m.all Lx.hex = true ∧ List.foldl (fun n c => n * 16 + Lx.hval c) 0 m ≤ 4294967295
    · exact h5.1
    · rw [if_neg h5] at h2; cases h2
theorem Lx.num_ten (l : List UInt8) (h : ¬ l.take 2 = [48, 120]) : (0 ≤ Lx.num l ↔ ((Lx.rk 10 0 l).isSome = true ∧ 0 < l.length) ∧ (l.head? ≠ some 48 ∨ l = [48])) ∧ (0 ≤ Lx.num l → Lx.num l = (((Lx.rk 10 0 l).getD 0 : Nat) : Int)) := by
  rw [Lx.num, if_neg h, Lx.rk_is 10 (by omega) _ 0 (by omega)]
  have ha : l.all (Lx.okd 10) = l.all Lx.digit := rfl
  rw [ha]
  by_cases h1 : l ≠ [] ∧ l.length ≤ 10 ∧ (1 < l.length → l.head? ≠ some 48) ∧ l.all Lx.digit = true ∧ Lx.val 10 l < 4294967296
  · have h4 : 0 < l.length := List.length_pos_iff.2 h1.1
    have h5 : List.foldl (fun n c => n * 10 + Lx.hval c) 0 l ≤ 4294967295 := by have := h1.2.2.2.2; unfold Lx.val at this; omega
    rw [if_pos h1, if_pos ⟨h1.2.2.2.1, h5⟩]
    unfold Lx.val
    refine ⟨⟨fun _ => ⟨⟨rfl, h4⟩, ?_⟩, fun _ => by omega⟩, fun _ => rfl⟩
    rcases l with _ | ⟨a, _ | ⟨b, r⟩⟩
    · simp at h4
    · by_cases ha : a = 48
      · exact Or.inr (by rw [ha])
      · exact Or.inl (by simpa using ha)
    · exact Or.inl (h1.2.2.1 (by simp))
  · rw [if_neg h1]
    refine ⟨⟨fun h => by omega, fun h => ?_⟩, fun h => by omega⟩
    exfalso
    obtain ⟨⟨h2, h3⟩, h4⟩ := h
    have h5 : l.all Lx.digit = true ∧ List.foldl (fun n c => n * 10 + Lx.hval c) 0 l ≤ 4294967295 := by
      by_cases h5 : l.all Lx.digit = true ∧ List.foldl (fun n c => n * 10 + Lx.hval c) 0 l ≤ 4294967295
      · exact h5
      · rw [if_neg h5] at h2; cases h2
    refine h1 ⟨fun e => by rw [e] at h3; simp at h3, ?_, ?_, h5.1, by unfold Lx.val; omega⟩
    · rcases h4 with h4 | h4
      · cases l with
        | nil => simp
        | cons a r =>
          have hd : Lx.digit a = true := by have := h5.1; rw [List.all_cons, Bool.and_eq_true] at this; exact this.1
          have hv : 1 ≤ Lx.hval a := by
            have h6 : a ≠ 48 := by simpa using h4
            have h7 : a.toNat ≠ 48 := fun e => h6 (UInt8.toNat_inj.1 e)
            unfold Lx.hval
            rw [if_pos hd]
            unfold Lx.digit at hd
            simp at hd
            omega
          have h8 := Lx.valF_le 10 (by omega) r (0 * 10 + Lx.hval a)
          have h9 := h5.2
          rw [List.foldl_cons] at h9
          rw [List.length_cons]
          apply Nat.le_of_not_lt
          intro hlt
          have h10 : 10 ^ 10 ≤ 10 ^ r.length := Nat.pow_le_pow_right (by omega) (by omega)
          have h11 : 1 * 10 ^ r.length ≤ (0 * 10 + Lx.hval a) * 10 ^ r.length := Nat.mul_le_mul_right _ (by omega)
          omega
      · rw [h4]; simp
    · intro hl
      rcases h4 with h4 | h4
      · exact h4
      · rw [h4] at hl; simp at hl
theorem Lx.pre_hex (l : List UInt8) : ([48, 120] : List UInt8).isPrefixOf l = true ↔ l.take 2 = [48, 120] := by
  rcases l with _ | ⟨a, _ | ⟨b, r⟩⟩ <;> simp [List.isPrefixOf]
  exact ⟨fun h => ⟨h.1.symm, h.2.symm⟩, fun h => ⟨h.1.symm, h.2.symm⟩⟩
set_option maxHeartbeats 4000000 in
theorem scutp_any (s : ByteArray) (p : Bool) (hp : ([48, 120] : List UInt8).isPrefixOf s.data.toList = p) (w : World) :
    Calls Tryz.prog 209 #[.string s, .string ⟨#[48, 120]⟩] w fun e w' => e = .returned (.tuple #[.string (if p then Lx.S (s.data.toList.drop 2) else s), .bool p]) ∧ w' = w := by
  have C := Lib.hid fun w => spre_any s ⟨#[48, 120]⟩ w
  simp only [List.toList_toArray] at C
  rw [hp] at C
  cases p
  · clear hp
    go_enter Tryz.func209, Tryz.ntmps209
    go_wp2_with (go_at_call 173; refine (C.out _).mono ?_; rintro e w1 ⟨rfl, rfl⟩)
    go_ret2
    exact ⟨rfl, rfl⟩
  · have h2 : 2 ≤ s.size := by
      have h := Lib.size_eq s
      rcases hl : s.data.toList with _ | ⟨a, _ | ⟨b, r⟩⟩ <;> rw [hl] at hp h <;> simp [List.isPrefixOf] at hp h
      omega
    clear hp
    go_enter Tryz.func209, Tryz.ntmps209
    go_wp2_with (go_at_call 173; refine (C.out _).mono ?_; rintro e w1 ⟨rfl, rfl⟩)
    go_ret2
    exact ⟨by rw [← ext_rest]; rfl, rfl⟩
theorem cutp_any (s : ByteArray) (p : Bool) (hp : ([48, 120] : List UInt8).isPrefixOf s.data.toList = p) (w : World) :
    Calls Tryz.prog 175 #[.string s, .string ⟨#[48, 120]⟩] w fun e w' => e = .returned (.tuple #[.string (if p then Lx.S (s.data.toList.drop 2) else s), .bool p]) ∧ w' = w := by
  have C := Lib.hid fun w => scutp_any s p hp w
  generalize (if p then Lx.S (s.data.toList.drop 2) else s) = t at C ⊢
  clear hp
  go_enter Tryz.func175, Tryz.ntmps175
  go_wp2_with (go_at_call 209; refine (C.out _).mono ?_; rintro e w1 ⟨rfl, rfl⟩)
  go_ret2
  exact ⟨rfl, rfl⟩
set_option maxHeartbeats 4000000 in
theorem number_any (s : ByteArray) (hs : s.size ≤ 281474976710656) (w : World) :
    Calls Tryz.prog 115 #[.string s] w fun e w' => (∃ n : Int, e = .returned (.tuple #[.int .i64 n, .bool (decide (0 ≤ Lx.num s.data.toList))]) ∧ (0 ≤ Lx.num s.data.toList → n = Lx.num s.data.toList)) ∧ Below w.heap.size w w' := by
  cases hp : ([48, 120] : List UInt8).isPrefixOf s.data.toList
  · have HN := Lib.hid (Lx.num_ten s.data.toList (fun h => by rw [(Lx.pre_hex _).2 h] at hp; cases hp))
    have C1 := Lib.hid fun w => cutp_any s false hp w
    simp only [Bool.false_eq_true, if_false] at C1
    have C2 := Lib.hid fun w => reckon_any s hs 10 (Or.inl rfl) w
    rw [show ((10 : Nat) : Int) = 10 from rfl] at C2
    have HZ := Lib.hid (Lib.size_eq s)
    generalize Lx.num s.data.toList = N at HN ⊢
    generalize Lx.rk 10 0 s.data.toList = R at HN C2
    clear hp
    rcases R with _ | m
    · simp only [Option.isSome_none, Bool.false_and, Option.getD_none] at C2
      have hn : Hid (¬ 0 ≤ N) := Lib.hid (fun h => by have := (HN.out.1.1 h).1.1; cases this)
      go_enter Tryz.func115, Tryz.ntmps115
      go_wp2_with (first
        | (go_at_call 175; refine (C1.out _).mono ?_; rintro e w1 ⟨rfl, rfl⟩)
        | (go_at_call 176; refine (C2.out _).mono ?_; rintro e w2 ⟨rfl, hb2⟩))
      go_ret2
      exact ⟨⟨0, by rw [decide_eq_false (p := 0 ≤ N) (by have := hn.out; omega)]; rfl, fun h => absurd h (by have := hn.out; omega)⟩, hb2⟩
    · simp only [Option.isSome_some, Bool.true_and, Option.getD_some] at C2 HN
      by_cases h0 : 0 < s.size
      · have h0' : (0 : Int) < (s.size : Int) := by omega
        simp only [h0, decide_true] at C2
        cases hq : (((s[0]'h0).toNat : Int) == 48)
        · have hq' : (((s[0]'h0).toNat : Int) != 48) = true := by simp [bne, hq]
          have hn : Hid (0 ≤ N) := Lib.hid (HN.out.1.2 ⟨⟨trivial, by rw [← HZ.out]; exact h0⟩, Or.inl (by
            have h1 := Lx.get s 0 h0
            rw [List.drop_zero] at h1
            rw [h1]
            intro e
            have e2 : s[0] = 48 := by simpa using e
            rw [e2] at hq
            exact absurd hq (by decide))⟩)
          go_enter Tryz.func115, Tryz.ntmps115
          go_wp2_with (first
            | (go_at_call 175; refine (C1.out _).mono ?_; rintro e w1 ⟨rfl, rfl⟩)
            | (go_at_call 176; refine (C2.out _).mono ?_; rintro e w2 ⟨rfl, hb2⟩))
          go_ret2
          exact ⟨⟨(m : Int), by rw [decide_eq_true (p := 0 ≤ N) hn.out]; rfl, fun h => (HN.out.2 h).symm⟩, hb2⟩
        · have hq' : (((s[0]'h0).toNat : Int) != 48) = false := by simp [bne, hq]
          have HH : Hid (s.data.toList.head? = some 48) := Lib.hid (by
            have h1 := Lx.get s 0 h0
            rw [List.drop_zero] at h1
            rw [h1]
            have e2 : s[0] = 48 := UInt8.toNat_inj.1 (by have := eq_of_beq hq; exact_mod_cast this)
            rw [e2]; rfl)
          cases hl : (s.toList == [48])
          · have hn : Hid (¬ 0 ≤ N) := Lib.hid (fun h => by
              rcases (HN.out.1.1 h).2 with h3 | h3
              · exact h3 HH.out
              · rw [Lib.toList_data, h3] at hl; exact absurd hl (by decide))
            go_enter Tryz.func115, Tryz.ntmps115
            go_wp2_with (first
              | (go_at_call 175; refine (C1.out _).mono ?_; rintro e w1 ⟨rfl, rfl⟩)
              | (go_at_call 176; refine (C2.out _).mono ?_; rintro e w2 ⟨rfl, hb2⟩))
            go_ret2
            exact ⟨⟨(m : Int), by rw [decide_eq_false (p := 0 ≤ N) (by have := hn.out; omega)]; rfl, fun h => absurd h (by have := hn.out; omega)⟩, hb2⟩
          · have hn : Hid (0 ≤ N) := Lib.hid (HN.out.1.2 ⟨⟨trivial, by rw [← HZ.out]; exact h0⟩, Or.inr (by rw [← Lib.toList_data]; exact eq_of_beq hl)⟩)
            go_enter Tryz.func115, Tryz.ntmps115
            go_wp2_with (first
              | (go_at_call 175; refine (C1.out _).mono ?_; rintro e w1 ⟨rfl, rfl⟩)
              | (go_at_call 176; refine (C2.out _).mono ?_; rintro e w2 ⟨rfl, hb2⟩))
            go_ret2
            exact ⟨⟨(m : Int), by rw [decide_eq_true (p := 0 ≤ N) hn.out]; rfl, fun h => (HN.out.2 h).symm⟩, hb2⟩
      · simp only [h0, decide_false] at C2
        have hn : Hid (¬ 0 ≤ N) := Lib.hid (fun h => by have := (HN.out.1.1 h).1.2; rw [← HZ.out] at this; exact h0 this)
        go_enter Tryz.func115, Tryz.ntmps115
        go_wp2_with (first
          | (go_at_call 175; refine (C1.out _).mono ?_; rintro e w1 ⟨rfl, rfl⟩)
          | (go_at_call 176; refine (C2.out _).mono ?_; rintro e w2 ⟨rfl, hb2⟩))
        go_ret2
        exact ⟨⟨(m : Int), by rw [decide_eq_false (p := 0 ≤ N) (by have := hn.out; omega)]; rfl, fun h => absurd h (by have := hn.out; omega)⟩, hb2⟩
  · have HN := Lib.hid (Lx.num_hex s.data.toList ((Lx.pre_hex _).1 hp))
    have C1 := Lib.hid fun w => cutp_any s true hp w
    simp only [if_true] at C1
    obtain ⟨d, hd⟩ : ∃ d, s.data.toList.drop 2 = d := ⟨_, rfl⟩
    have hdl : d.length ≤ s.size := by rw [← hd, List.length_drop, Lib.size_eq]; omega
    rw [hd] at C1 HN
    have C2 := Lib.hid fun w => reckon_any (Lx.S d) (by rw [Lx.S_size]; omega) 16 (Or.inr rfl) w
    rw [show ((16 : Nat) : Int) = 16 from rfl, Lx.S_list, Lx.S_size] at C2
    have hsz := Lx.S_size d
    have HZ := Lib.hid hsz
    generalize Lx.num s.data.toList = N at HN ⊢
    generalize Lx.rk 16 0 d = R at HN C2
    clear hp hd hdl hsz
    rcases R with _ | m
    · simp only [Option.isSome_none, Bool.false_and, Option.getD_none] at C2
      have hn : Hid (¬ 0 ≤ N) := Lib.hid (fun h => by have := (HN.out.1.1 h).1.1; cases this)
      go_enter Tryz.func115, Tryz.ntmps115
      go_wp2_with (first
        | (go_at_call 175; refine (C1.out _).mono ?_; rintro e w1 ⟨rfl, rfl⟩)
        | (go_at_call 176; refine (C2.out _).mono ?_; rintro e w2 ⟨rfl, hb2⟩))
      go_ret2
      exact ⟨⟨0, by rw [decide_eq_false (p := 0 ≤ N) (by have := hn.out; omega)]; rfl, fun h => absurd h (by have := hn.out; omega)⟩, hb2⟩
    · simp only [Option.isSome_some, Bool.true_and, Option.getD_some] at C2 HN
      obtain ⟨D, hD⟩ : ∃ D, Lx.S d = D := ⟨_, rfl⟩
      rw [hD] at C1 C2 HZ
      have HDD := Lib.hid hD
      clear hD
      by_cases h0 : 0 < d.length
      · simp only [h0, decide_true] at C2
        by_cases h8 : D.size ≤ 8
        · have h8' : (D.size : Int) ≤ 8 := by omega
          have hn : Hid (0 ≤ N) := Lib.hid (HN.out.1.2 ⟨⟨trivial, h0⟩, by rw [← HZ.out]; exact h8⟩)
          go_enter Tryz.func115, Tryz.ntmps115
          go_wp2_with (first
            | (go_at_call 175; refine (C1.out _).mono ?_; rintro e w1 ⟨rfl, rfl⟩)
            | (go_at_call 176; refine (C2.out _).mono ?_; rintro e w2 ⟨rfl, hb2⟩))
          go_ret2
          exact ⟨⟨(m : Int), by rw [decide_eq_true (p := 0 ≤ N) hn.out]; rfl, fun h => (HN.out.2 h).symm⟩, hb2⟩
        · have h8' : ¬ (D.size : Int) ≤ 8 := by omega
          have hn : Hid (¬ 0 ≤ N) := Lib.hid (fun h => by have := (HN.out.1.1 h).2; rw [← HZ.out] at this; exact h8 this)
          go_enter Tryz.func115, Tryz.ntmps115
          go_wp2_with (first
            | (go_at_call 175; refine (C1.out _).mono ?_; rintro e w1 ⟨rfl, rfl⟩)
            | (go_at_call 176; refine (C2.out _).mono ?_; rintro e w2 ⟨rfl, hb2⟩))
          go_ret2
          exact ⟨⟨(m : Int), by rw [decide_eq_false (p := (D.size : Int) ≤ 8) (by omega), decide_eq_false (p := 0 ≤ N) (by have := hn.out; omega)]; rfl, fun h => absurd h (by have := hn.out; omega)⟩, hb2⟩
      · simp only [h0, decide_false] at C2
        have hn : Hid (¬ 0 ≤ N) := Lib.hid (fun h => h0 (HN.out.1.1 h).1.2)
        go_enter Tryz.func115, Tryz.ntmps115
        go_wp2_with (first
          | (go_at_call 175; refine (C1.out _).mono ?_; rintro e w1 ⟨rfl, rfl⟩)
          | (go_at_call 176; refine (C2.out _).mono ?_; rintro e w2 ⟨rfl, hb2⟩))
        go_ret2
        exact ⟨⟨(m : Int), by rw [decide_eq_false (p := 0 ≤ N) (by have := hn.out; omega)]; rfl, fun h => absurd h (by have := hn.out; omega)⟩, hb2⟩
end Go.Proofs.YtjfdcnggnldgdaaGreatDoor
end
section
namespace Go.Proofs.YtjfdcnggnldgdaaGreatDoor
open Go.ChangeShapes Go.WideShapes Go.ChangeAt Go.RowKit
set_option linter.unusedVariables false
set_option linter.unusedSimpArgs false

theorem run_cut (s : ByteArray) (a b : Nat) (j : Int) (hj : j = (b : Int)) (h1 : a ≤ b) (h2 : b ≤ s.size) (w : World) :
    (Instr.slice 9 (.string s) (some (.int .i64 (a : Int))) (some (.int .i64 j)) none).run Tryz.prog w = .ok (.string (s.extract a b)) w := by
  subst hj
  exact run_slice_string (P := Tryz.prog) w 9 s .i64 .i64 (a : Int) (b : Int) Tryz.underlying9 (by omega) (by omega) (by omega)
theorem Lx.app_list (a b : ByteArray) : (a ++ b).data.toList = a.data.toList ++ b.data.toList := by
  rw [ByteArray.data_append, Array.toList_append]
theorem Lx.inL_some {L t : List UInt8} {k : Nat} (h : (L.drop k).take (t.length + 2) = 32 :: t ++ [32]) : Lx.inL L t = true := by
  unfold Lx.inL
  rw [List.any_eq_true]
  refine ⟨k, ?_, decide_eq_true h⟩
  rw [List.mem_range]
  apply Decidable.byContradiction
  intro hk
  rw [List.drop_of_length_le (by omega)] at h
  simp at h
theorem Lx.inL_none {L t : List UInt8} (h : ∀ k, (L.drop k).take (t.length + 2) ≠ 32 :: t ++ [32]) : Lx.inL L t = false := by
  unfold Lx.inL
  rw [List.any_eq_false]
  intro k _
  simpa using h k
set_option maxHeartbeats 8000000 in
theorem rin_any (L s : ByteArray) (hL : L.size ≤ 1000) (hs : s.size ≤ 281474976710000) (w : World) :
    Calls Tryz.prog 130 #[.string L, .string s] w fun e w' => e = .returned (.bool (Lx.inL L.data.toList s.data.toList)) ∧ w' = w := by
  go_enter Tryz.func130, Tryz.ntmps130
  go_wp2
  obtain ⟨t, ht⟩ : ∃ t : ByteArray, (({ data := #[32] } : ByteArray) ++ s ++ { data := #[32] }) = t := ⟨_, rfl⟩
  have hl : t.data.toList = 32 :: s.data.toList ++ [32] := by rw [← ht, Lx.app_list, Lx.app_list]; rfl
  have hz : t.size = s.data.toList.length + 2 := by rw [Lib.size_eq, hl]; simp
  have hzs : t.size = s.size + 2 := by rw [hz, Lib.size_eq]
  rw [ht]
  have HL := Lib.hid hl
  have HZ := Lib.hid hz
  have htz : t.size ≤ 281474976710656 := by omega
  clear ht hl hz hzs
  go_loopw [6] (fun K wr => wr = w ∧ ∃ k : Nat, k ≤ L.size + 1 ∧ K = .int .i64 (k : Int) ∧ Hid (∀ j, j < k → (L.data.toList.drop j).take (s.data.toList.length + 2) ≠ 32 :: s.data.toList ++ [32])) (fun K _ => L.size + 2 - (intOf K).toNat)
  case atStart => exact ⟨rfl, 0, Nat.zero_le _, rfl, Lib.hid (fun j hj => absurd hj (Nat.not_lt_zero _))⟩
  case round =>
    obtain ⟨rfl, k, hk, rfl, HK⟩ := hrel
    by_cases hlt : (k : Int) + (t.size : Int) ≤ (L.size : Int)
    · have hlt2 : k + t.size ≤ L.size := by omega
      have hE : (L.extract k (k + t.size)).toList = (L.data.toList.drop k).take (s.data.toList.length + 2) := by
        rw [Lib.toList_data, Lib.extract_data, show k + t.size - k = t.size from by omega, HZ.out]
      have E := run_cut L k (k + t.size) ((k : Int) + (t.size : Int)) (by omega) (by omega) hlt2
      cases hq : ((L.extract k (k + t.size)).toList == t.toList)
      · have HN : Hid ((L.data.toList.drop k).take (s.data.toList.length + 2) ≠ 32 :: s.data.toList ++ [32]) := Lib.hid (fun h => by
          rw [hE, h, Lib.toList_data, HL.out] at hq
          simp at hq)
        clear hE
        go_wp2
        exact ⟨⟨trivial, k + 1, by omega, by go_num, Lib.hid (fun j hj => by
          rcases Nat.lt_or_ge j k with h | h
          · exact HK.out j h
          · obtain rfl : j = k := by omega
            exact HN.out)⟩, by simp [intOf]; omega⟩
      · have HN : Hid (Lx.inL L.data.toList s.data.toList = true) := Lib.hid (Lx.inL_some (k := k) (by
          have h := eq_of_beq hq
          rw [hE, Lib.toList_data, HL.out] at h
          exact h))
        clear hE
        go_wp2
        go_ret
        exact ⟨ret_bool' HN.out.symm, rfl⟩
    · have HN : Hid (Lx.inL L.data.toList s.data.toList = false) := Lib.hid (Lx.inL_none (fun j h => by
        rcases Nat.lt_or_ge j k with h2 | h2
        · exact HK.out j h2 h
        · have h3 := congrArg List.length h
          have h4 := Lib.size_eq L
          have h5 := HZ.out
          simp only [List.length_take, List.length_drop, List.length_append, List.length_cons, List.length_nil] at h3
          omega))
      go_wp2
      go_ret
      exact ⟨ret_bool' HN.out.symm, rfl⟩
set_option maxHeartbeats 8000000 in
theorem rsign_any (s : ByteArray) (hs : s.size ≤ 281474976710000) (k : Nat) (hk : k < s.size) (hb : (s[k]'hk) ≠ 32) (w : World) :
    Calls Tryz.prog 128 #[.string s, .int .i64 (k : Int)] w fun e w' => e = .returned (.string (Lx.S ((s.data.toList.drop k).take (Lx.sign (s.data.toList.drop k))))) ∧ w' = w := by
  have hg := Lx.get s k hk
  have h1e : s.extract k (k + 1) = Lx.S [s[k]] := by rw [Lx.S_ext, hg, show k + 1 - k = 1 from by omega]; rfl
  have hkI : (k : Int) < (s.size : Int) := by omega
  have E1 := run_cut s k (k + 1) ((k : Int) + 1) (by omega) (by omega) (by omega)
  have C1 := Lib.hid fun w => rin_any ⟨#[32, 40, 32, 41, 32, 123, 32, 125, 32, 91, 32, 93, 32, 44, 32, 59, 32, 58, 32, 61, 32, 43, 32, 45, 32, 42, 32, 38, 32, 124, 32, 94, 32, 126, 32, 33, 32, 60, 32, 62, 32]⟩ (s.extract k (k + 1)) (by decide) (by rw [h1e, Lx.S_size]; simp) w
  have hin1 : Lx.inL [32, 40, 32, 41, 32, 123, 32, 125, 32, 91, 32, 93, 32, 44, 32, 59, 32, 58, 32, 61, 32, 43, 32, 45, 32, 42, 32, 38, 32, 124, 32, 94, 32, 126, 32, 33, 32, 60, 32, 62, 32] [s[k]] = Lx.ones.contains s[k] := by
    have h := Lx.inL_one s[k] hb
    rwa [show Lx.between Lx.onesL = [32, 40, 32, 41, 32, 123, 32, 125, 32, 91, 32, 93, 32, 44, 32, 59, 32, 58, 32, 61, 32, 43, 32, 45, 32, 42, 32, 38, 32, 124, 32, 94, 32, 126, 32, 33, 32, 60, 32, 62, 32] from by decide] at h
  rw [show (s.extract k (k + 1)).data.toList = [s[k]] from by rw [h1e]; rfl, show (⟨#[32, 40, 32, 41, 32, 123, 32, 125, 32, 91, 32, 93, 32, 44, 32, 59, 32, 58, 32, 61, 32, 43, 32, 45, 32, 42, 32, 38, 32, 124, 32, 94, 32, 126, 32, 33, 32, 60, 32, 62, 32]⟩ : ByteArray).data.toList = [32, 40, 32, 41, 32, 123, 32, 125, 32, 91, 32, 93, 32, 44, 32, 59, 32, 58, 32, 61, 32, 43, 32, 45, 32, 42, 32, 38, 32, 124, 32, 94, 32, 126, 32, 33, 32, 60, 32, 62, 32] from rfl, hin1] at C1
  have H1E := Lib.hid h1e
  clear h1e hin1
  by_cases h2 : k + 1 < s.size
  · have hg2 := Lx.get s (k + 1) h2
    have h2I : (k : Int) + 2 ≤ (s.size : Int) := by omega
    have tok1 : True := trivial
    have E2 := run_cut s k (k + 2) ((k : Int) + 2) (by omega) (by omega) (by omega)
    have h2e : s.extract k (k + 2) = Lx.S [s[k], s[k + 1]] := by rw [Lx.S_ext, hg, hg2, show k + 2 - k = 2 from by omega]; rfl
    have C2 := Lib.hid fun w => rin_any ⟨#[32, 60, 60, 32, 62, 62, 32, 61, 61, 32, 33, 61, 32, 60, 61, 32, 62, 61, 32]⟩ (s.extract k (k + 2)) (by decide) (by rw [h2e, Lx.S_size]; simp) w
    have hin2 : Lx.inL [32, 60, 60, 32, 62, 62, 32, 61, 61, 32, 33, 61, 32, 60, 61, 32, 62, 61, 32] [s[k], s[k + 1]] = Lx.twos.contains (s[k], s[k + 1]) := by
      have h := Lx.inL_two s[k] s[k + 1] hb
      rwa [show Lx.between Lx.twosL = [32, 60, 60, 32, 62, 62, 32, 61, 61, 32, 33, 61, 32, 60, 61, 32, 62, 61, 32] from by decide] at h
    rw [show (s.extract k (k + 2)).data.toList = [s[k], s[k + 1]] from by rw [h2e]; rfl, show (⟨#[32, 60, 60, 32, 62, 62, 32, 61, 61, 32, 33, 61, 32, 60, 61, 32, 62, 61, 32]⟩ : ByteArray).data.toList = [32, 60, 60, 32, 62, 62, 32, 61, 61, 32, 33, 61, 32, 60, 61, 32, 62, 61, 32] from rfl, hin2] at C2
    have H2E := Lib.hid h2e
    have HX : Hid ((s.data.toList.drop k).take (Lx.sign (s.data.toList.drop k)) = if Lx.twos.contains (s[k], s[k + 1]) then [s[k], s[k + 1]] else if Lx.ones.contains s[k] then [s[k]] else []) := Lib.hid (by
      rw [hg, hg2, Lx.sign]
      split
      · rfl
      · split <;> rfl)
    clear h2e hin2 hg hg2 hb
    cases q2 : Lx.twos.contains (s[k], s[k + 1])
    · rw [q2] at C2 HX
      rw [if_neg (by decide)] at HX
      cases q1 : Lx.ones.contains s[k]
      · rw [q1] at C1 HX
        rw [if_neg (by decide)] at HX
        clear q1 q2
        go_enter Tryz.func128, Tryz.ntmps128
        go_wp2_with (first
          | (go_at_call 130; have _t := tok1; refine (C2.out _).mono ?_; rintro e w2 ⟨rfl, rfl⟩; clear tok1)
          | (go_at_call 130; refine (C1.out _).mono ?_; rintro e w2 ⟨rfl, rfl⟩))
        go_ret
        exact ⟨by rw [HX.out]; rfl, rfl⟩
      · rw [q1] at C1 HX
        rw [if_pos rfl] at HX
        clear q1 q2
        go_enter Tryz.func128, Tryz.ntmps128
        go_wp2_with (first
          | (go_at_call 130; have _t := tok1; refine (C2.out _).mono ?_; rintro e w2 ⟨rfl, rfl⟩; clear tok1)
          | (go_at_call 130; refine (C1.out _).mono ?_; rintro e w2 ⟨rfl, rfl⟩))
        go_ret
        exact ⟨by rw [HX.out, ← H1E.out]; rfl, rfl⟩
    · rw [q2] at C2 HX
      rw [if_pos rfl] at HX
      clear q2
      go_enter Tryz.func128, Tryz.ntmps128
      go_wp2_with (first
        | (go_at_call 130; have _t := tok1; refine (C2.out _).mono ?_; rintro e w2 ⟨rfl, rfl⟩; clear tok1)
        | (go_at_call 130; refine (C1.out _).mono ?_; rintro e w2 ⟨rfl, rfl⟩))
      go_ret
      exact ⟨by rw [HX.out, ← H2E.out]; rfl, rfl⟩
  · have h2I : ¬ (k : Int) + 2 ≤ (s.size : Int) := by omega
    have hg2 := Lx.drop_nil s (k + 1) (by omega)
    have HX : Hid ((s.data.toList.drop k).take (Lx.sign (s.data.toList.drop k)) = if Lx.ones.contains s[k] then [s[k]] else []) := Lib.hid (by
      rw [hg, hg2, Lx.sign]
      split <;> rfl)
    clear hg hg2 hb
    cases q1 : Lx.ones.contains s[k]
    · rw [q1] at C1 HX
      rw [if_neg (by decide)] at HX
      clear q1
      go_enter Tryz.func128, Tryz.ntmps128
      go_wp2_with (first
        | (go_at_call 130; refine (C1.out _).mono ?_; rintro e w2 ⟨rfl, rfl⟩))
      go_ret
      exact ⟨by rw [HX.out]; rfl, rfl⟩
    · rw [q1] at C1 HX
      rw [if_pos rfl] at HX
      clear q1
      go_enter Tryz.func128, Tryz.ntmps128
      go_wp2_with (first
        | (go_at_call 130; refine (C1.out _).mono ?_; rintro e w2 ⟨rfl, rfl⟩))
      go_ret
      exact ⟨by rw [HX.out, ← H1E.out]; rfl, rfl⟩
end Go.Proofs.YtjfdcnggnldgdaaGreatDoor
end
section
set_option linter.unusedVariables false
set_option linter.unusedSimpArgs false
namespace Go.Proofs.YtjfdcnggnldgdaaGreatDoor

def Sx.X (L : List Lx.Tok) (t : Nat) (σ : Sx.R) : Sx.E × Sx.R := Sx.expr L (Sx.fuel L) t σ
def Sx.Sg (L : List Lx.Tok) (t m : Nat) (c : Bool) (x : Sx.E) (σ : Sx.R) : Sx.E × Sx.R := Sx.signs L (Sx.fuel L) t m c x σ
def Sx.U (L : List Lx.Tok) (σ : Sx.R) : Sx.E × Sx.R := Sx.unary L (Sx.fuel L) σ
def Sx.W (L : List Lx.Tok) (s : List UInt8) (σ : Sx.R) : Sx.E × Sx.R := Sx.word L (Sx.fuel L) s σ
def Sx.Mn (L : List Lx.Tok) (n : Nat) (b : Bool) (σ : Sx.R) : List Sx.E × Sx.R := Sx.many L (Sx.fuel L) n b σ
def Sx.Bh (L : List Lx.Tok) (t : Lx.Tok) (σ : Sx.R) : Sx.E × Sx.R := Sx.behind L (Sx.fuel L) t σ
def Sx.Cm (L : List Lx.Tok) (σ : Sx.R) : List Sx.E × Sx.R := Sx.commas L (Sx.fuel L) σ
def Sx.Bl (L : List Lx.Tok) (σ : Sx.R) : List Sx.S × Sx.R := Sx.block L (Sx.fuel L) σ
def Sx.Ss (L : List Lx.Tok) (σ : Sx.R) : List Sx.S × Sx.R := Sx.stmts L (Sx.fuel L) σ
def Sx.St (L : List Lx.Tok) (σ : Sx.R) : Sx.S × Sx.R := Sx.stmt L (Sx.fuel L) σ
def Sx.Ps (L : List Lx.Tok) (σ : Sx.R) : List Sx.Pa × Sx.R := Sx.params L (Sx.fuel L) σ
def Sx.Fs (L : List Lx.Tok) (σ : Sx.R) : List Sx.F × Sx.R := Sx.functions L (Sx.fuel L) σ
theorem Sx.fuel_M (L : List Lx.Tok) (σ : Sx.R) : Sx.M L σ + 16 ≤ Sx.fuel L := by have := Sx.M_fuel L σ; unfold Sx.fuel; omega
section
variable {L : List Lx.Tok} (hL : Sx.Ends L)
include hL
theorem Sx.X_eq (t : Nat) {σ : Sx.R} (hi : σ.at' < L.length) : Sx.X L t σ = Sx.Sg L t 7 false (Sx.U L σ).1 (Sx.U L σ).2 := by
  have h := Sx.fuel_M L σ
  unfold Sx.X Sx.Sg Sx.U
  rw [(Sx.enough hL _).1 (Sx.fuel L + 1) t σ hi (by omega) (by omega), Sx.expr]
theorem Sx.Sg_err (t m : Nat) (c : Bool) (x : Sx.E) {σ : Sx.R} (hi : σ.at' < L.length) (h : σ.err ≠ 0) : Sx.Sg L t m c x σ = (x, σ) := by
  have h' := Sx.fuel_M L σ
  unfold Sx.Sg
  rw [(Sx.enough hL _).2.1 (Sx.fuel L + 1) t m c x σ hi (by omega) (by omega), Sx.signs, if_pos h]
theorem Sx.Sg_stop {t m : Nat} {c : Bool} (x : Sx.E) {σ : Sx.R} (hi : σ.at' < L.length) (h : (Sx.tight (Sx.text L σ)).1 ≤ t ∨ m < (Sx.tight (Sx.text L σ)).1 ∨ ((Sx.tight (Sx.text L σ)).1 = 1 ∧ c = true)) : Sx.Sg L t m c x σ = (x, σ) := by
  have h' := Sx.fuel_M L σ
  unfold Sx.Sg
  rw [(Sx.enough hL _).2.1 (Sx.fuel L + 1) t m c x σ hi (by omega) (by omega), Sx.signs]
  split
  · rfl
  · rw [if_pos h]
/-- one sign between two, and what is on its right -/
def Sx.step (L : List Lx.Tok) (x : Sx.E) (σ : Sx.R) : Sx.E × Sx.R :=
  let t := Sx.tight (Sx.text L σ)
  if t.1 = 5 then
    let n := Sx.some L 2 { σ with at' := σ.at' + 1 }
    (.mk t.2 (Sx.tk L σ).pos n.1.num [] [x], n.2)
  else
    let y := Sx.X L t.1 { σ with at' := σ.at' + 1 }
    (.mk t.2 (Sx.tk L σ).pos 0 [] [x, y.1], y.2)
omit hL in
theorem Sx.step5 {x : Sx.E} {σ : Sx.R} (h : (Sx.tight (Sx.text L σ)).1 = 5) : Sx.step L x σ = (.mk (Sx.tight (Sx.text L σ)).2 (Sx.tk L σ).pos (Sx.some L 2 { σ with at' := σ.at' + 1 }).1.num [] [x], (Sx.some L 2 { σ with at' := σ.at' + 1 }).2) := by unfold Sx.step; simp only []; rw [if_pos h]
omit hL in
theorem Sx.stepN {x : Sx.E} {σ : Sx.R} {l : Nat} (hl : (Sx.tight (Sx.text L σ)).1 = l) (h : l ≠ 5) : Sx.step L x σ = (.mk (Sx.tight (Sx.text L σ)).2 (Sx.tk L σ).pos 0 [] [x, (Sx.X L l { σ with at' := σ.at' + 1 }).1], (Sx.X L l { σ with at' := σ.at' + 1 }).2) := by subst hl; unfold Sx.step; simp only []; rw [if_neg h]
theorem Sx.le_X (t : Nat) (σ : Sx.R) : Sx.Le L σ (Sx.X L t σ).2 := (Sx.le_exprs hL _).1 t σ
theorem Sx.le_U (σ : Sx.R) : Sx.Le L σ (Sx.U L σ).2 := (Sx.le_exprs hL _).2.2.1 σ
theorem Sx.step_le {x : Sx.E} {σ : Sx.R} (he : σ.err = 0) (h : (Sx.tight (Sx.text L σ)).1 ≠ 0) : Sx.Le L { σ with at' := σ.at' + 1 } (Sx.step L x σ).2 := by
  unfold Sx.step
  simp only []
  split
  · exact Sx.le_some hL 2 (by decide) _
  · exact Sx.le_X hL _ _
theorem Sx.step_in {x : Sx.E} {σ : Sx.R} (hi : σ.at' < L.length) (he : σ.err = 0) (h : (Sx.tight (Sx.text L σ)).1 ≠ 0) : (Sx.step L x σ).2.at' < L.length ∧ Sx.M L (Sx.step L x σ).2 + 16 ≤ Sx.M L σ := by
  have h1 := Sx.step_le hL (x := x) he h
  have h2 := Sx.le_next hL he (Sx.tight_kind (n := 0) (by omega))
  exact ⟨h1.2.2.1 (h2.2.2.1 hi), Nat.le_trans (Nat.add_le_add_right (Sx.M_le h1) 16) (Sx.M_next he hi)⟩
theorem Sx.Sg_go {t m : Nat} {c : Bool} (x : Sx.E) {σ : Sx.R} (hi : σ.at' < L.length) (he : σ.err = 0) (h : ¬ ((Sx.tight (Sx.text L σ)).1 ≤ t ∨ m < (Sx.tight (Sx.text L σ)).1 ∨ ((Sx.tight (Sx.text L σ)).1 = 1 ∧ c = true))) :
    Sx.Sg L t m c x σ = Sx.Sg L t (Sx.tight (Sx.text L σ)).1 (c || decide ((Sx.tight (Sx.text L σ)).1 = 1)) (Sx.step L x σ).1 (Sx.step L x σ).2 := by
  have h' := Sx.fuel_M L σ
  unfold Sx.Sg
  rw [(Sx.enough hL _).2.1 (Sx.fuel L + 1) t m c x σ hi (by omega) (by omega), Sx.signs, if_neg (by omega)]
  simp only []
  rw [if_neg h]
  unfold Sx.step Sx.X
  simp only []
  split
  · rename_i h5; rw [h5]
  · rfl
/-- signs of a level, and those that bind tighter -/
theorem Sx.Sg_level (l m : Nat) (c : Bool) (hl : l ≠ 0) (hm : l ≤ m) (n : Nat) : ∀ (m : Nat) (hm : l ≤ m) (x : Sx.E) (σ : Sx.R), σ.at' < L.length → Sx.M L σ ≤ n → Sx.Sg L (l - 1) m c x σ = Sx.Sg L (l - 1) l c (Sx.Sg L l m c x σ).1 (Sx.Sg L l m c x σ).2 := by
  induction n with
  | zero =>
    intro m hm x σ hi hn
    have he : σ.err ≠ 0 := fun he => by have := Sx.M_pos he hi; omega
    rw [Sx.Sg_err hL _ _ _ _ hi he, Sx.Sg_err hL _ _ _ _ hi he, Sx.Sg_err hL _ _ _ _ hi he]
  | succ n ih =>
    intro m hm x σ hi hn
    by_cases he : σ.err = 0
    · by_cases h1 : (Sx.tight (Sx.text L σ)).1 ≤ l - 1 ∨ m < (Sx.tight (Sx.text L σ)).1 ∨ ((Sx.tight (Sx.text L σ)).1 = 1 ∧ c = true)
      · rw [Sx.Sg_stop hL x hi h1, Sx.Sg_stop hL (t := l) x hi (h1.imp (fun h => by omega) id), Sx.Sg_stop hL x hi (h1.imp id (Or.imp (fun h => by omega) id))]
      · by_cases h2 : (Sx.tight (Sx.text L σ)).1 = l
        · rw [Sx.Sg_stop hL (t := l) x hi (Or.inl (by omega)), Sx.Sg_go hL x hi he h1, Sx.Sg_go hL (m := l) x hi he (fun h => h1 (h.imp id (Or.imp (fun h => by omega) id)))]
        · have h3 : l < (Sx.tight (Sx.text L σ)).1 := by omega
          have hs := Sx.step_in hL (x := x) hi he (by omega)
          rw [Sx.Sg_go hL x hi he h1, Sx.Sg_go hL (t := l) (m := m) x hi he (fun h => h1 (h.imp (fun h => by omega) id))]
          have hc : (c || decide ((Sx.tight (Sx.text L σ)).1 = 1)) = c := by rw [decide_eq_false (by omega), Bool.or_false]
          rw [hc]
          exact ih _ (by omega) _ _ hs.1 (by omega)
    · rw [Sx.Sg_err hL _ _ _ _ hi he, Sx.Sg_err hL _ _ _ _ hi he, Sx.Sg_err hL _ _ _ _ hi he]
theorem Sx.X_in {t : Nat} {σ : Sx.R} (hi : σ.at' < L.length) : (Sx.X L t σ).2.at' < L.length := (Sx.le_X hL t σ).2.2.1 hi
theorem Sx.U_in {σ : Sx.R} (hi : σ.at' < L.length) : (Sx.U L σ).2.at' < L.length := (Sx.le_U hL σ).2.2.1 hi
/-- a chain of a level: what binds tighter, then that level's signs -/
theorem Sx.X_chain (l : Nat) (hl : l ≠ 0) (h7 : l ≤ 7) {σ : Sx.R} (hi : σ.at' < L.length) : Sx.X L (l - 1) σ = Sx.Sg L (l - 1) l false (Sx.X L l σ).1 (Sx.X L l σ).2 := by
  rw [Sx.X_eq hL _ hi, Sx.X_eq hL l hi]
  exact Sx.Sg_level hL l 7 false hl h7 _ 7 h7 _ _ (Sx.U_in hL hi) (Nat.le_refl _)
omit hL in
theorem Sx.tight_seven (s : List UInt8) : (Sx.tight s).1 ≤ 7 := by
  unfold Sx.tight
  split
  · rename_i x h
    have hm := List.mem_of_find?_eq_some h
    have : ∀ x ∈ Sx.tights, x.2.1 ≤ 7 := by decide
    exact this x hm
  · exact Nat.zero_le _
theorem Sx.X_seven {σ : Sx.R} (hi : σ.at' < L.length) : Sx.X L 7 σ = Sx.U L σ := by
  rw [Sx.X_eq hL _ hi, Sx.Sg_stop hL _ (Sx.U_in hL hi) (Or.inl (Sx.tight_seven _))]
/-- a comparison, of which there is one at most -/
theorem Sx.X_zero {σ : Sx.R} (hi : σ.at' < L.length) : Sx.X L 0 σ = if (Sx.X L 1 σ).2.err = 0 ∧ (Sx.tight (Sx.text L (Sx.X L 1 σ).2)).1 = 1 then Sx.step L (Sx.X L 1 σ).1 (Sx.X L 1 σ).2 else Sx.X L 1 σ := by
  have h := Sx.X_chain hL 1 (by decide) (by decide) hi
  rw [show 1 - 1 = 0 from rfl] at h
  rw [h]
  have hi1 := Sx.X_in hL (t := 1) hi
  generalize Sx.X L 1 σ = r at hi1 ⊢
  split
  · rename_i h1
    have hs := Sx.step_in hL (x := r.1) hi1 h1.1 (by omega)
    rw [Sx.Sg_go hL _ hi1 h1.1 (by rw [h1.2]; simp)]
    by_cases he : (Sx.step L r.1 r.2).2.err = 0
    · refine Sx.Sg_stop hL _ hs.1 ?_
      rw [h1.2]
      by_cases h3 : (Sx.tight (Sx.text L (Sx.step L r.1 r.2).2)).1 = 1
      · exact Or.inr (Or.inr ⟨h3, by simp⟩)
      · omega
    · exact Sx.Sg_err hL _ _ _ _ hs.1 he
  · rename_i h1
    by_cases he : r.2.err = 0
    · exact Sx.Sg_stop hL _ hi1 (by have : ¬ (Sx.tight (Sx.text L r.2)).1 = 1 := fun h => h1 ⟨he, h⟩; omega)
    · exact Sx.Sg_err hL _ _ _ _ hi1 he
end
end Go.Proofs.YtjfdcnggnldgdaaGreatDoor
end
section
set_option linter.unusedVariables false
set_option linter.unusedSimpArgs false
namespace Go.Proofs.YtjfdcnggnldgdaaGreatDoor

theorem Sx.Le.k {L : List Lx.Tok} {σ τ : Sx.R} {k : Nat} (h : Sx.Le L σ τ) (hk : τ.at' ≤ k) : σ.at' ≤ k := Nat.le_trans h.1 hk
def Sx.zero (L : List Lx.Tok) (σ : Sx.R) : Sx.R := if (Sx.tk L σ).num = 0 then Sx.wrong L 10 σ else σ
theorem Sx.brackets_eq (L : List Lx.Tok) (σ : Sx.R) : Sx.brackets L σ = ((Sx.some L 2 (Sx.zero L (Sx.eat L [91] σ))).1.num, Sx.eat L [93] (Sx.some L 2 (Sx.zero L (Sx.eat L [91] σ))).2) := rfl
end Go.Proofs.YtjfdcnggnldgdaaGreatDoor
end
