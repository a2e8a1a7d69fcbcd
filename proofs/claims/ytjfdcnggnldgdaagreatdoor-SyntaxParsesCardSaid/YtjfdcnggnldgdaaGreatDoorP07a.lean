/-
What the document's Number returns (layer 11).
Plain mathematics of layer 12, seventh part: nests are closed again; a function that is right looks at nothing behind its last token.
What lex's words and token return.
Plain mathematics of layer 12, for the program's own way, second part: equations without fuel; what goes on, and what an error leaves.
Blocks of a struct's cells: how they are loaded and stored whole; a token and an error as such blocks.
Plain mathematics of layer 12, eighth part: functions, and more tokens behind them.
-/
import Derived.Test.YtjfdcnggnldgdaaGreatDoorP05a
import Derived.Maps.OwnOps
import Derived.Maps.OwnSet
import Derived.Deep.MidRow
import Derived.Deep.WholeRow
import Derived.Deep.QuietTactic
import Derived.StillTailTactics
section
namespace Go.Proofs.YtjfdcnggnldgdaaGreatDoor
open Go.ChangeShapes Go.WideShapes Go.ChangeAt Go.RowKit
set_option linter.unusedVariables false
set_option linter.unusedSimpArgs false

theorem Lx.hval_ten (c : UInt8) (h : Lx.digit c = true) : Lx.hval c < 10 := by
  have := Lx.hval_lt10 c.toNat c.toNat_lt; rw [Lx.of_byte] at this; exact this h
theorem Lx.dig_dig {c : UInt8} (h1 : 48 ≤ c.toNat) (h2 : c.toNat ≤ 57) : Lx.digit c = true := by unfold Lx.digit; simp [h1, h2]
theorem Lx.dig_no {c : UInt8} (h : ¬ (48 ≤ c.toNat ∧ c.toNat ≤ 57)) : Lx.digit c = false := by
  cases hq : Lx.digit c
  · rfl
  · unfold Lx.digit at hq; simp at hq; omega
theorem Lx.dig_let {c : UInt8} (h : 97 ≤ c.toNat ∧ c.toNat ≤ 102) : Lx.digit c = false := Lx.dig_no (by omega)
theorem Lx.hex_let {c : UInt8} (h1 : 97 ≤ c.toNat) (h2 : c.toNat ≤ 102) : Lx.hex c = true := by unfold Lx.hex; simp [h1, h2]
theorem Lx.hex_dig {c : UInt8} (h1 : 48 ≤ c.toNat) (h2 : c.toNat ≤ 57) : Lx.hex c = true := by unfold Lx.hex; rw [Lx.dig_dig h1 h2]; rfl
theorem Lx.hex_no {c : UInt8} (h1 : ¬ (97 ≤ c.toNat ∧ c.toNat ≤ 102)) (h2 : ¬ (48 ≤ c.toNat ∧ c.toNat ≤ 57)) : Lx.hex c = false := by
  unfold Lx.hex; rw [Lx.dig_no h2]; simp; omega
theorem Lx.hval_dig {c : UInt8} (h1 : 48 ≤ c.toNat) (h2 : c.toNat ≤ 57) : Lx.hval c = c.toNat - 48 := by unfold Lx.hval; rw [if_pos (Lx.dig_dig h1 h2)]
theorem Lx.hval_let {c : UInt8} (h1 : 97 ≤ c.toNat) (h2 : c.toNat ≤ 102) : Lx.hval c = c.toNat - 87 := by unfold Lx.hval; rw [if_neg (by rw [Lx.dig_let ⟨h1, h2⟩]; decide)]
theorem Lx.num_step {L r : List UInt8} {ok : UInt8 → Bool} {c : UInt8} {k m d B : Nat} (hB : 1 ≤ B) (hB16 : B ≤ 16) (h : (L.take k).all ok = true ∧ Lx.val B (L.take k) = m ∧ m < B ^ k) (hk : k < 10) (hg : L.drop k = c :: r) (ho : ok c = true) (hv : Lx.hval c = d) (hd : Lx.hval c < B) :
    ((L.take (k + 1)).all ok = true ∧ Lx.val B (L.take (k + 1)) = m * B + d ∧ m * B + d < B ^ (k + 1)) ∧ m * B + d ≤ 1099511627776 := by
  have ht : L.take (k + 1) = L.take k ++ [c] := by rw [List.take_add_one, ← List.head?_drop, hg]; rfl
  have hlt : m * B + d < B ^ (k + 1) := by
    rw [Nat.pow_succ]
    have h1 := Nat.mul_le_mul_right B (Nat.succ_le_of_lt h.2.2)
    rw [Nat.succ_mul] at h1
    omega
  refine ⟨⟨?_, ?_, hlt⟩, ?_⟩
  · rw [ht, List.all_append, h.1]; simp [ho]
  · rw [ht, Lx.val_add, h.2.1, hv]
  · have h1 : B ^ (k + 1) ≤ 16 ^ (k + 1) := Nat.pow_le_pow_left hB16 _
    have h2 : 16 ^ (k + 1) ≤ 16 ^ 10 := Nat.pow_le_pow_right (by omega) (by omega)
    omega
theorem Lx.all_bad {L r : List UInt8} {ok : UInt8 → Bool} {c : UInt8} {k : Nat} (hg : L.drop k = c :: r) (h : ok c = false) : L.all ok = false := by
  rw [List.all_eq_false]
  exact ⟨c, List.mem_of_mem_drop (by rw [hg]; simp), by rw [h]; decide⟩
theorem Lx.isEmpty' (s : ByteArray) (h : 0 < s.size) : s.toList.isEmpty = false := by
  have h1 := Lx.notEmpty s
  cases hq : s.toList.isEmpty
  · rfl
  · rw [hq, decide_eq_true h] at h1; cases h1
set_option maxHeartbeats 16000000 in
theorem rnum_any (s : ByteArray) (hs : s.size ≤ 281474976710656) (w : World) :
    Calls Tryz.prog 129 #[.string s] w fun e w' => e = .returned (.int .i64 (Lx.num s.data.toList)) ∧ w' = w := by
  have CD := Lib.hid rdigit_any
  have hE : s.extract 0 2 = Lx.S (s.data.toList.take 2) := by rw [Lx.S_ext]; rfl
  have hS2 : s.extract 2 s.size = Lx.S (s.data.toList.drop 2) := ext_rest s 2
  cases hp : ((s.extract 0 2).toList == [48, 120])
  · have hnp : ¬ s.data.toList.take 2 = [48, 120] := fun h => by rw [hE, h, Lib.toList_data] at hp; exact absurd hp (by decide)
    have HNUM := Lib.hid (show Lx.num s.data.toList = _ from by rw [Lx.num, if_neg hnp])
    all_goals
      by_cases h10 : s.size ≤ 10
      · have h10' : ¬ (10 : Int) < (s.size : Int) := by omega
        have HTN := Lib.hid h10
        obtain ⟨l, hl⟩ : ∃ l, s.data.toList = l := ⟨_, rfl⟩
        have HTS : Hid (s.size = s.data.toList.length) := Lib.hid (Lib.size_eq s)
        generalize Lx.num s.data.toList = R at HNUM ⊢
        clear hl l hE hS2 hnp
        by_cases h0 : 0 < s.size
        · have h0' : (0 : Int) < (s.size : Int) := by omega
          have hse := Lx.isEmpty' s h0
          have hH0 := Lx.get s 0 h0
          rw [List.drop_zero] at hH0
          have HH0 := Lib.hid hH0
          clear hH0
          have HV1 : Hid (s.data.toList.all Lx.digit = false → R = -1) := Lib.hid (fun h => by rw [HNUM.out, if_neg]; rintro ⟨_, _, _, h3, _⟩; rw [h] at h3; cases h3)
          have HV3 : Hid (∀ m : Nat, (s.data.toList.all Lx.digit = true ∧ Lx.val 10 s.data.toList = m) → (4294967296 : Int) ≤ (m : Int) → R = -1) := Lib.hid (fun m h hm => by
            rw [HNUM.out, if_neg]; rintro ⟨_, _, _, _, h3⟩; rw [h.2] at h3; omega)
          by_cases h1 : 1 < s.size
          · have h1' : (1 : Int) < (s.size : Int) := by omega
            have h2 : (2 : Int) ≤ (s.size : Int) := by omega
            cases hz : (((s[0]'h0).toNat : Int) == 48)
            · have HV2 : Hid (∀ m : Nat, (s.data.toList.all Lx.digit = true ∧ Lx.val 10 s.data.toList = m) → (m : Int) < 4294967296 → R = (m : Int)) := Lib.hid (fun m h hm => by
                rw [HNUM.out, if_pos ⟨fun e => by have h5 := HTS.out; rw [e, List.length_nil] at h5; omega, by rw [← HTS.out]; exact HTN.out, fun _ => by
                  rw [HH0.out]
                  intro e
                  have e2 : s[0] = 48 := by simpa using e
                  rw [e2] at hz
                  exact absurd hz (by decide), h.1, by rw [h.2]; omega⟩, h.2])
              clear HNUM
              go_enter Tryz.func129, Tryz.ntmps129
              go_wp2
              go_loopw [4, 5] (fun M K wr => wr = w ∧ ∃ k m : Nat, k ≤ s.size ∧ K = .int .i64 (k : Int) ∧ M = .int .i64 (m : Int) ∧ m ≤ 1099511627776 ∧ Hid ((s.data.toList.take k).all Lx.digit = true ∧ Lx.val 10 (s.data.toList.take k) = m ∧ m < 10 ^ k)) (fun _ K _ => s.size - (intOf K).toNat)
              case atStart => exact ⟨rfl, 0, 0, Nat.zero_le _, rfl, rfl, by omega, Lib.hid ⟨rfl, rfl, by simp⟩⟩
              case round =>
                obtain ⟨rfl, k, m, hk, rfl, rfl, hm, HK⟩ := hrel
                by_cases hlt : k < s.size
                · have hlt' : (k : Int) < (s.size : Int) := by omega
                  have HG := Lib.hid (Lx.get s k hlt)
                  have C1 := Lib.hid fun w => CD.out s[k] w
                  have hb := s[k].toNat_lt
                  have hTn := HTN.out
                  have HSTEP : Hid (∀ d : Nat, Lx.digit s[k] = true → Lx.hval s[k] = d → ((s.data.toList.take (k + 1)).all Lx.digit = true ∧ Lx.val 10 (s.data.toList.take (k + 1)) = m * 10 + d ∧ m * 10 + d < 10 ^ (k + 1)) ∧ m * 10 + d ≤ 1099511627776) := Lib.hid (fun d h1 h2 => Lx.num_step (L := s.data.toList) (by omega) (by omega) HK.out (by omega) HG.out h1 h2 (Lx.hval_ten _ h1))
                  have HBAD : Hid (Lx.digit s[k] = false → s.data.toList.all Lx.digit = false) := Lib.hid (fun h => Lx.all_bad HG.out h)
                  rcases (by omega : (48 ≤ s[k].toNat ∧ s[k].toNat ≤ 57) ∨ (97 ≤ s[k].toNat ∧ s[k].toNat ≤ 102) ∨ (102 < s[k].toNat) ∨ (s[k].toNat < 48) ∨ (57 < s[k].toNat ∧ s[k].toNat < 97)) with hc | hc | hc | hc | hc
                  · have hc1 := hc.1
                    have hc2 := hc.2
                    clear hc
                    have HOK := Lib.hid (HSTEP.out (s[k].toNat - 48) (Lx.dig_dig hc1 hc2) (Lx.hval_dig hc1 hc2))
                    have hdg : Lx.digit s[k] = true := Lx.dig_dig hc1 hc2
                    rw [hdg] at C1
                    clear hdg HSTEP HBAD hTn
                    have hle := HOK.out.2
                    go_wp2_with (go_at_call 127; refine (C1.out _).mono ?_; rintro e w2 ⟨rfl, rfl⟩)
                    exact ⟨⟨trivial, k + 1, m * 10 + (s[k].toNat - 48), by omega, by go_num, by first | rfl | (congr 1; push_cast; omega) | (congr 1; omega), hle, Lib.hid HOK.out.1⟩, by simp [intOf]; omega⟩
                  · have hc1 := hc.1
                    have hc2 := hc.2
                    clear hc
                    have HNO := Lib.hid (HBAD.out (Lx.dig_no (by omega)))
                    have hdg : Lx.digit s[k] = false := Lx.dig_no (by omega)
                    rw [hdg] at C1
                    clear hdg HSTEP HBAD hTn
                    go_wp2_with (go_at_call 127; refine (C1.out _).mono ?_; rintro e w2 ⟨rfl, rfl⟩)
                    all_goals (go_ret; exact ⟨ret_int' (HV1.out HNO.out).symm, rfl⟩)
                  · have hc1 := hc
                    clear hc
                    have HNO := Lib.hid (HBAD.out (Lx.dig_no (by omega)))
                    have hdg : Lx.digit s[k] = false := Lx.dig_no (by omega)
                    rw [hdg] at C1
                    clear hdg HSTEP HBAD hTn
                    go_wp2_with (go_at_call 127; refine (C1.out _).mono ?_; rintro e w2 ⟨rfl, rfl⟩)
                    all_goals (go_ret; exact ⟨ret_int' (HV1.out HNO.out).symm, rfl⟩)
                  · have hc1 := hc
                    clear hc
                    have HNO := Lib.hid (HBAD.out (Lx.dig_no (by omega)))
                    have hdg : Lx.digit s[k] = false := Lx.dig_no (by omega)
                    rw [hdg] at C1
                    clear hdg HSTEP HBAD hTn
                    go_wp2_with (go_at_call 127; refine (C1.out _).mono ?_; rintro e w2 ⟨rfl, rfl⟩)
                    all_goals (go_ret; exact ⟨ret_int' (HV1.out HNO.out).symm, rfl⟩)
                  · have hc1 := hc.1
                    have hc2 := hc.2
                    clear hc
                    have HNO := Lib.hid (HBAD.out (Lx.dig_no (by omega)))
                    have hdg : Lx.digit s[k] = false := Lx.dig_no (by omega)
                    rw [hdg] at C1
                    clear hdg HSTEP HBAD hTn
                    go_wp2_with (go_at_call 127; refine (C1.out _).mono ?_; rintro e w2 ⟨rfl, rfl⟩)
                    all_goals (go_ret; exact ⟨ret_int' (HV1.out HNO.out).symm, rfl⟩)
                · have hge : ¬ (k : Int) < (s.size : Int) := by omega
                  have HALL : Hid (s.data.toList.all Lx.digit = true ∧ Lx.val 10 s.data.toList = m) := Lib.hid (by
                    have h := HK.out
                    rw [List.take_of_length_le (by rw [← Lib.size_eq]; omega)] at h
                    exact ⟨h.1, h.2.1⟩)
                  by_cases hbig : (m : Int) < 4294967296
                  · have hbig' : ¬ (4294967296 : Int) ≤ (m : Int) := by omega
                    go_wp2
                    go_ret
                    exact ⟨ret_int' (HV2.out m HALL.out hbig).symm, rfl⟩
                  · have hbig' : (4294967296 : Int) ≤ (m : Int) := by omega
                    go_wp2
                    go_ret
                    exact ⟨ret_int' (HV3.out m HALL.out hbig').symm, rfl⟩
            · have HV : Hid (R = -1) := Lib.hid (by
                rw [HNUM.out, if_neg]
                rintro ⟨_, _, h, _⟩
                have h5 := h (by rw [← HTS.out]; exact h1)
                rw [HH0.out] at h5
                have e2 : s[0] = 48 := UInt8.toNat_inj.1 (by have := eq_of_beq hz; exact_mod_cast this)
                rw [e2] at h5
                exact h5 rfl)
              clear HNUM
              go_enter Tryz.func129, Tryz.ntmps129
              go_wp2
              go_ret
              exact ⟨ret_int' HV.out.symm, rfl⟩
          · have h1' : ¬ (1 : Int) < (s.size : Int) := by omega
            have h2 : ¬ (2 : Int) ≤ (s.size : Int) := by omega
            have HV2 : Hid (∀ m : Nat, (s.data.toList.all Lx.digit = true ∧ Lx.val 10 s.data.toList = m) → (m : Int) < 4294967296 → R = (m : Int)) := Lib.hid (fun m h hm => by
              rw [HNUM.out, if_pos ⟨fun e => by have h5 := HTS.out; rw [e, List.length_nil] at h5; omega, by rw [← HTS.out]; exact HTN.out, fun h5 => by rw [← HTS.out] at h5; exact absurd h5 h1, h.1, by rw [h.2]; omega⟩, h.2])
            clear HNUM
            go_enter Tryz.func129, Tryz.ntmps129
            go_wp2
            go_loopw [4, 5] (fun M K wr => wr = w ∧ ∃ k m : Nat, k ≤ s.size ∧ K = .int .i64 (k : Int) ∧ M = .int .i64 (m : Int) ∧ m ≤ 1099511627776 ∧ Hid ((s.data.toList.take k).all Lx.digit = true ∧ Lx.val 10 (s.data.toList.take k) = m ∧ m < 10 ^ k)) (fun _ K _ => s.size - (intOf K).toNat)
            case atStart => exact ⟨rfl, 0, 0, Nat.zero_le _, rfl, rfl, by omega, Lib.hid ⟨rfl, rfl, by simp⟩⟩
            case round =>
              obtain ⟨rfl, k, m, hk, rfl, rfl, hm, HK⟩ := hrel
              by_cases hlt : k < s.size
              · have hlt' : (k : Int) < (s.size : Int) := by omega
                have HG := Lib.hid (Lx.get s k hlt)
                have C1 := Lib.hid fun w => CD.out s[k] w
                have hb := s[k].toNat_lt
                have hTn := HTN.out
                have HSTEP : Hid (∀ d : Nat, Lx.digit s[k] = true → Lx.hval s[k] = d → ((s.data.toList.take (k + 1)).all Lx.digit = true ∧ Lx.val 10 (s.data.toList.take (k + 1)) = m * 10 + d ∧ m * 10 + d < 10 ^ (k + 1)) ∧ m * 10 + d ≤ 1099511627776) := Lib.hid (fun d h1 h2 => Lx.num_step (L := s.data.toList) (by omega) (by omega) HK.out (by omega) HG.out h1 h2 (Lx.hval_ten _ h1))
                have HBAD : Hid (Lx.digit s[k] = false → s.data.toList.all Lx.digit = false) := Lib.hid (fun h => Lx.all_bad HG.out h)
                rcases (by omega : (48 ≤ s[k].toNat ∧ s[k].toNat ≤ 57) ∨ (97 ≤ s[k].toNat ∧ s[k].toNat ≤ 102) ∨ (102 < s[k].toNat) ∨ (s[k].toNat < 48) ∨ (57 < s[k].toNat ∧ s[k].toNat < 97)) with hc | hc | hc | hc | hc
                · have hc1 := hc.1
                  have hc2 := hc.2
                  clear hc
                  have HOK := Lib.hid (HSTEP.out (s[k].toNat - 48) (Lx.dig_dig hc1 hc2) (Lx.hval_dig hc1 hc2))
                  have hdg : Lx.digit s[k] = true := Lx.dig_dig hc1 hc2
                  rw [hdg] at C1
                  clear hdg HSTEP HBAD hTn
                  have hle := HOK.out.2
                  go_wp2_with (go_at_call 127; refine (C1.out _).mono ?_; rintro e w2 ⟨rfl, rfl⟩)
                  exact ⟨⟨trivial, k + 1, m * 10 + (s[k].toNat - 48), by omega, by go_num, by first | rfl | (congr 1; push_cast; omega) | (congr 1; omega), hle, Lib.hid HOK.out.1⟩, by simp [intOf]; omega⟩
                · have hc1 := hc.1
                  have hc2 := hc.2
                  clear hc
                  have HNO := Lib.hid (HBAD.out (Lx.dig_no (by omega)))
                  have hdg : Lx.digit s[k] = false := Lx.dig_no (by omega)
                  rw [hdg] at C1
                  clear hdg HSTEP HBAD hTn
                  go_wp2_with (go_at_call 127; refine (C1.out _).mono ?_; rintro e w2 ⟨rfl, rfl⟩)
                  all_goals (go_ret; exact ⟨ret_int' (HV1.out HNO.out).symm, rfl⟩)
                · have hc1 := hc
                  clear hc
                  have HNO := Lib.hid (HBAD.out (Lx.dig_no (by omega)))
                  have hdg : Lx.digit s[k] = false := Lx.dig_no (by omega)
                  rw [hdg] at C1
                  clear hdg HSTEP HBAD hTn
                  go_wp2_with (go_at_call 127; refine (C1.out _).mono ?_; rintro e w2 ⟨rfl, rfl⟩)
                  all_goals (go_ret; exact ⟨ret_int' (HV1.out HNO.out).symm, rfl⟩)
                · have hc1 := hc
                  clear hc
                  have HNO := Lib.hid (HBAD.out (Lx.dig_no (by omega)))
                  have hdg : Lx.digit s[k] = false := Lx.dig_no (by omega)
                  rw [hdg] at C1
                  clear hdg HSTEP HBAD hTn
                  go_wp2_with (go_at_call 127; refine (C1.out _).mono ?_; rintro e w2 ⟨rfl, rfl⟩)
                  all_goals (go_ret; exact ⟨ret_int' (HV1.out HNO.out).symm, rfl⟩)
                · have hc1 := hc.1
                  have hc2 := hc.2
                  clear hc
                  have HNO := Lib.hid (HBAD.out (Lx.dig_no (by omega)))
                  have hdg : Lx.digit s[k] = false := Lx.dig_no (by omega)
                  rw [hdg] at C1
                  clear hdg HSTEP HBAD hTn
                  go_wp2_with (go_at_call 127; refine (C1.out _).mono ?_; rintro e w2 ⟨rfl, rfl⟩)
                  all_goals (go_ret; exact ⟨ret_int' (HV1.out HNO.out).symm, rfl⟩)
              · have hge : ¬ (k : Int) < (s.size : Int) := by omega
                have HALL : Hid (s.data.toList.all Lx.digit = true ∧ Lx.val 10 s.data.toList = m) := Lib.hid (by
                  have h := HK.out
                  rw [List.take_of_length_le (by rw [← Lib.size_eq]; omega)] at h
                  exact ⟨h.1, h.2.1⟩)
                by_cases hbig : (m : Int) < 4294967296
                · have hbig' : ¬ (4294967296 : Int) ≤ (m : Int) := by omega
                  go_wp2
                  go_ret
                  exact ⟨ret_int' (HV2.out m HALL.out hbig).symm, rfl⟩
                · have hbig' : (4294967296 : Int) ≤ (m : Int) := by omega
                  go_wp2
                  go_ret
                  exact ⟨ret_int' (HV3.out m HALL.out hbig').symm, rfl⟩
        · have hse : s.toList.isEmpty = true := by
            have h := Lx.notEmpty s
            rw [decide_eq_false h0] at h
            cases hq : s.toList.isEmpty
            · rw [hq] at h; cases h
            · rfl
          have h1' : ¬ (1 : Int) < (s.size : Int) := by omega
          have h2 : ¬ (2 : Int) ≤ (s.size : Int) := by omega
          have HV : Hid (R = -1) := Lib.hid (by rw [HNUM.out, if_neg]; rintro ⟨h, _⟩; exact h (List.eq_nil_of_length_eq_zero (by rw [← HTS.out]; omega)))
          clear HNUM
          go_enter Tryz.func129, Tryz.ntmps129
          go_wp2
          go_ret
          exact ⟨ret_int' HV.out.symm, rfl⟩
      · have h10' : (10 : Int) < (s.size : Int) := by omega
        have HV : Hid (Lx.num s.data.toList = -1) := Lib.hid (by rw [HNUM.out, if_neg]; rintro ⟨_, h, _⟩; rw [← Lib.size_eq] at h; exact h10 h)
        clear HNUM hE hS2 hnp
        go_enter Tryz.func129, Tryz.ntmps129
        go_wp2
        go_ret
        exact ⟨ret_int' HV.out.symm, rfl⟩
  · have hpp : s.data.toList.take 2 = [48, 120] := by
      have h := eq_of_beq hp
      rw [hE, Lib.toList_data] at h
      exact h
    have h2s : 2 ≤ s.size := by
      have h := congrArg List.length hpp
      rw [List.length_take, ← Lib.size_eq] at h
      simp at h; omega
    have h2 : (2 : Int) ≤ (s.size : Int) := by omega
    have HNUM := Lib.hid (show Lx.num s.data.toList = _ from by rw [Lx.num, if_pos hpp])
    obtain ⟨l, hl⟩ : ∃ l, s.data.toList.drop 2 = l := ⟨_, rfl⟩
    rw [hl] at HNUM hS2
    obtain ⟨t, ht⟩ : ∃ t, Lx.S l = t := ⟨_, rfl⟩
    have htl : t.data.toList = l := by rw [← ht]; rfl
    have hts : t.size = l.length := by rw [← ht, Lx.S_size]
    have htz : t.size ≤ s.size := by rw [hts, ← hl, List.length_drop, Lib.size_eq]; omega
    rw [ht] at hS2
    rw [← htl] at HNUM
    have HTS : Hid (t.size = t.data.toList.length) := Lib.hid (Lib.size_eq t)
    generalize Lx.num s.data.toList = R at HNUM ⊢
    clear hE hl ht htl hts hpp
    by_cases h8 : t.size ≤ 8
    · have h8' : ¬ (8 : Int) < (t.size : Int) := by omega
      have HTN : Hid (t.size ≤ 10) := Lib.hid (by omega)
      by_cases h0 : 0 < t.size
      · have hte := Lx.isEmpty' t h0
        have HV1 : Hid (t.data.toList.all Lx.hex = false → R = -1) := Lib.hid (fun h => by rw [HNUM.out, if_neg]; rintro ⟨_, _, h3⟩; rw [h] at h3; cases h3)
        have HV2 : Hid (∀ m : Nat, (t.data.toList.all Lx.hex = true ∧ Lx.val 16 t.data.toList = m) → (m : Int) < 4294967296 → R = (m : Int)) := Lib.hid (fun m h _ => by
          rw [HNUM.out, if_pos ⟨by rw [← HTS.out]; exact h8, fun e => by have h5 := HTS.out; rw [e, List.length_nil] at h5; omega, h.1⟩, h.2])
        have HV3 : Hid (∀ m : Nat, (t.data.toList.all Lx.hex = true ∧ Lx.val 16 t.data.toList = m) → (4294967296 : Int) ≤ (m : Int) → R = -1) := Lib.hid (fun m h hm => by
          exfalso
          have h5 := Lx.valF_lt t.data.toList h.1 0
          have h6 : 16 ^ t.data.toList.length ≤ 16 ^ 8 := Nat.pow_le_pow_right (by omega) (by rw [← HTS.out]; exact h8)
          have h7 := h.2
          unfold Lx.val at h7
          omega)
        clear HNUM
        go_enter Tryz.func129, Tryz.ntmps129
        go_wp2
        go_loopw [4, 5] (fun M K wr => wr = w ∧ ∃ k m : Nat, k ≤ t.size ∧ K = .int .i64 (k : Int) ∧ M = .int .i64 (m : Int) ∧ m ≤ 1099511627776 ∧ Hid ((t.data.toList.take k).all Lx.hex = true ∧ Lx.val 16 (t.data.toList.take k) = m ∧ m < 16 ^ k)) (fun _ K _ => t.size - (intOf K).toNat)
        case atStart => exact ⟨rfl, 0, 0, Nat.zero_le _, rfl, rfl, by omega, Lib.hid ⟨rfl, rfl, by simp⟩⟩
        case round =>
          obtain ⟨rfl, k, m, hk, rfl, rfl, hm, HK⟩ := hrel
          by_cases hlt : k < t.size
          · have hlt' : (k : Int) < (t.size : Int) := by omega
            have HG := Lib.hid (Lx.get t k hlt)
            have C1 := Lib.hid fun w => CD.out t[k] w
            have hb := t[k].toNat_lt
            have hTn := HTN.out
            have HSTEP : Hid (∀ d : Nat, Lx.hex t[k] = true → Lx.hval t[k] = d → ((t.data.toList.take (k + 1)).all Lx.hex = true ∧ Lx.val 16 (t.data.toList.take (k + 1)) = m * 16 + d ∧ m * 16 + d < 16 ^ (k + 1)) ∧ m * 16 + d ≤ 1099511627776) := Lib.hid (fun d h1 h2 => Lx.num_step (L := t.data.toList) (by omega) (by omega) HK.out (by omega) HG.out h1 h2 (Lx.hval_hex _ h1))
            have HBAD : Hid (Lx.hex t[k] = false → t.data.toList.all Lx.hex = false) := Lib.hid (fun h => Lx.all_bad HG.out h)
            rcases (by omega : (97 ≤ t[k].toNat ∧ t[k].toNat ≤ 102) ∨ (48 ≤ t[k].toNat ∧ t[k].toNat ≤ 57) ∨ (102 < t[k].toNat) ∨ (t[k].toNat < 48) ∨ (57 < t[k].toNat ∧ t[k].toNat < 97)) with hc | hc | hc | hc | hc
            · have hc1 := hc.1
              have hc2 := hc.2
              clear hc
              have HOK := Lib.hid (HSTEP.out (t[k].toNat - 87) (Lx.hex_let hc1 hc2) (Lx.hval_let hc1 hc2))
              have hdg : Lx.digit t[k] = false := Lx.dig_let ⟨hc1, hc2⟩
              rw [hdg] at C1
              clear hdg HSTEP HBAD hTn
              have hle := HOK.out.2
              go_wp2_with (go_at_call 127; refine (C1.out _).mono ?_; rintro e w2 ⟨rfl, rfl⟩)
              exact ⟨⟨trivial, k + 1, m * 16 + (t[k].toNat - 87), by omega, by go_num, by first | rfl | (congr 1; push_cast; omega) | (congr 1; omega), hle, Lib.hid HOK.out.1⟩, by simp [intOf]; omega⟩
            · have hc1 := hc.1
              have hc2 := hc.2
              clear hc
              have HOK := Lib.hid (HSTEP.out (t[k].toNat - 48) (Lx.hex_dig hc1 hc2) (Lx.hval_dig hc1 hc2))
              have hdg : Lx.digit t[k] = true := Lx.dig_dig hc1 hc2
              rw [hdg] at C1
              clear hdg HSTEP HBAD hTn
              have hle := HOK.out.2
              go_wp2_with (go_at_call 127; refine (C1.out _).mono ?_; rintro e w2 ⟨rfl, rfl⟩)
              exact ⟨⟨trivial, k + 1, m * 16 + (t[k].toNat - 48), by omega, by go_num, by first | rfl | (congr 1; push_cast; omega) | (congr 1; omega), hle, Lib.hid HOK.out.1⟩, by simp [intOf]; omega⟩
            · have hc1 := hc
              clear hc
              have HNO := Lib.hid (HBAD.out (Lx.hex_no (by omega) (by omega)))
              have hdg : Lx.digit t[k] = false := Lx.dig_no (by omega)
              rw [hdg] at C1
              clear hdg HSTEP HBAD hTn
              go_wp2_with (go_at_call 127; refine (C1.out _).mono ?_; rintro e w2 ⟨rfl, rfl⟩)
              all_goals (go_ret; exact ⟨ret_int' (HV1.out HNO.out).symm, rfl⟩)
            · have hc1 := hc
              clear hc
              have HNO := Lib.hid (HBAD.out (Lx.hex_no (by omega) (by omega)))
              have hdg : Lx.digit t[k] = false := Lx.dig_no (by omega)
              rw [hdg] at C1
              clear hdg HSTEP HBAD hTn
              go_wp2_with (go_at_call 127; refine (C1.out _).mono ?_; rintro e w2 ⟨rfl, rfl⟩)
              all_goals (go_ret; exact ⟨ret_int' (HV1.out HNO.out).symm, rfl⟩)
            · have hc1 := hc.1
              have hc2 := hc.2
              clear hc
              have HNO := Lib.hid (HBAD.out (Lx.hex_no (by omega) (by omega)))
              have hdg : Lx.digit t[k] = false := Lx.dig_no (by omega)
              rw [hdg] at C1
              clear hdg HSTEP HBAD hTn
              go_wp2_with (go_at_call 127; refine (C1.out _).mono ?_; rintro e w2 ⟨rfl, rfl⟩)
              all_goals (go_ret; exact ⟨ret_int' (HV1.out HNO.out).symm, rfl⟩)
          · have hge : ¬ (k : Int) < (t.size : Int) := by omega
            have HALL : Hid (t.data.toList.all Lx.hex = true ∧ Lx.val 16 t.data.toList = m) := Lib.hid (by
              have h := HK.out
              rw [List.take_of_length_le (by rw [← Lib.size_eq]; omega)] at h
              exact ⟨h.1, h.2.1⟩)
            by_cases hbig : (m : Int) < 4294967296
            · have hbig' : ¬ (4294967296 : Int) ≤ (m : Int) := by omega
              go_wp2
              go_ret
              exact ⟨ret_int' (HV2.out m HALL.out hbig).symm, rfl⟩
            · have hbig' : (4294967296 : Int) ≤ (m : Int) := by omega
              go_wp2
              go_ret
              exact ⟨ret_int' (HV3.out m HALL.out hbig').symm, rfl⟩
      · have hte : t.toList.isEmpty = true := by
          have h := Lx.notEmpty t
          rw [decide_eq_false h0] at h
          cases hq : t.toList.isEmpty
          · rw [hq] at h; cases h
          · rfl
        have HV : Hid (R = -1) := Lib.hid (by rw [HNUM.out, if_neg]; rintro ⟨_, h, _⟩; exact h (List.eq_nil_of_length_eq_zero (by rw [← HTS.out]; omega)))
        clear HNUM
        go_enter Tryz.func129, Tryz.ntmps129
        go_wp2
        go_ret
        exact ⟨ret_int' HV.out.symm, rfl⟩
    · have h8' : (8 : Int) < (t.size : Int) := by omega
      have HV : Hid (R = -1) := Lib.hid (by rw [HNUM.out, if_neg]; rintro ⟨h, _⟩; rw [← HTS.out] at h; exact h8 h)
      clear HNUM
      go_enter Tryz.func129, Tryz.ntmps129
      go_wp2
      go_ret
      exact ⟨ret_int' HV.out.symm, rfl⟩
end Go.Proofs.YtjfdcnggnldgdaaGreatDoor
end
section
set_option linter.unusedVariables false
set_option linter.unusedSimpArgs false
namespace Go.Proofs.YtjfdcnggnldgdaaGreatDoor

theorem Sx.op_wrong (L : List Lx.Tok) (e : Int) (σ : Sx.R) : (Sx.wrong L e σ).opn = σ.opn := by unfold Sx.wrong; split <;> rfl
theorem Sx.op_eat (L : List Lx.Tok) (s : List UInt8) (σ : Sx.R) : (Sx.eat L s σ).opn = σ.opn := by
  unfold Sx.eat; split
  · rfl
  · split
    · exact Sx.op_wrong _ _ _
    · rfl
theorem Sx.op_may (L : List Lx.Tok) (s : List UInt8) (σ : Sx.R) : (Sx.may L s σ).2.opn = σ.opn := by unfold Sx.may; split <;> rfl
theorem Sx.op_some (L : List Lx.Tok) (k : Int) (σ : Sx.R) : (Sx.some L k σ).2.opn = σ.opn := by
  unfold Sx.some; split
  · rfl
  · split
    · exact Sx.op_wrong _ _ _
    · rfl
theorem Sx.op_nest (L : List Lx.Tok) (s : List UInt8) (σ : Sx.R) : (Sx.nest L s σ).opn = σ.opn + 1 := by
  unfold Sx.nest; simp only []
  rw [Sx.op_eat]; split
  · rw [Sx.op_wrong]
  · rfl
theorem Sx.op_unnest (L : List Lx.Tok) (s : List UInt8) (σ : Sx.R) : (Sx.unnest L s σ).opn = σ.opn - 1 := by
  unfold Sx.unnest; simp only []
  rw [Sx.op_eat]
theorem Sx.op_zero (L : List Lx.Tok) (σ : Sx.R) : (Sx.zero L σ).opn = σ.opn := by
  unfold Sx.zero; split
  · exact Sx.op_wrong _ _ _
  · rfl
theorem Sx.op_label (L : List Lx.Tok) (σ : Sx.R) : (Sx.label L σ).2.opn = σ.opn := by
  unfold Sx.label; split
  · exact Sx.op_may _ _ _
  · simp only [Sx.op_eat, Sx.op_may]
theorem Sx.op_brackets (L : List Lx.Tok) (σ : Sx.R) : (Sx.brackets L σ).2.opn = σ.opn := by
  rw [Sx.brackets_eq]; simp only [Sx.op_eat, Sx.op_some, Sx.op_zero]
theorem Sx.op_type (L : List Lx.Tok) (b : Bool) (l : Int) (σ : Sx.R) : (Sx.type L b l σ).2.opn = σ.opn := by
  unfold Sx.type; split
  · exact Sx.op_may _ _ _
  · simp only []
    split
    · simp only [Sx.op_brackets, Sx.op_may]
    · split
      · simp only [Sx.op_brackets, Sx.op_eat, Sx.op_may]
      · simp only [Sx.op_eat, Sx.op_may]
theorem Sx.op_param (L : List Lx.Tok) (σ : Sx.R) : (Sx.param L σ).2.opn = σ.opn := by
  unfold Sx.param; simp only [Sx.op_type, Sx.op_eat, Sx.op_some, Sx.op_label, Sx.op_may]
theorem Sx.op_exprs (L : List Lx.Tok) (f : Nat) :
    (∀ than σ, (Sx.expr L f than σ).2.opn = σ.opn) ∧ (∀ than most c x σ, (Sx.signs L f than most c x σ).2.opn = σ.opn) ∧ (∀ σ, (Sx.unary L f σ).2.opn = σ.opn) ∧
    (∀ s σ, (Sx.word L f s σ).2.opn = σ.opn) ∧ (∀ n b σ, (Sx.many L f n b σ).2.opn = σ.opn) ∧ (∀ t σ, (Sx.behind L f t σ).2.opn = σ.opn) ∧ (∀ σ, (Sx.commas L f σ).2.opn = σ.opn) := by
  induction f with
  | zero =>
    refine ⟨fun _ _ => ?_, fun _ _ _ _ _ => ?_, fun _ => ?_, fun _ _ => ?_, fun _ _ _ => ?_, fun _ _ => ?_, fun _ => ?_⟩
    · rw [Sx.expr]
    · rw [Sx.signs]
    · rw [Sx.unary]
    · rw [Sx.word]
    · rw [Sx.many]
    · rw [Sx.behind]
    · rw [Sx.commas]
  | succ f ih =>
    obtain ⟨iE, iS, iU, iW, iM, iB, iC⟩ := ih
    refine ⟨fun than σ => ?_, fun than most c x σ => ?_, fun σ => ?_, fun s σ => ?_, fun n b σ => ?_, fun t σ => ?_, fun σ => ?_⟩
    · rw [Sx.expr]; simp only [iS, iU]
    · rw [Sx.signs]
      split
      · rfl
      · simp only []
        split
        · rfl
        · split
          · simp only [iS, Sx.op_some]
          · simp only [iS, iE]
    · rw [Sx.unary]
      split
      · rfl
      · simp only []
        split
        · simp only [Sx.op_unnest, iE, Sx.op_nest]; omega
        · split
          · simp only [iU, Sx.op_nest]; omega
          · exact iW _ _
    · rw [Sx.word]
      simp only []
      split
      · split
        · simp only [Sx.op_unnest, Sx.op_some, Sx.op_eat, iM, Sx.op_nest]; omega
        · simp only [Sx.op_unnest, iM, Sx.op_nest]; omega
      · split
        · rfl
        · simp only [iB, Sx.op_some]
    · cases n with
      | zero => rw [Sx.many]
      | succ n =>
        rw [Sx.many]
        simp only [iM, iE]
        split
        · rfl
        · exact Sx.op_eat _ _ _
    · rw [Sx.behind]
      split
      · simp only []
        split
        · simp only [Sx.op_unnest, Sx.op_nest]; omega
        · simp only [Sx.op_unnest, iC, iE, Sx.op_nest]; omega
      · split
        · simp only [Sx.op_unnest, iE, Sx.op_nest]; omega
        · rfl
    · rw [Sx.commas]
      split
      · simp only [iC, iE, Sx.op_may]
      · exact Sx.op_may _ _ _
theorem Sx.op_ex (L : List Lx.Tok) (σ : Sx.R) : (Sx.ex L σ).2.opn = σ.opn := (Sx.op_exprs L _).1 0 σ
theorem Sx.op_value (L : List Lx.Tok) (l : List Sx.E) (σ : Sx.R) : (Sx.value L l σ).2.opn = σ.opn := by
  unfold Sx.value; simp only [Sx.op_eat, Sx.op_ex]
theorem Sx.op_named (L : List Lx.Tok) (p : Int) (σ : Sx.R) : (Sx.named L p σ).2.opn = σ.opn := by
  have hB := (Sx.op_exprs L (Sx.fuel L)).2.2.2.2.2.1
  unfold Sx.named; simp only []
  split
  · simp only [Sx.op_eat, hB, Sx.op_some]
  · split
    · simp only [Sx.op_value, Sx.op_eat, hB, Sx.op_some]
    · simp only [Sx.op_value, Sx.op_eat, Sx.op_some]
theorem Sx.op_stmts (L : List Lx.Tok) (f : Nat) :
    (∀ σ, (Sx.block L f σ).2.opn = σ.opn) ∧ (∀ σ, (Sx.stmts L f σ).2.opn = σ.opn) ∧ (∀ σ, (Sx.stmt L f σ).2.opn = σ.opn) := by
  induction f with
  | zero =>
    refine ⟨fun _ => ?_, fun _ => ?_, fun _ => ?_⟩
    · rw [Sx.block]
    · rw [Sx.stmts]
    · rw [Sx.stmt]
  | succ f ih =>
    obtain ⟨iB, iL, iS⟩ := ih
    refine ⟨fun σ => ?_, fun σ => ?_, fun σ => ?_⟩
    · rw [Sx.block]; simp only [Sx.op_unnest, iL, Sx.op_nest]; omega
    · rw [Sx.stmts]
      split
      · simp only [iL, iS]
      · rfl
    · rw [Sx.stmt]
      simp only []
      split
      · simp only [Sx.op_value, Sx.op_eat, Sx.op_some, Sx.op_may]
      · split
        · simp only [Sx.op_type, Sx.op_label, Sx.op_eat, Sx.op_some, Sx.op_may]
        · split
          · split
            · simp only [iB, Sx.op_ex, Sx.op_may]
            · simp only [iB, Sx.op_ex, Sx.op_may]
          · split
            · simp only [iB, Sx.op_ex, Sx.op_eat, Sx.op_some, Sx.op_may]
            · split
              · simp only [Sx.op_value, Sx.op_may]
              · exact Sx.op_named _ _ _
theorem Sx.op_params (L : List Lx.Tok) (f : Nat) : ∀ σ, (Sx.params L f σ).2.opn = σ.opn := by
  induction f with
  | zero => intro σ; rw [Sx.params]
  | succ f ih =>
    intro σ
    rw [Sx.params]
    split
    · simp only [ih, Sx.op_param, Sx.op_may]
    · exact Sx.op_may _ _ _
theorem Sx.op_plist (L : List Lx.Tok) (σ : Sx.R) : (Sx.plist L σ).2.opn = σ.opn := by
  unfold Sx.plist; split
  · rfl
  · simp only [Sx.op_params, Sx.op_param]
theorem Sx.op_res (L : List Lx.Tok) (c : Bool × Sx.R) : (Sx.res L c).2.opn = c.2.opn := by
  unfold Sx.res; split
  · simp only [Sx.op_type, Sx.op_label]
  · rfl
theorem Sx.op_function (L : List Lx.Tok) (σ : Sx.R) : (Sx.function L σ).2.opn = σ.opn := by
  unfold Sx.function
  simp only [(Sx.op_stmts L _).1, Sx.op_res, Sx.op_may, Sx.op_eat, Sx.op_plist, Sx.op_some]
/-- what was eaten without an error is a token -/
theorem Sx.unnest_ok {L : List Lx.Tok} {s : List UInt8} {σ : Sx.R} (h : (Sx.unnest L s σ).err = 0) : σ.err = 0 ∧ (Sx.unnest L s σ).at' = σ.at' + 1 := by
  have h' : (Sx.eat L s σ).err = 0 := h
  show σ.err = 0 ∧ (Sx.eat L s σ).at' = σ.at' + 1
  unfold Sx.eat at h' ⊢
  by_cases he : σ.err ≠ 0
  · rw [if_pos he] at h'; exact absurd h' he
  · rw [if_neg he] at h' ⊢
    split
    · rename_i h1
      rw [if_pos h1] at h'
      exact absurd h' (Sx.wrong_err (by decide))
    · exact ⟨by omega, rfl⟩
end Go.Proofs.YtjfdcnggnldgdaaGreatDoor
end
section
namespace Go.Proofs.YtjfdcnggnldgdaaGreatDoor
open Go.ChangeShapes Go.WideShapes Go.ChangeAt Go.RowKit Go.WideMaps Go.Maps
set_option linter.unusedVariables false
set_option linter.unusedSimpArgs false

def Lx.wordV : Array Value := #[.string ⟨#[102, 110]⟩, .string ⟨#[112, 117, 98]⟩, .string ⟨#[115, 101, 99]⟩, .string ⟨#[111, 117, 116]⟩, .string ⟨#[108, 101, 116]⟩, .string ⟨#[118, 97, 114]⟩, .string ⟨#[105, 102]⟩, .string ⟨#[101, 108, 115, 101]⟩, .string ⟨#[102, 111, 114]⟩, .string ⟨#[109, 97, 120]⟩, .string ⟨#[114, 101, 116, 117, 114, 110]⟩, .string ⟨#[117, 51, 50]⟩, .string ⟨#[117, 56]⟩, .string ⟨#[109, 97, 115, 107]⟩, .string ⟨#[109, 117, 108, 104, 105]⟩, .string ⟨#[99, 97, 114, 114, 121]⟩, .string ⟨#[115, 101, 108, 101, 99, 116]⟩, .string ⟨#[119, 111, 114, 100]⟩, .string ⟨#[114, 111, 114]⟩]
theorem Lx.wordV_get : ∀ k, k < 19 → Lx.wordV[k]? = (Lx.words[k]?).map fun x => .string (Lx.S x) := by
  intro k hk
  rcases (by omega : k = 0 ∨ k = 1 ∨ k = 2 ∨ k = 3 ∨ k = 4 ∨ k = 5 ∨ k = 6 ∨ k = 7 ∨ k = 8 ∨ k = 9 ∨ k = 10 ∨ k = 11 ∨ k = 12 ∨ k = 13 ∨ k = 14 ∨ k = 15 ∨ k = 16 ∨ k = 17 ∨ k = 18) with rfl | rfl | rfl | rfl | rfl | rfl | rfl | rfl | rfl | rfl | rfl | rfl | rfl | rfl | rfl | rfl | rfl | rfl | rfl <;> rfl
theorem Lx.words_len : Lx.words.length = 19 := by decide
theorem Lx.words_short : ∀ x ∈ Lx.words, x.length ≤ 40 := by decide
theorem lawS : Keyed Tryz.prog 9 := string_keyed Tryz.underlying9
theorem zeroI (w : World) : (zeroValue 3).run Tryz.prog w = .ok (.int .i64 0) w := by kernel_rfl
abbrev Lx.u3 : DataW Unit := .lit (.int .i64 3)
/-- the first words, as a map -/
def Lx.known (k : Nat) : DataW Unit := setOf Lx.u3 ((Lx.words.take k).map fun t => .string t)
/-- block b is the map of the words -/
def KnownAt (W : World) (b : Nat) : Prop := W.ownsMap Tryz.prog 9 (plainElem (H := Unit) Tryz.prog 3) b 19 (Lx.known 19)
theorem KnownAt.kept {W W' : World} {b : Nat} (h : KnownAt W b) (hb : Below W.heap.size W W') : KnownAt W' b :=
  World.ownsMap.kept (row := none) h ⟨hb.os, hb.tape, hb.output, hb.size, fun j hj _ => hb.block j hj⟩ (by simp)
theorem Lx.keyed (L : List (List UInt8)) : ∀ x ∈ L.map (fun t => Lit.string t), WideAt.IsKeyLit x := by
  intro x hx
  obtain ⟨t, _, rfl⟩ := List.mem_map.1 hx
  exact trivial
theorem Lx.any_key (L : List (List UInt8)) (t : List UInt8) : (L.map (fun t => Lit.string t)).any (fun x => x.sameKey (.string t)) = L.contains t := by
  induction L with
  | nil => rfl
  | cons x L ih =>
    rw [List.map_cons, List.any_cons, ih, List.contains_cons]
    congr 1
    by_cases h : t = x
    · subst h; rw [WideAt.sameKey_self (show WideAt.IsKeyLit (Lit.string t) from trivial)]; simp
    · rw [sameKey_ne (fun e => h (by injection e with e; exact e.symm))]; simp [h]
theorem Lx.known_step (k : Nat) (x : List UInt8) (h : Lx.words[k]? = some x) : (Lx.known k).put (.string x) Lx.u3 = Lx.known (k + 1) := by
  unfold Lx.known
  rw [List.take_add_one, h, List.map_append]
  exact (setOf_snoc _ _ _).symm
theorem Lx.known_has (t : List UInt8) : Maps.has (Lx.known 19) (.string t) = Lx.words.contains t := by
  unfold Lx.known
  rw [has_setOf _ _ _ (Lx.keyed _), Lx.any_key, List.take_of_length_le (by rw [Lx.words_len]; exact Nat.le_refl _)]
theorem Lx.known_fold (t : List UInt8) (z : DataW Unit) : ∀ (L : List (List UInt8)) (m : DataW Unit), IsMap m → ((L.map fun t => Lit.string t).foldl (fun m x => m.put x Lx.u3) m).atKey (.string t) z = if L.contains t then Lx.u3 else m.atKey (.string t) z := by
  intro L
  induction L with
  | nil => intro m hm; rfl
  | cons x L ih =>
    intro m hm
    rw [List.map_cons, List.foldl_cons, ih _ (hm.put _ _), List.contains_cons]
    by_cases h : t = x
    · subst h
      rw [atKey_put_same hm (show WideAt.IsKeyLit (Lit.string t) from trivial)]; simp
    · rw [atKey_put_other (fun e => h (by injection e))]; simp [h]
theorem Lx.known_at (t : List UInt8) (z : DataW Unit) (h : Lx.words.contains t = true) : (Lx.known 19).atKey (.string t) z = Lx.u3 := by
  unfold Lx.known setOf
  rw [Lx.known_fold t z _ _ isMap_empty, List.take_of_length_le (by rw [Lx.words_len]; exact Nat.le_refl _), if_pos h]
set_option maxHeartbeats 4000000 in
set_option maxRecDepth 100000 in
theorem words_any (w : World) :
    Calls Tryz.prog 57 #[] w fun e w' => e = .returned (.map (some w.heap.size)) ∧ KnownAt w' w.heap.size ∧ Below w.heap.size w w' := by
  have hmm := @run_makeMap Tryz.prog
  go_enter Tryz.func57, Tryz.ntmps57
  go_wp2
  go_loopw [6] (fun K wr => ∃ k : Nat, k ≤ 19 ∧ K = .int .i64 (k : Int) ∧ wr.ownsMap Tryz.prog 9 (plainElem (H := Unit) Tryz.prog 3) w.heap.size k (Lx.known k) ∧ Below w.heap.size w wr) (fun K _ => 19 - (intOf K).toNat)
  case atStart => exact ⟨0, Nat.zero_le _, rfl, World.ownsMap_made _ _ _ _, (Below.refl _ _).alloc (Nat.le_refl _) _⟩
  case round =>
    obtain ⟨k, hk, rfl, hown, hB⟩ := hrel
    by_cases hlt : k < 19
    · have hlt' : (k : Int) < 19 := by omega
      obtain ⟨x, hx⟩ : ∃ x, Lx.words[k]? = some x := ⟨Lx.words[k]'(by rw [Lx.words_len]; exact hlt), List.getElem?_eq_getElem _⟩
      have hv : Lx.wordV[k]? = some (.string (Lx.S x)) := by rw [Lx.wordV_get k hlt, hx]; rfl
      have E : ∀ w, (Instr.index 164 (.agg #[.string ⟨#[102, 110]⟩, .string ⟨#[112, 117, 98]⟩, .string ⟨#[115, 101, 99]⟩, .string ⟨#[111, 117, 116]⟩, .string ⟨#[108, 101, 116]⟩, .string ⟨#[118, 97, 114]⟩, .string ⟨#[105, 102]⟩, .string ⟨#[101, 108, 115, 101]⟩, .string ⟨#[102, 111, 114]⟩, .string ⟨#[109, 97, 120]⟩, .string ⟨#[114, 101, 116, 117, 114, 110]⟩, .string ⟨#[117, 51, 50]⟩, .string ⟨#[117, 56]⟩, .string ⟨#[109, 97, 115, 107]⟩, .string ⟨#[109, 117, 108, 104, 105]⟩, .string ⟨#[99, 97, 114, 114, 121]⟩, .string ⟨#[115, 101, 108, 101, 99, 116]⟩, .string ⟨#[119, 111, 114, 100]⟩, .string ⟨#[114, 111, 114]⟩]) (.int .i64 (k : Int))).run Tryz.prog w = .ok (.string (Lx.S x)) w :=
        run_index_arr (P := Tryz.prog) (n := 19) Tryz.underlying164 Tryz.sizeOf9 Tryz.isAgg9 hlt hv
      have hxl : x.length ≤ 40 := Lx.words_short x (List.mem_of_getElem? hx)
      have hkey : keyOf Tryz.prog 9 (.string (Lx.S x)) = some (.string x) := keyOf_string_mk Tryz.underlying9 (by rw [Lx.S_size]; unfold maxLen; omega)
      have HX := Lib.hid hx
      clear hx hv hxl
      go_wp2_with (first
        | (at_mapUpdate; refine wpList_mapUpdate_own _ rfl _ _ _ 114 rfl 9 3 lawS Tryz.underlying114 _ w.heap.size k _ rfl hown (by unfold maxLen; omega) _ _ _ rfl rfl hkey _ [] (plainElem_int Tryz.underlying3 (by decide)) ?_))
      intro w1 hown1 hgrow1
      have R1 := (Lx.known_step k x HX.out) ▸ hown1
      have R2 := hB.grown hgrow1 hB.size (fun j hj => by cases hj; exact Nat.le_refl _)
      clear hown1 hgrow1 hown hkey E HX
      go_wp2
      go_roundw
      case rel => exact ⟨k + 1, by omega, by go_num, R1, R2⟩
      case measure => simp [intOf]; omega
    · have hge : ¬ (k : Int) < 19 := by omega
      obtain rfl : k = 19 := by omega
      go_wp2
      go_ret
      exact ⟨rfl, hown, hB⟩
end Go.Proofs.YtjfdcnggnldgdaaGreatDoor
end
section
set_option linter.unusedVariables false
set_option linter.unusedSimpArgs false
namespace Go.Proofs.YtjfdcnggnldgdaaGreatDoor
section
variable {L : List Lx.Tok} (hL : Sx.Ends L)
include hL
theorem Sx.U_err {σ : Sx.R} (hi : σ.at' < L.length) (he : σ.err ≠ 0) : Sx.U L σ = (Sx.noE, σ) := by
  have h := Sx.fuel_M L σ
  unfold Sx.U
  rw [(Sx.enough hL _).2.2.1 (Sx.fuel L + 1) σ hi (by omega) (by omega), Sx.unary, if_pos he]
theorem Sx.U_par {σ : Sx.R} (hi : σ.at' < L.length) (h : Sx.sees L [40] σ = true) : Sx.U L σ = ((Sx.X L 0 (Sx.nest L [40] σ)).1, Sx.unnest L [41] (Sx.X L 0 (Sx.nest L [40] σ)).2) := by
  obtain ⟨he, ht⟩ := Sx.sees_text h
  have h := Sx.fuel_M L σ
  unfold Sx.U Sx.X
  rw [(Sx.enough hL _).2.2.1 (Sx.fuel L + 1) σ hi (by omega) (by omega), Sx.unary, if_neg (by simpa using he)]
  simp only []
  rw [if_pos ht]
theorem Sx.U_sign {σ : Sx.R} (hi : σ.at' < L.length) (he : σ.err = 0) (ht : Sx.text L σ = [126] ∨ Sx.text L σ = [45] ∨ Sx.text L σ = [33]) :
    Sx.U L σ = (.mk (if Sx.text L σ = [126] then 5 else if Sx.text L σ = [45] then 6 else 7) (Sx.tk L σ).pos 0 [] [(Sx.U L (Sx.nest L (Sx.text L σ) σ)).1], { (Sx.U L (Sx.nest L (Sx.text L σ) σ)).2 with opn := (Sx.U L (Sx.nest L (Sx.text L σ) σ)).2.opn - 1 }) := by
  have h := Sx.fuel_M L σ
  have hn : Sx.text L σ ≠ [40] := by rcases ht with h | h | h <;> rw [h] <;> decide
  unfold Sx.U
  rw [(Sx.enough hL _).2.2.1 (Sx.fuel L + 1) σ hi (by omega) (by omega), Sx.unary, if_neg (by simpa using he)]
  simp only []
  rw [if_neg hn, if_pos ht]
theorem Sx.U_word {σ : Sx.R} (hi : σ.at' < L.length) (he : σ.err = 0) (hn : Sx.text L σ ≠ [40]) (ht : ¬ (Sx.text L σ = [126] ∨ Sx.text L σ = [45] ∨ Sx.text L σ = [33])) : Sx.U L σ = Sx.W L (Sx.text L σ) σ := by
  have h := Sx.fuel_M L σ
  unfold Sx.U Sx.W
  rw [(Sx.enough hL _).2.2.1 (Sx.fuel L + 1) σ hi (by omega) (by omega), Sx.unary, if_neg (by simpa using he)]
  simp only []
  rw [if_neg hn, if_neg ht]
theorem Sx.W_call {σ : Sx.R} (hi : σ.at' < L.length) (he : σ.err = 0) {w : List UInt8 × Int × Nat} (hw : Sx.wordsE.find? (fun x => x.1 == Sx.text L σ) = .some w) (hr : Sx.text L σ ≠ Sx.wRor) :
    Sx.W L (Sx.text L σ) σ = (.mk w.2.1 (Sx.tk L σ).pos 0 [] (Sx.Mn L w.2.2 true (Sx.nest L [40] { σ with at' := σ.at' + 1 })).1, Sx.unnest L [41] (Sx.Mn L w.2.2 true (Sx.nest L [40] { σ with at' := σ.at' + 1 })).2) := by
  have h := Sx.fuel_M L σ
  unfold Sx.W Sx.Mn
  rw [(Sx.enough hL _).2.2.2.1 (Sx.fuel L + 1) (Sx.text L σ) σ hi he rfl (by omega) (by omega), Sx.word]
  simp only [hw]
  rw [if_neg hr]
theorem Sx.W_ror {σ : Sx.R} (hi : σ.at' < L.length) (he : σ.err = 0) (hr : Sx.text L σ = Sx.wRor) :
    Sx.W L (Sx.text L σ) σ = (.mk 16 (Sx.tk L σ).pos (Sx.some L 2 (Sx.eat L [44] (Sx.Mn L 1 true (Sx.nest L [40] { σ with at' := σ.at' + 1 })).2)).1.num [] (Sx.Mn L 1 true (Sx.nest L [40] { σ with at' := σ.at' + 1 })).1, Sx.unnest L [41] (Sx.some L 2 (Sx.eat L [44] (Sx.Mn L 1 true (Sx.nest L [40] { σ with at' := σ.at' + 1 })).2)).2) := by
  have h := Sx.fuel_M L σ
  have hw : Sx.wordsE.find? (fun x => x.1 == Sx.text L σ) = .some (Sx.wRor, 16, 1) := by rw [hr]; decide
  unfold Sx.W Sx.Mn
  rw [(Sx.enough hL _).2.2.2.1 (Sx.fuel L + 1) (Sx.text L σ) σ hi he rfl (by omega) (by omega), Sx.word]
  simp only [hw]
  rw [if_pos hr]
theorem Sx.W_num {σ : Sx.R} (hi : σ.at' < L.length) (he : σ.err = 0) (hw : Sx.wordsE.find? (fun x => x.1 == Sx.text L σ) = none) (hk : (Sx.tk L σ).kind = 2) :
    Sx.W L (Sx.text L σ) σ = (.mk 1 (Sx.tk L σ).pos (Sx.tk L σ).num [] [], { σ with at' := σ.at' + 1 }) := by
  have h := Sx.fuel_M L σ
  unfold Sx.W
  rw [(Sx.enough hL _).2.2.2.1 (Sx.fuel L + 1) (Sx.text L σ) σ hi he rfl (by omega) (by omega), Sx.word]
  simp only [hw]
  rw [if_pos hk]
theorem Sx.W_name {σ : Sx.R} (hi : σ.at' < L.length) (he : σ.err = 0) (hw : Sx.wordsE.find? (fun x => x.1 == Sx.text L σ) = none) (hk : (Sx.tk L σ).kind ≠ 2) :
    Sx.W L (Sx.text L σ) σ = Sx.Bh L (Sx.some L 1 σ).1 (Sx.some L 1 σ).2 := by
  have h := Sx.fuel_M L σ
  unfold Sx.W Sx.Bh
  rw [(Sx.enough hL _).2.2.2.1 (Sx.fuel L + 1) (Sx.text L σ) σ hi he rfl (by omega) (by omega), Sx.word]
  simp only [hw]
  rw [if_neg hk]
theorem Sx.Mn_zero (b : Bool) {σ : Sx.R} (hi : σ.at' < L.length) : Sx.Mn L 0 b σ = ([], σ) := by
  have h := Sx.fuel_M L σ
  unfold Sx.Mn
  rw [(Sx.enough hL _).2.2.2.2.1 (Sx.fuel L + 1) 0 b σ hi (by omega) (by omega), Sx.many]
theorem Sx.Mn_succ (n : Nat) (b : Bool) {σ : Sx.R} (hi : σ.at' < L.length) (hn : n ≤ 8) :
    Sx.Mn L (n + 1) b σ = ((Sx.X L 0 (if b then σ else Sx.eat L [44] σ)).1 :: (Sx.Mn L n false (Sx.X L 0 (if b then σ else Sx.eat L [44] σ)).2).1, (Sx.Mn L n false (Sx.X L 0 (if b then σ else Sx.eat L [44] σ)).2).2) := by
  have h := Sx.fuel_M L σ
  unfold Sx.Mn Sx.X
  rw [(Sx.enough hL _).2.2.2.2.1 (Sx.fuel L + 1) (n + 1) b σ hi (by omega) (by omega), Sx.many]
theorem Sx.Cm_go {σ : Sx.R} (hi : σ.at' < L.length) (hs : Sx.sees L [44] σ = true) :
    Sx.Cm L σ = ((Sx.X L 0 (Sx.eat L [44] σ)).1 :: (Sx.Cm L (Sx.X L 0 (Sx.eat L [44] σ)).2).1, (Sx.Cm L (Sx.X L 0 (Sx.eat L [44] σ)).2).2) := by
  have h := Sx.fuel_M L σ
  obtain ⟨he, ht⟩ := Sx.sees_text hs
  have hm : Sx.may L [44] σ = (true, { σ with at' := σ.at' + 1 }) := by unfold Sx.may; rw [if_pos hs]
  have hea : Sx.eat L [44] σ = { σ with at' := σ.at' + 1 } := by unfold Sx.eat; rw [if_neg (by simpa using he), if_neg (by simpa using ht)]
  unfold Sx.Cm Sx.X
  rw [(Sx.enough hL _).2.2.2.2.2.2 (Sx.fuel L + 1) σ hi (by omega) (by omega), Sx.commas, hm, hea]
  simp
theorem Sx.Cm_stop {σ : Sx.R} (hi : σ.at' < L.length) (hs : Sx.sees L [44] σ = false) : Sx.Cm L σ = ([], σ) := by
  have h := Sx.fuel_M L σ
  have hm : Sx.may L [44] σ = (false, σ) := by unfold Sx.may; rw [if_neg (by rw [hs]; decide)]
  unfold Sx.Cm
  rw [(Sx.enough hL _).2.2.2.2.2.2 (Sx.fuel L + 1) σ hi (by omega) (by omega), Sx.commas, hm]
  simp
/-- what is handed over, between the parentheses -/
def Sx.Ar (L : List Lx.Tok) (k : Nat) (σ : Sx.R) : List Sx.E × Sx.R :=
  if k = 0 then if Sx.sees L [41] σ then ([], σ) else ((Sx.X L 0 σ).1 :: (Sx.Cm L (Sx.X L 0 σ).2).1, (Sx.Cm L (Sx.X L 0 σ).2).2) else Sx.Cm L σ
theorem Sx.Bh_call (t : Lx.Tok) {σ : Sx.R} (hi : σ.at' < L.length) (hs : Sx.sees L [40] σ = true) :
    Sx.Bh L t σ = (.mk 4 t.pos 0 t.text (Sx.Ar L 0 (Sx.nest L [40] σ)).1, Sx.unnest L [41] (Sx.Ar L 0 (Sx.nest L [40] σ)).2) := by
  have h := Sx.fuel_M L σ
  unfold Sx.Bh Sx.Ar Sx.X Sx.Cm
  rw [(Sx.enough hL _).2.2.2.2.2.1 (Sx.fuel L + 1) t σ hi (by omega) (by omega), Sx.behind, if_pos hs, if_pos rfl]
  simp only []
  split <;> rfl
theorem Sx.Bh_index (t : Lx.Tok) {σ : Sx.R} (hi : σ.at' < L.length) (hs : Sx.sees L [91] σ = true) :
    Sx.Bh L t σ = (.mk 3 t.pos 0 t.text [(Sx.X L 0 (Sx.nest L [91] σ)).1], Sx.unnest L [93] (Sx.X L 0 (Sx.nest L [91] σ)).2) := by
  have h := Sx.fuel_M L σ
  have hn : Sx.sees L [40] σ = false := by
    obtain ⟨h1, h2⟩ := Sx.sees_text hs
    unfold Sx.sees; rw [h2]; simp
  unfold Sx.Bh Sx.X
  rw [(Sx.enough hL _).2.2.2.2.2.1 (Sx.fuel L + 1) t σ hi (by omega) (by omega), Sx.behind, if_neg (by rw [hn]; decide), if_pos hs]
theorem Sx.Bh_bare (t : Lx.Tok) {σ : Sx.R} (hi : σ.at' < L.length) (h1 : Sx.sees L [40] σ = false) (h2 : Sx.sees L [91] σ = false) : Sx.Bh L t σ = (.mk 2 t.pos 0 t.text [], σ) := by
  have h := Sx.fuel_M L σ
  unfold Sx.Bh
  rw [(Sx.enough hL _).2.2.2.2.2.1 (Sx.fuel L + 1) t σ hi (by omega) (by omega), Sx.behind, if_neg (by rw [h1]; decide), if_neg (by rw [h2]; decide)]
theorem Sx.X_err {t : Nat} {σ : Sx.R} (hi : σ.at' < L.length) (he : σ.err ≠ 0) : Sx.X L t σ = (Sx.noE, σ) := by
  rw [Sx.X_eq hL _ hi, Sx.U_err hL hi he, Sx.Sg_err hL _ _ _ _ hi he]
omit hL in
theorem Sx.sees_err {s : List UInt8} {σ : Sx.R} (he : σ.err ≠ 0) : Sx.sees L s σ = false := by unfold Sx.sees; rw [decide_eq_false he]; rfl
theorem Sx.Mn_err (n : Nat) (b : Bool) {σ : Sx.R} (hi : σ.at' < L.length) (hn : n ≤ 9) (he : σ.err ≠ 0) : (Sx.Mn L n b σ).2 = σ := by
  induction n generalizing b with
  | zero => rw [Sx.Mn_zero hL b hi]
  | succ n ih =>
    have h1 : (if b = true then σ else Sx.eat L [44] σ) = σ := by
      split
      · rfl
      · unfold Sx.eat; rw [if_pos he]
    rw [Sx.Mn_succ hL n b hi (by omega), h1, Sx.X_err hL hi he]
    exact ih false (by omega)
theorem Sx.Ar_err (k : Nat) {σ : Sx.R} (hi : σ.at' < L.length) (he : σ.err ≠ 0) : (Sx.Ar L k σ).2 = σ := by
  unfold Sx.Ar
  split
  · rw [Sx.sees_err he, if_neg (by decide), Sx.X_err hL hi he]
    rw [Sx.Cm_stop hL hi (Sx.sees_err he)]
  · rw [Sx.Cm_stop hL hi (Sx.sees_err he)]
/-- an expression reads something, or tells an error -/
theorem Sx.M_U {σ : Sx.R} (hi : σ.at' < L.length) (he : σ.err = 0) : Sx.M L (Sx.U L σ).2 + 16 ≤ Sx.M L σ := by
  have lX := fun t τ => Sx.M_le (Sx.le_X hL t τ)
  by_cases h1 : Sx.text L σ = [40]
  · have hs : Sx.sees L [40] σ = true := by unfold Sx.sees; simp [he, h1]
    rw [Sx.U_par hL hi hs]
    have h2 := Sx.M_nest (s := [40]) he hi
    have h3 := lX 0 (Sx.nest L [40] σ)
    have h4 := Sx.M_le (Sx.le_unnest hL [41] (by decide) (Sx.X L 0 (Sx.nest L [40] σ)).2)
    exact Nat.le_trans (Nat.add_le_add_right (Nat.le_trans h4 h3) 16) h2
  · by_cases h2 : Sx.text L σ = [126] ∨ Sx.text L σ = [45] ∨ Sx.text L σ = [33]
    · rw [Sx.U_sign hL hi he h2]
      have h3 := Sx.M_nest (s := Sx.text L σ) he hi
      have h4 := Sx.M_le (Sx.le_U hL (Sx.nest L (Sx.text L σ) σ))
      rw [Sx.M_opn]
      omega
    · rw [Sx.U_word hL hi he h1 h2]
      have hB := fun t τ => Sx.M_le ((Sx.le_exprs hL (Sx.fuel L)).2.2.2.2.2.1 t τ)
      have hM := fun n b τ => Sx.M_le ((Sx.le_exprs hL (Sx.fuel L)).2.2.2.2.1 n b τ)
      cases hw : Sx.wordsE.find? (fun x => x.1 == Sx.text L σ) with
      | some w =>
        have hn := Sx.M_next he hi
        have h3 := Sx.M_le (Sx.le_nest hL [40] (by decide) { σ with at' := σ.at' + 1 })
        by_cases hr : Sx.text L σ = Sx.wRor
        · rw [Sx.W_ror hL hi he hr]
          have h4 := hM 1 true (Sx.nest L [40] { σ with at' := σ.at' + 1 })
          have h5 := Sx.M_le ((Sx.le_eat hL [44] (by decide) (Sx.Mn L 1 true (Sx.nest L [40] { σ with at' := σ.at' + 1 })).2).trans ((Sx.le_some hL 2 (by decide) _).trans (Sx.le_unnest hL [41] (by decide) _)))
          exact Nat.le_trans (Nat.add_le_add_right (Nat.le_trans h5 (Nat.le_trans h4 h3)) 16) hn
        · rw [Sx.W_call hL hi he hw hr]
          have h4 := hM w.2.2 true (Sx.nest L [40] { σ with at' := σ.at' + 1 })
          have h5 := Sx.M_le (Sx.le_unnest hL [41] (by decide) (Sx.Mn L w.2.2 true (Sx.nest L [40] { σ with at' := σ.at' + 1 })).2)
          exact Nat.le_trans (Nat.add_le_add_right (Nat.le_trans h5 (Nat.le_trans h4 h3)) 16) hn
      | none =>
        by_cases hk : (Sx.tk L σ).kind = 2
        · rw [Sx.W_num hL hi he hw hk]; exact Sx.M_next he hi
        · rw [Sx.W_name hL hi he hw hk]
          have h3 := Sx.M_some (k := 1) he hi
          exact Nat.le_trans (Nat.add_le_add_right (hB _ _) 16) h3
theorem Sx.M_X {t : Nat} {σ : Sx.R} (hi : σ.at' < L.length) (he : σ.err = 0) : Sx.M L (Sx.X L t σ).2 + 16 ≤ Sx.M L σ := by
  rw [Sx.X_eq hL _ hi]
  have h1 := Sx.M_U hL hi he
  have h2 := Sx.M_le ((Sx.le_exprs hL (Sx.fuel L)).2.1 t 7 false (Sx.U L σ).1 (Sx.U L σ).2)
  exact Nat.le_trans (Nat.add_le_add_right h2 16) h1
/-- where no error is, a token is read -/
theorem Sx.X_at {t : Nat} {σ : Sx.R} (hi : σ.at' < L.length) (he : (Sx.X L t σ).2.err = 0) : σ.at' + 1 ≤ (Sx.X L t σ).2.at' := by
  have hs : σ.err = 0 := by
    apply Classical.byContradiction
    intro h
    rw [Sx.X_err hL hi h] at he
    exact h he
  have h1 := Sx.M_X hL (t := t) hi hs
  have h2 := Sx.X_in hL (t := t) hi
  unfold Sx.M at h1
  rw [if_neg (by simpa using he), if_neg (by simpa using hs)] at h1
  omega
omit hL in
theorem Sx.op_X (t : Nat) (σ : Sx.R) : (Sx.X L t σ).2.opn = σ.opn := (Sx.op_exprs L _).1 t σ
end
end Go.Proofs.YtjfdcnggnldgdaaGreatDoor
end
section
namespace Go.Proofs.YtjfdcnggnldgdaaGreatDoor
open Go.ChangeShapes Go.WideShapes Go.ChangeAt Go.RowKit
set_option linter.unusedVariables false
set_option linter.unusedSimpArgs false

/-- a block of a struct's cells, that may be written -/
structure Blk (W : World) (b : Nat) (t : TypeId) (n : Nat) (cs : Array Value) : Prop where
 at' : W.heap[b]? = some (.cells cs t (0, 0))
 size : cs.size = n
/-- a struct's type of n cells -/
structure StructT (t : TypeId) (n : Nat) : Prop where
 und : ∃ fs, Tryz.prog.underlying t = some (.struct fs)
 info : (Tryz.prog.info? t).map (·.size) = some n
/-- cells that fit -/
structure Fits (n : Nat) (cs : Array Value) : Prop where
 size : cs.size = n
 one : cs.all (·.oneCell') = true
theorem tokT : StructT 77 4 := ⟨⟨_, Tryz.underlying77⟩, by kernel_rfl⟩
theorem badT : StructT 27 2 := ⟨⟨_, Tryz.underlying27⟩, by kernel_rfl⟩
theorem rbadT : StructT 31 2 := ⟨⟨_, Tryz.underlying31⟩, by kernel_rfl⟩
/-- what an operation loads, from where; what it stores, where: if it does -/
def ldOp (a : Act) (o : Oper) : Option (TypeId × Value) := match o.op with | .load t x => some (t, a.eval x) | _ => none
def ldOf (a : Act) (o : Oper) : Option (TypeId × Value) := match o.guard with | none => ldOp a o | some _ => none
def stOf (a : Act) (o : Oper) : Option (TypeId × Value × Value) := match o.guard, o.op with | none, .store t x y => some (t, a.eval x, a.eval y) | _, _ => none
theorem ldOp_eq {a : Act} {o : Oper} {t : TypeId} {v : Value} (h : ldOp a o = some (t, v)) : ∃ x, o.op = .load t x ∧ a.eval x = v := by
  unfold ldOp at h
  split at h
  · next t' x hx => simp at h; exact ⟨x, by rw [hx, h.1], h.2⟩
  · cases h
theorem ldOf_eq {a : Act} {o : Oper} {t : TypeId} {v : Value} (h : ldOf a o = some (t, v)) : o.guard = none ∧ ∃ x, o.op = .load t x ∧ a.eval x = v := by
  unfold ldOf at h
  split at h
  · next hg => exact ⟨hg, ldOp_eq h⟩
  · cases h
theorem stOf_eq {a : Act} {o : Oper} {t : TypeId} {u v : Value} (h : stOf a o = some (t, u, v)) : o.guard = none ∧ ∃ x y, o.op = .store t x y ∧ a.eval x = u ∧ a.eval y = v := by
  unfold stOf at h
  split at h
  · next t' x y hg hx => simp at h; exact ⟨hg, x, y, by rw [hx, h.1], h.2.1, h.2.2⟩
  · cases h
section
variable {W W' : World} {b n : Nat} {t : TypeId} {cs ds : Array Value}
theorem Blk.lt (h : Blk W b t n cs) : b < W.heap.size := (Array.getElem?_eq_some_iff.1 h.at').1
theorem Blk.kept (h : Blk W b t n cs) (hb : Below W.heap.size W W') : Blk W' b t n cs := ⟨by rw [hb.block b h.lt]; exact h.at', h.size⟩
theorem Blk.alloc (h : Blk W b t n cs) (o : Obj) : Blk (W.alloc o) b t n cs := h.kept ((Below.refl _ _).alloc (Nat.le_refl _) o)
theorem Blk.new (W : World) (t : TypeId) (cs : Array Value) : Blk (W.alloc (.cells cs t)) W.heap.size t cs.size cs := ⟨heap_alloc_last W _, rfl⟩
theorem Blk.row (h : Blk W b t n cs) (hd : ds.size = n) : Blk (W.setRow b ds) b t n ds := ⟨setRow_heap W b _ _ _ _ h.at', hd⟩
theorem Blk.other (h : Blk W b t n cs) (a : Addr) (v : Value) (hne : b ≠ a.block) : Blk (W.setCell a v) b t n cs := ⟨by rw [Below.heap_setCell _ _ _ _ hne]; exact h.at', h.size⟩
theorem Blk.cell (h : Blk W b t n cs) (k : Nat) : W.cell? ⟨b, k, none⟩ = cs[k]? := cell_of_row W b k _ _ _ h.at'
theorem Blk.open (h : Blk W b t n cs) (k : Nat) : W.frozen? ⟨b, k, none⟩ = false := by have := h.at'; simp [World.frozen?, this]
theorem Blk.set (h : Blk W b t n cs) (k : Nat) (v : Value) : Blk (W.setCell ⟨b, k, none⟩ v) b t n (cs.setIfInBounds k v) := ⟨heap_setCell_same W b k _ _ _ h.at', by simpa using h.size⟩
end
section
variable {ops : Array Oper} {rest : List Oper} {o : Oper} {a : Act} {w : World} {Q : Exit → Act → World → Prop} {K : Act → World → Prop} {b n : Nat} {t : TypeId} {cs ds : Array Value} {fn : Func} {R : Ending → World → Prop} {p q : Tmp}
theorem wpList_load_blk (T : StructT t n) (h : Blk w b t n cs) (ho : ldOf a o = some (t, .pointer (some ⟨b, 0, none⟩)))
  (k : wpList Tryz.prog ops Q rest (a.put o.dst (.agg cs)) w) : wpList Tryz.prog ops Q (o :: rest) a w := by
 obtain ⟨hg, x, ho, hx⟩ := ldOf_eq ho
 obtain ⟨fs, hu⟩ := T.und
 exact wpList_load_row hg _ x ho b hx _ _ _ _ h.at' hu rfl (by rw [h.size]; exact T.info) k
theorem wp_store_blk (T : StructT t n) (h : Blk w b t n cs) (F : Fits n ds) (ho : o.guard = none ∧ stOf a o = some (t, .pointer (some ⟨b, 0, none⟩), .agg ds))
  (k : K (a.put o.dst undef) (w.setRow b ds)) : Oper.wp Tryz.prog o a w K Q := by
 obtain ⟨hg, x, y, ho, hx, hy⟩ := stOf_eq ho.2
 exact wp_store_row _ x y ho b _ hx hy _ _ h.at' (by rw [F.size]; exact T.info) (by rw [h.size, F.size]) F.one k
theorem wpList_store_blk (T : StructT t n) (h : Blk w b t n cs) (F : Fits n ds) (ho : stOf a o = some (t, .pointer (some ⟨b, 0, none⟩), .agg ds))
  (k : wpList Tryz.prog ops Q rest (a.put o.dst undef) (w.setRow b ds)) : wpList Tryz.prog ops Q (o :: rest) a w := by
 obtain ⟨hg, x, y, ho, hx, hy⟩ := stOf_eq ho
 exact wpList_plain hg fun _ hK => wp_store_row _ x y ho b _ hx hy _ _ h.at' (by rw [F.size]; exact T.info) (by rw [h.size, F.size]) F.one (hK _ _ k)
theorem bp_blk (T : StructT t n) (hr : fn.results = #[.cell p t]) (hp : a.tmps.getD p undef = .pointer (some ⟨b, 0, none⟩)) (h : Blk w b t n cs) (hd : a.defers = []) (hR : R (.returned (.agg cs)) w) : bodyPost Tryz.prog fn R .ret a w := by
 obtain ⟨fs, hu⟩ := T.und
 exact bodyPost_ret (results_cell_row hr _ w b _ _ _ _ hp h.at' hu rfl (by rw [h.size]; exact T.info)) hd hR
theorem bp_blk2 (T : StructT t n) (hr : fn.results = #[.cell p t, .tmp q]) (hp : a.tmps.getD p undef = .pointer (some ⟨b, 0, none⟩)) (h : Blk w b t n cs) (hd : a.defers = []) (hR : R (.returned (.tuple #[.agg cs, a.tmps.getD q undef])) w) : bodyPost Tryz.prog fn R .ret a w := by
 obtain ⟨fs, hu⟩ := T.und
 have hp' : a.tmps[p]?.getD undef = .pointer (some ⟨b, 0, none⟩) := by simpa using hp
 refine bodyPost_ret ?_ hd hR
 simp [results, hr, hp', asAddr, run_loadVar_row w b _ _ _ _ _ h.at' hu rfl (by rw [h.size]; exact T.info)]
end
/-- a token's cells, an error's cells -/
abbrev tkA (k p n : Int) (s : ByteArray) : Array Value := #[.int .i64 k, .int .i64 p, .int .i64 n, .string s]
abbrev bdA (e p : Int) : Array Value := #[.int .i64 e, .int .i64 p]
theorem fitsT (k p n : Int) (s : ByteArray) : Fits 4 (tkA k p n s) := ⟨rfl, by simp [Value.oneCell']⟩
theorem fitsB (e p : Int) : Fits 2 (bdA e p) := ⟨rfl, by simp [Value.oneCell']⟩
theorem below_setRow {B : Nat} {a w : World} (h : Below B a w) {g : Nat} (hg : B ≤ g) (cs : Array Value) : Below B a (w.setRow g cs) :=
  ⟨h.os, h.tape, h.output, by have := h.size; simpa using this, fun k hk => (setRow_other w g k cs (by omega)).trans (h.block k hk)⟩
end Go.Proofs.YtjfdcnggnldgdaaGreatDoor
end
section
set_option linter.unusedVariables false
set_option linter.unusedSimpArgs false
namespace Go.Proofs.YtjfdcnggnldgdaaGreatDoor

theorem Sx.Le.ok {L : List Lx.Tok} {σ τ : Sx.R} (h : Sx.Le L σ τ) (he : τ.err = 0) : σ.err = 0 := by
  by_cases h1 : σ.err = 0
  · exact h1
  · have := (h.2.1 h1).1; omega
end Go.Proofs.YtjfdcnggnldgdaaGreatDoor
end
