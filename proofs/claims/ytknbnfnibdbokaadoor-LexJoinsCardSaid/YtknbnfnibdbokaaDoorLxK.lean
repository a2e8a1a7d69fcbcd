/-
  What the document's Number returns (layer 11).
-/
import Derived.Test.YtknbnfnibdbokaaDoorLxE
namespace Go.Proofs.YtknbnfnibdbokaaDoor
open Go.ChangeShapes Go.WideShapes Go.ChangeAt Go.RowKit
set_option linter.unusedVariables false
set_option linter.unusedSimpArgs false

theorem Lx.hval_ten (c : UInt8) (h : Lx.digit c = true) : Lx.hval c < 10 := by
  have := Lx.hval_lt10 c.toNat c.toNat_lt; rw [Lx.of_byte] at this; exact this h
theorem Lx.dig_dig {c : UInt8} (h1 : 48 ≤ c.toNat) (h2 : c.toNat ≤ 57) : Lx.digit c = true := by unfold Lx.digit; simp [h1, h2]
theorem Lx.dig_no {c : UInt8} (h : ¬ (48 ≤ c.toNat ∧ c.toNat ≤ 57)) : Lx.digit c = false := by
  cases hq : Lx.digit c
  · rfl
  · unfold Lx.digit at hq; simp at hq; omega
theorem Lx.dig_let {c : UInt8} (h : 97 ≤ c.toNat ∧ c.toNat ≤ 102) : Lx.digit c = false := Lx.dig_no (by omega)
theorem Lx.hex_let {c : UInt8} (h1 : 97 ≤ c.toNat) (h2 : c.toNat ≤ 102) : Lx.hex c = true := by unfold Lx.hex; simp [h1, h2]
theorem Lx.hex_dig {c : UInt8} (h1 : 48 ≤ c.toNat) (h2 : c.toNat ≤ 57) : Lx.hex c = true := by unfold Lx.hex; rw [Lx.dig_dig h1 h2]; rfl
theorem Lx.hex_no {c : UInt8} (h1 : ¬ (97 ≤ c.toNat ∧ c.toNat ≤ 102)) (h2 : ¬ (48 ≤ c.toNat ∧ c.toNat ≤ 57)) : Lx.hex c = false := by
  unfold Lx.hex; rw [Lx.dig_no h2]; simp; omega
theorem Lx.hval_dig {c : UInt8} (h1 : 48 ≤ c.toNat) (h2 : c.toNat ≤ 57) : Lx.hval c = c.toNat - 48 := by unfold Lx.hval; rw [if_pos (Lx.dig_dig h1 h2)]
theorem Lx.hval_let {c : UInt8} (h1 : 97 ≤ c.toNat) (h2 : c.toNat ≤ 102) : Lx.hval c = c.toNat - 87 := by unfold Lx.hval; rw [if_neg (by rw [Lx.dig_let ⟨h1, h2⟩]; decide)]
theorem Lx.num_step {L r : List UInt8} {ok : UInt8 → Bool} {c : UInt8} {k m d B : Nat} (hB : 1 ≤ B) (hB16 : B ≤ 16) (h : (L.take k).all ok = true ∧ Lx.val B (L.take k) = m ∧ m < B ^ k) (hk : k < 10) (hg : L.drop k = c :: r) (ho : ok c = true) (hv : Lx.hval c = d) (hd : Lx.hval c < B) :
    ((L.take (k + 1)).all ok = true ∧ Lx.val B (L.take (k + 1)) = m * B + d ∧ m * B + d < B ^ (k + 1)) ∧ m * B + d ≤ 1099511627776 := by
  have ht : L.take (k + 1) = L.take k ++ [c] := by rw [List.take_add_one, ← List.head?_drop, hg]; rfl
  have hlt : m * B + d < B ^ (k + 1) := by
    rw [Nat.pow_succ]
    have h1 := Nat.mul_le_mul_right B (Nat.succ_le_of_lt h.2.2)
    rw [Nat.succ_mul] at h1
    omega
  refine ⟨⟨?_, ?_, hlt⟩, ?_⟩
  · rw [ht, List.all_append, h.1]; simp [ho]
  · rw [ht, Lx.val_add, h.2.1, hv]
  · have h1 : B ^ (k + 1) ≤ 16 ^ (k + 1) := Nat.pow_le_pow_left hB16 _
    have h2 : 16 ^ (k + 1) ≤ 16 ^ 10 := Nat.pow_le_pow_right (by omega) (by omega)
    omega
theorem Lx.all_bad {L r : List UInt8} {ok : UInt8 → Bool} {c : UInt8} {k : Nat} (hg : L.drop k = c :: r) (h : ok c = false) : L.all ok = false := by
  rw [List.all_eq_false]
  exact ⟨c, List.mem_of_mem_drop (by rw [hg]; simp), by rw [h]; decide⟩
theorem Lx.isEmpty' (s : ByteArray) (h : 0 < s.size) : s.toList.isEmpty = false := by
  have h1 := Lx.notEmpty s
  cases hq : s.toList.isEmpty
  · rfl
  · rw [hq, decide_eq_true h] at h1; cases h1
set_option maxHeartbeats 16000000 in
theorem rnum_any (s : ByteArray) (hs : s.size ≤ 281474976710656) (w : World) :
    Calls Tryd.prog 29 #[.string s] w fun e w' => e = .returned (.int .i64 (Lx.num s.data.toList)) ∧ w' = w := by
  have CD := Lib.hid rdigit_any
  have hE : s.extract 0 2 = Lx.S (s.data.toList.take 2) := by rw [Lx.S_ext]; rfl
  have hS2 : s.extract 2 s.size = Lx.S (s.data.toList.drop 2) := ext_rest s 2
  cases hp : ((s.extract 0 2).toList == [48, 120])
  · have hnp : ¬ s.data.toList.take 2 = [48, 120] := fun h => by rw [hE, h, Lib.toList_data] at hp; exact absurd hp (by decide)
    have HNUM := Lib.hid (show Lx.num s.data.toList = _ from by rw [Lx.num, if_neg hnp])
    all_goals
      by_cases h10 : s.size ≤ 10
      · have h10' : ¬ (10 : Int) < (s.size : Int) := by omega
        have HTN := Lib.hid h10
        obtain ⟨l, hl⟩ : ∃ l, s.data.toList = l := ⟨_, rfl⟩
        have HTS : Hid (s.size = s.data.toList.length) := Lib.hid (Lib.size_eq s)
        generalize Lx.num s.data.toList = R at HNUM ⊢
        clear hl l hE hS2 hnp
        by_cases h0 : 0 < s.size
        · have h0' : (0 : Int) < (s.size : Int) := by omega
          have hse := Lx.isEmpty' s h0
          have hH0 := Lx.get s 0 h0
          rw [List.drop_zero] at hH0
          have HH0 := Lib.hid hH0
          clear hH0
          have HV1 : Hid (s.data.toList.all Lx.digit = false → R = -1) := Lib.hid (fun h => by rw [HNUM.out, if_neg]; rintro ⟨_, _, _, h3, _⟩; rw [h] at h3; cases h3)
          have HV3 : Hid (∀ m : Nat, (s.data.toList.all Lx.digit = true ∧ Lx.val 10 s.data.toList = m) → (4294967296 : Int) ≤ (m : Int) → R = -1) := Lib.hid (fun m h hm => by
            rw [HNUM.out, if_neg]; rintro ⟨_, _, _, _, h3⟩; rw [h.2] at h3; omega)
          by_cases h1 : 1 < s.size
          · have h1' : (1 : Int) < (s.size : Int) := by omega
            have h2 : (2 : Int) ≤ (s.size : Int) := by omega
            cases hz : (((s[0]'h0).toNat : Int) == 48)
            · have HV2 : Hid (∀ m : Nat, (s.data.toList.all Lx.digit = true ∧ Lx.val 10 s.data.toList = m) → (m : Int) < 4294967296 → R = (m : Int)) := Lib.hid (fun m h hm => by
                rw [HNUM.out, if_pos ⟨fun e => by have h5 := HTS.out; rw [e, List.length_nil] at h5; omega, by rw [← HTS.out]; exact HTN.out, fun _ => by
                  rw [HH0.out]
                  intro e
                  have e2 : s[0] = 48 := by simpa using e
                  rw [e2] at hz
                  exact absurd hz (by decide), h.1, by rw [h.2]; omega⟩, h.2])
              clear HNUM
              go_enter Tryd.func29, Tryd.ntmps29
              go_wp2
              go_loopw [4, 5] (fun M K wr => wr = w ∧ ∃ k m : Nat, k ≤ s.size ∧ K = .int .i64 (k : Int) ∧ M = .int .i64 (m : Int) ∧ m ≤ 1099511627776 ∧ Hid ((s.data.toList.take k).all Lx.digit = true ∧ Lx.val 10 (s.data.toList.take k) = m ∧ m < 10 ^ k)) (fun _ K _ => s.size - (intOf K).toNat)
              case atStart => exact ⟨rfl, 0, 0, Nat.zero_le _, rfl, rfl, by omega, Lib.hid ⟨rfl, rfl, by simp⟩⟩
              case round =>
                obtain ⟨rfl, k, m, hk, rfl, rfl, hm, HK⟩ := hrel
                by_cases hlt : k < s.size
                · have hlt' : (k : Int) < (s.size : Int) := by omega
                  have HG := Lib.hid (Lx.get s k hlt)
                  have C1 := Lib.hid fun w => CD.out s[k] w
                  have hb := s[k].toNat_lt
                  have hTn := HTN.out
                  have HSTEP : Hid (∀ d : Nat, Lx.digit s[k] = true → Lx.hval s[k] = d → ((s.data.toList.take (k + 1)).all Lx.digit = true ∧ Lx.val 10 (s.data.toList.take (k + 1)) = m * 10 + d ∧ m * 10 + d < 10 ^ (k + 1)) ∧ m * 10 + d ≤ 1099511627776) := Lib.hid (fun d h1 h2 => Lx.num_step (L := s.data.toList) (by omega) (by omega) HK.out (by omega) HG.out h1 h2 (Lx.hval_ten _ h1))
                  have HBAD : Hid (Lx.digit s[k] = false → s.data.toList.all Lx.digit = false) := Lib.hid (fun h => Lx.all_bad HG.out h)
                  rcases (by omega : (48 ≤ s[k].toNat ∧ s[k].toNat ≤ 57) ∨ (97 ≤ s[k].toNat ∧ s[k].toNat ≤ 102) ∨ (102 < s[k].toNat) ∨ (s[k].toNat < 48) ∨ (57 < s[k].toNat ∧ s[k].toNat < 97)) with hc | hc | hc | hc | hc
                  · have hc1 := hc.1
                    have hc2 := hc.2
                    clear hc
                    have HOK := Lib.hid (HSTEP.out (s[k].toNat - 48) (Lx.dig_dig hc1 hc2) (Lx.hval_dig hc1 hc2))
                    have hdg : Lx.digit s[k] = true := Lx.dig_dig hc1 hc2
                    rw [hdg] at C1
                    clear hdg HSTEP HBAD hTn
                    have hle := HOK.out.2
                    go_wp2_with (go_at_call 27; refine (C1.out _).mono ?_; rintro e w2 ⟨rfl, rfl⟩)
                    exact ⟨⟨trivial, k + 1, m * 10 + (s[k].toNat - 48), by omega, by go_num, by first | rfl | (congr 1; push_cast; omega) | (congr 1; omega), hle, Lib.hid HOK.out.1⟩, by simp [intOf]; omega⟩
                  · have hc1 := hc.1
                    have hc2 := hc.2
                    clear hc
                    have HNO := Lib.hid (HBAD.out (Lx.dig_no (by omega)))
                    have hdg : Lx.digit s[k] = false := Lx.dig_no (by omega)
                    rw [hdg] at C1
                    clear hdg HSTEP HBAD hTn
                    go_wp2_with (go_at_call 27; refine (C1.out _).mono ?_; rintro e w2 ⟨rfl, rfl⟩)
                    all_goals (go_ret; exact ⟨ret_int' (HV1.out HNO.out).symm, rfl⟩)
                  · have hc1 := hc
                    clear hc
                    have HNO := Lib.hid (HBAD.out (Lx.dig_no (by omega)))
                    have hdg : Lx.digit s[k] = false := Lx.dig_no (by omega)
                    rw [hdg] at C1
                    clear hdg HSTEP HBAD hTn
                    go_wp2_with (go_at_call 27; refine (C1.out _).mono ?_; rintro e w2 ⟨rfl, rfl⟩)
                    all_goals (go_ret; exact ⟨ret_int' (HV1.out HNO.out).symm, rfl⟩)
                  · have hc1 := hc
                    clear hc
                    have HNO := Lib.hid (HBAD.out (Lx.dig_no (by omega)))
                    have hdg : Lx.digit s[k] = false := Lx.dig_no (by omega)
                    rw [hdg] at C1
                    clear hdg HSTEP HBAD hTn
                    go_wp2_with (go_at_call 27; refine (C1.out _).mono ?_; rintro e w2 ⟨rfl, rfl⟩)
                    all_goals (go_ret; exact ⟨ret_int' (HV1.out HNO.out).symm, rfl⟩)
                  · have hc1 := hc.1
                    have hc2 := hc.2
                    clear hc
                    have HNO := Lib.hid (HBAD.out (Lx.dig_no (by omega)))
                    have hdg : Lx.digit s[k] = false := Lx.dig_no (by omega)
                    rw [hdg] at C1
                    clear hdg HSTEP HBAD hTn
                    go_wp2_with (go_at_call 27; refine (C1.out _).mono ?_; rintro e w2 ⟨rfl, rfl⟩)
                    all_goals (go_ret; exact ⟨ret_int' (HV1.out HNO.out).symm, rfl⟩)
                · have hge : ¬ (k : Int) < (s.size : Int) := by omega
                  have HALL : Hid (s.data.toList.all Lx.digit = true ∧ Lx.val 10 s.data.toList = m) := Lib.hid (by
                    have h := HK.out
                    rw [List.take_of_length_le (by rw [← Lib.size_eq]; omega)] at h
                    exact ⟨h.1, h.2.1⟩)
                  by_cases hbig : (m : Int) < 4294967296
                  · have hbig' : ¬ (4294967296 : Int) ≤ (m : Int) := by omega
                    go_wp2
                    go_ret
                    exact ⟨ret_int' (HV2.out m HALL.out hbig).symm, rfl⟩
                  · have hbig' : (4294967296 : Int) ≤ (m : Int) := by omega
                    go_wp2
                    go_ret
                    exact ⟨ret_int' (HV3.out m HALL.out hbig').symm, rfl⟩
            · have HV : Hid (R = -1) := Lib.hid (by
                rw [HNUM.out, if_neg]
                rintro ⟨_, _, h, _⟩
                have h5 := h (by rw [← HTS.out]; exact h1)
                rw [HH0.out] at h5
                have e2 : s[0] = 48 := UInt8.toNat_inj.1 (by have := eq_of_beq hz; exact_mod_cast this)
                rw [e2] at h5
                exact h5 rfl)
              clear HNUM
              go_enter Tryd.func29, Tryd.ntmps29
              go_wp2
              go_ret
              exact ⟨ret_int' HV.out.symm, rfl⟩
          · have h1' : ¬ (1 : Int) < (s.size : Int) := by omega
            have h2 : ¬ (2 : Int) ≤ (s.size : Int) := by omega
            have HV2 : Hid (∀ m : Nat, (s.data.toList.all Lx.digit = true ∧ Lx.val 10 s.data.toList = m) → (m : Int) < 4294967296 → R = (m : Int)) := Lib.hid (fun m h hm => by
              rw [HNUM.out, if_pos ⟨fun e => by have h5 := HTS.out; rw [e, List.length_nil] at h5; omega, by rw [← HTS.out]; exact HTN.out, fun h5 => by rw [← HTS.out] at h5; exact absurd h5 h1, h.1, by rw [h.2]; omega⟩, h.2])
            clear HNUM
            go_enter Tryd.func29, Tryd.ntmps29
            go_wp2
            go_loopw [4, 5] (fun M K wr => wr = w ∧ ∃ k m : Nat, k ≤ s.size ∧ K = .int .i64 (k : Int) ∧ M = .int .i64 (m : Int) ∧ m ≤ 1099511627776 ∧ Hid ((s.data.toList.take k).all Lx.digit = true ∧ Lx.val 10 (s.data.toList.take k) = m ∧ m < 10 ^ k)) (fun _ K _ => s.size - (intOf K).toNat)
            case atStart => exact ⟨rfl, 0, 0, Nat.zero_le _, rfl, rfl, by omega, Lib.hid ⟨rfl, rfl, by simp⟩⟩
            case round =>
              obtain ⟨rfl, k, m, hk, rfl, rfl, hm, HK⟩ := hrel
              by_cases hlt : k < s.size
              · have hlt' : (k : Int) < (s.size : Int) := by omega
                have HG := Lib.hid (Lx.get s k hlt)
                have C1 := Lib.hid fun w => CD.out s[k] w
                have hb := s[k].toNat_lt
                have hTn := HTN.out
                have HSTEP : Hid (∀ d : Nat, Lx.digit s[k] = true → Lx.hval s[k] = d → ((s.data.toList.take (k + 1)).all Lx.digit = true ∧ Lx.val 10 (s.data.toList.take (k + 1)) = m * 10 + d ∧ m * 10 + d < 10 ^ (k + 1)) ∧ m * 10 + d ≤ 1099511627776) := Lib.hid (fun d h1 h2 => Lx.num_step (L := s.data.toList) (by omega) (by omega) HK.out (by omega) HG.out h1 h2 (Lx.hval_ten _ h1))
                have HBAD : Hid (Lx.digit s[k] = false → s.data.toList.all Lx.digit = false) := Lib.hid (fun h => Lx.all_bad HG.out h)
                rcases (by omega : (48 ≤ s[k].toNat ∧ s[k].toNat ≤ 57) ∨ (97 ≤ s[k].toNat ∧ s[k].toNat ≤ 102) ∨ (102 < s[k].toNat) ∨ (s[k].toNat < 48) ∨ (57 < s[k].toNat ∧ s[k].toNat < 97)) with hc | hc | hc | hc | hc
                · have hc1 := hc.1
                  have hc2 := hc.2
                  clear hc
                  have HOK := Lib.hid (HSTEP.out (s[k].toNat - 48) (Lx.dig_dig hc1 hc2) (Lx.hval_dig hc1 hc2))
                  have hdg : Lx.digit s[k] = true := Lx.dig_dig hc1 hc2
                  rw [hdg] at C1
                  clear hdg HSTEP HBAD hTn
                  have hle := HOK.out.2
                  go_wp2_with (go_at_call 27; refine (C1.out _).mono ?_; rintro e w2 ⟨rfl, rfl⟩)
                  exact ⟨⟨trivial, k + 1, m * 10 + (s[k].toNat - 48), by omega, by go_num, by first | rfl | (congr 1; push_cast; omega) | (congr 1; omega), hle, Lib.hid HOK.out.1⟩, by simp [intOf]; omega⟩
                · have hc1 := hc.1
                  have hc2 := hc.2
                  clear hc
                  have HNO := Lib.hid (HBAD.out (Lx.dig_no (by omega)))
                  have hdg : Lx.digit s[k] = false := Lx.dig_no (by omega)
                  rw [hdg] at C1
                  clear hdg HSTEP HBAD hTn
                  go_wp2_with (go_at_call 27; refine (C1.out _).mono ?_; rintro e w2 ⟨rfl, rfl⟩)
                  all_goals (go_ret; exact ⟨ret_int' (HV1.out HNO.out).symm, rfl⟩)
                · have hc1 := hc
                  clear hc
                  have HNO := Lib.hid (HBAD.out (Lx.dig_no (by omega)))
                  have hdg : Lx.digit s[k] = false := Lx.dig_no (by omega)
                  rw [hdg] at C1
                  clear hdg HSTEP HBAD hTn
                  go_wp2_with (go_at_call 27; refine (C1.out _).mono ?_; rintro e w2 ⟨rfl, rfl⟩)
                  all_goals (go_ret; exact ⟨ret_int' (HV1.out HNO.out).symm, rfl⟩)
                · have hc1 := hc
                  clear hc
                  have HNO := Lib.hid (HBAD.out (Lx.dig_no (by omega)))
                  have hdg : Lx.digit s[k] = false := Lx.dig_no (by omega)
                  rw [hdg] at C1
                  clear hdg HSTEP HBAD hTn
                  go_wp2_with (go_at_call 27; refine (C1.out _).mono ?_; rintro e w2 ⟨rfl, rfl⟩)
                  all_goals (go_ret; exact ⟨ret_int' (HV1.out HNO.out).symm, rfl⟩)
                · have hc1 := hc.1
                  have hc2 := hc.2
                  clear hc
                  have HNO := Lib.hid (HBAD.out (Lx.dig_no (by omega)))
                  have hdg : Lx.digit s[k] = false := Lx.dig_no (by omega)
                  rw [hdg] at C1
                  clear hdg HSTEP HBAD hTn
                  go_wp2_with (go_at_call 27; refine (C1.out _).mono ?_; rintro e w2 ⟨rfl, rfl⟩)
                  all_goals (go_ret; exact ⟨ret_int' (HV1.out HNO.out).symm, rfl⟩)
              · have hge : ¬ (k : Int) < (s.size : Int) := by omega
                have HALL : Hid (s.data.toList.all Lx.digit = true ∧ Lx.val 10 s.data.toList = m) := Lib.hid (by
                  have h := HK.out
                  rw [List.take_of_length_le (by rw [← Lib.size_eq]; omega)] at h
                  exact ⟨h.1, h.2.1⟩)
                by_cases hbig : (m : Int) < 4294967296
                · have hbig' : ¬ (4294967296 : Int) ≤ (m : Int) := by omega
                  go_wp2
                  go_ret
                  exact ⟨ret_int' (HV2.out m HALL.out hbig).symm, rfl⟩
                · have hbig' : (4294967296 : Int) ≤ (m : Int) := by omega
                  go_wp2
                  go_ret
                  exact ⟨ret_int' (HV3.out m HALL.out hbig').symm, rfl⟩
        · have hse : s.toList.isEmpty = true := by
            have h := Lx.notEmpty s
            rw [decide_eq_false h0] at h
            cases hq : s.toList.isEmpty
            · rw [hq] at h; cases h
            · rfl
          have h1' : ¬ (1 : Int) < (s.size : Int) := by omega
          have h2 : ¬ (2 : Int) ≤ (s.size : Int) := by omega
          have HV : Hid (R = -1) := Lib.hid (by rw [HNUM.out, if_neg]; rintro ⟨h, _⟩; exact h (List.eq_nil_of_length_eq_zero (by rw [← HTS.out]; omega)))
          clear HNUM
          go_enter Tryd.func29, Tryd.ntmps29
          go_wp2
          go_ret
          exact ⟨ret_int' HV.out.symm, rfl⟩
      · have h10' : (10 : Int) < (s.size : Int) := by omega
        have HV : Hid (Lx.num s.data.toList = -1) := Lib.hid (by rw [HNUM.out, if_neg]; rintro ⟨_, h, _⟩; rw [← Lib.size_eq] at h; exact h10 h)
        clear HNUM hE hS2 hnp
        go_enter Tryd.func29, Tryd.ntmps29
        go_wp2
        go_ret
        exact ⟨ret_int' HV.out.symm, rfl⟩
  · have hpp : s.data.toList.take 2 = [48, 120] := by
      have h := eq_of_beq hp
      rw [hE, Lib.toList_data] at h
      exact h
    have h2s : 2 ≤ s.size := by
      have h := congrArg List.length hpp
      rw [List.length_take, ← Lib.size_eq] at h
      simp at h; omega
    have h2 : (2 : Int) ≤ (s.size : Int) := by omega
    have HNUM := Lib.hid (show Lx.num s.data.toList = _ from by rw [Lx.num, if_pos hpp])
    obtain ⟨l, hl⟩ : ∃ l, s.data.toList.drop 2 = l := ⟨_, rfl⟩
    rw [hl] at HNUM hS2
    obtain ⟨t, ht⟩ : ∃ t, Lx.S l = t := ⟨_, rfl⟩
    have htl : t.data.toList = l := by rw [← ht]; rfl
    have hts : t.size = l.length := by rw [← ht, Lx.S_size]
    have htz : t.size ≤ s.size := by rw [hts, ← hl, List.length_drop, Lib.size_eq]; omega
    rw [ht] at hS2
    rw [← htl] at HNUM
    have HTS : Hid (t.size = t.data.toList.length) := Lib.hid (Lib.size_eq t)
    generalize Lx.num s.data.toList = R at HNUM ⊢
    clear hE hl ht htl hts hpp
    by_cases h8 : t.size ≤ 8
    · have h8' : ¬ (8 : Int) < (t.size : Int) := by omega
      have HTN : Hid (t.size ≤ 10) := Lib.hid (by omega)
      by_cases h0 : 0 < t.size
      · have hte := Lx.isEmpty' t h0
        have HV1 : Hid (t.data.toList.all Lx.hex = false → R = -1) := Lib.hid (fun h => by rw [HNUM.out, if_neg]; rintro ⟨_, _, h3⟩; rw [h] at h3; cases h3)
        have HV2 : Hid (∀ m : Nat, (t.data.toList.all Lx.hex = true ∧ Lx.val 16 t.data.toList = m) → (m : Int) < 4294967296 → R = (m : Int)) := Lib.hid (fun m h _ => by
          rw [HNUM.out, if_pos ⟨by rw [← HTS.out]; exact h8, fun e => by have h5 := HTS.out; rw [e, List.length_nil] at h5; omega, h.1⟩, h.2])
        have HV3 : Hid (∀ m : Nat, (t.data.toList.all Lx.hex = true ∧ Lx.val 16 t.data.toList = m) → (4294967296 : Int) ≤ (m : Int) → R = -1) := Lib.hid (fun m h hm => by
          exfalso
          have h5 := Lx.valF_lt t.data.toList h.1 0
          have h6 : 16 ^ t.data.toList.length ≤ 16 ^ 8 := Nat.pow_le_pow_right (by omega) (by rw [← HTS.out]; exact h8)
          have h7 := h.2
          unfold Lx.val at h7
          omega)
        clear HNUM
        go_enter Tryd.func29, Tryd.ntmps29
        go_wp2
        go_loopw [4, 5] (fun M K wr => wr = w ∧ ∃ k m : Nat, k ≤ t.size ∧ K = .int .i64 (k : Int) ∧ M = .int .i64 (m : Int) ∧ m ≤ 1099511627776 ∧ Hid ((t.data.toList.take k).all Lx.hex = true ∧ Lx.val 16 (t.data.toList.take k) = m ∧ m < 16 ^ k)) (fun _ K _ => t.size - (intOf K).toNat)
        case atStart => exact ⟨rfl, 0, 0, Nat.zero_le _, rfl, rfl, by omega, Lib.hid ⟨rfl, rfl, by simp⟩⟩
        case round =>
          obtain ⟨rfl, k, m, hk, rfl, rfl, hm, HK⟩ := hrel
          by_cases hlt : k < t.size
          · have hlt' : (k : Int) < (t.size : Int) := by omega
            have HG := Lib.hid (Lx.get t k hlt)
            have C1 := Lib.hid fun w => CD.out t[k] w
            have hb := t[k].toNat_lt
            have hTn := HTN.out
            have HSTEP : Hid (∀ d : Nat, Lx.hex t[k] = true → Lx.hval t[k] = d → ((t.data.toList.take (k + 1)).all Lx.hex = true ∧ Lx.val 16 (t.data.toList.take (k + 1)) = m * 16 + d ∧ m * 16 + d < 16 ^ (k + 1)) ∧ m * 16 + d ≤ 1099511627776) := Lib.hid (fun d h1 h2 => Lx.num_step (L := t.data.toList) (by omega) (by omega) HK.out (by omega) HG.out h1 h2 (Lx.hval_hex _ h1))
            have HBAD : Hid (Lx.hex t[k] = false → t.data.toList.all Lx.hex = false) := Lib.hid (fun h => Lx.all_bad HG.out h)
            rcases (by omega : (97 ≤ t[k].toNat ∧ t[k].toNat ≤ 102) ∨ (48 ≤ t[k].toNat ∧ t[k].toNat ≤ 57) ∨ (102 < t[k].toNat) ∨ (t[k].toNat < 48) ∨ (57 < t[k].toNat ∧ t[k].toNat < 97)) with hc | hc | hc | hc | hc
            · have hc1 := hc.1
              have hc2 := hc.2
              clear hc
              have HOK := Lib.hid (HSTEP.out (t[k].toNat - 87) (Lx.hex_let hc1 hc2) (Lx.hval_let hc1 hc2))
              have hdg : Lx.digit t[k] = false := Lx.dig_let ⟨hc1, hc2⟩
              rw [hdg] at C1
              clear hdg HSTEP HBAD hTn
              have hle := HOK.out.2
              go_wp2_with (go_at_call 27; refine (C1.out _).mono ?_; rintro e w2 ⟨rfl, rfl⟩)
              exact ⟨⟨trivial, k + 1, m * 16 + (t[k].toNat - 87), by omega, by go_num, by first | rfl | (congr 1; push_cast; omega) | (congr 1; omega), hle, Lib.hid HOK.out.1⟩, by simp [intOf]; omega⟩
            · have hc1 := hc.1
              have hc2 := hc.2
              clear hc
              have HOK := Lib.hid (HSTEP.out (t[k].toNat - 48) (Lx.hex_dig hc1 hc2) (Lx.hval_dig hc1 hc2))
              have hdg : Lx.digit t[k] = true := Lx.dig_dig hc1 hc2
              rw [hdg] at C1
              clear hdg HSTEP HBAD hTn
              have hle := HOK.out.2
              go_wp2_with (go_at_call 27; refine (C1.out _).mono ?_; rintro e w2 ⟨rfl, rfl⟩)
              exact ⟨⟨trivial, k + 1, m * 16 + (t[k].toNat - 48), by omega, by go_num, by first | rfl | (congr 1; push_cast; omega) | (congr 1; omega), hle, Lib.hid HOK.out.1⟩, by simp [intOf]; omega⟩
            · have hc1 := hc
              clear hc
              have HNO := Lib.hid (HBAD.out (Lx.hex_no (by omega) (by omega)))
              have hdg : Lx.digit t[k] = false := Lx.dig_no (by omega)
              rw [hdg] at C1
              clear hdg HSTEP HBAD hTn
              go_wp2_with (go_at_call 27; refine (C1.out _).mono ?_; rintro e w2 ⟨rfl, rfl⟩)
              all_goals (go_ret; exact ⟨ret_int' (HV1.out HNO.out).symm, rfl⟩)
            · have hc1 := hc
              clear hc
              have HNO := Lib.hid (HBAD.out (Lx.hex_no (by omega) (by omega)))
              have hdg : Lx.digit t[k] = false := Lx.dig_no (by omega)
              rw [hdg] at C1
              clear hdg HSTEP HBAD hTn
              go_wp2_with (go_at_call 27; refine (C1.out _).mono ?_; rintro e w2 ⟨rfl, rfl⟩)
              all_goals (go_ret; exact ⟨ret_int' (HV1.out HNO.out).symm, rfl⟩)
            · have hc1 := hc.1
              have hc2 := hc.2
              clear hc
              have HNO := Lib.hid (HBAD.out (Lx.hex_no (by omega) (by omega)))
              have hdg : Lx.digit t[k] = false := Lx.dig_no (by omega)
              rw [hdg] at C1
              clear hdg HSTEP HBAD hTn
              go_wp2_with (go_at_call 27; refine (C1.out _).mono ?_; rintro e w2 ⟨rfl, rfl⟩)
              all_goals (go_ret; exact ⟨ret_int' (HV1.out HNO.out).symm, rfl⟩)
          · have hge : ¬ (k : Int) < (t.size : Int) := by omega
            have HALL : Hid (t.data.toList.all Lx.hex = true ∧ Lx.val 16 t.data.toList = m) := Lib.hid (by
              have h := HK.out
              rw [List.take_of_length_le (by rw [← Lib.size_eq]; omega)] at h
              exact ⟨h.1, h.2.1⟩)
            by_cases hbig : (m : Int) < 4294967296
            · have hbig' : ¬ (4294967296 : Int) ≤ (m : Int) := by omega
              go_wp2
              go_ret
              exact ⟨ret_int' (HV2.out m HALL.out hbig).symm, rfl⟩
            · have hbig' : (4294967296 : Int) ≤ (m : Int) := by omega
              go_wp2
              go_ret
              exact ⟨ret_int' (HV3.out m HALL.out hbig').symm, rfl⟩
      · have hte : t.toList.isEmpty = true := by
          have h := Lx.notEmpty t
          rw [decide_eq_false h0] at h
          cases hq : t.toList.isEmpty
          · rw [hq] at h; cases h
          · rfl
        have HV : Hid (R = -1) := Lib.hid (by rw [HNUM.out, if_neg]; rintro ⟨_, h, _⟩; exact h (List.eq_nil_of_length_eq_zero (by rw [← HTS.out]; omega)))
        clear HNUM
        go_enter Tryd.func29, Tryd.ntmps29
        go_wp2
        go_ret
        exact ⟨ret_int' HV.out.symm, rfl⟩
    · have h8' : (8 : Int) < (t.size : Int) := by omega
      have HV : Hid (R = -1) := Lib.hid (by rw [HNUM.out, if_neg]; rintro ⟨h, _⟩; rw [← HTS.out] at h; exact h8 h)
      clear HNUM
      go_enter Tryd.func29, Tryd.ntmps29
      go_wp2
      go_ret
      exact ⟨ret_int' HV.out.symm, rfl⟩
end Go.Proofs.YtknbnfnibdbokaaDoor
