/-
  What the document's one returns (layer 11).
-/
import Derived.Test.YtknbnfnibdbokaaDoorLxJ
import Derived.Test.YtknbnfnibdbokaaDoorLxK
import Derived.Test.YtknbnfnibdbokaaDoorLxP
namespace Go.Proofs.YtknbnfnibdbokaaDoor
open Go.ChangeShapes Go.WideShapes Go.ChangeAt Go.RowKit
set_option linter.unusedVariables false
set_option linter.unusedSimpArgs false

theorem Blk.drew {W : World} {b n : Nat} {t : TypeId} {cs : Array Value} (h : Blk W b t n cs) : Blk W.drew b t n cs := ⟨h.at', h.size⟩
set_option maxHeartbeats 8000000 in
set_option maxRecDepth 100000 in
theorem rone_sign (s : ByteArray) (hs : s.size ≤ 281474976710000) (k : Nat) (hk : k < s.size) (hl : Lx.letter (s[k]'hk) = false) (hd : Lx.digit (s[k]'hk) = false) (hb : (s[k]'hk) ≠ 32) (w : World) :
    Calls Tryd.prog 16 #[.string s, .int .i64 (k : Int)] w fun e w' => e = .returned (.tuple #[.agg (tkA 4 k 0 (Lx.S ((s.data.toList.drop k).take (Lx.sign (s.data.toList.drop k))))), .int .i64 (Lx.sign (s.data.toList.drop k) : Nat)]) ∧ Below w.heap.size w w' := by
  have C1 := Lib.hid fun w => rletter_any (s[k]'hk) w
  have C2 := Lib.hid fun w => rdigit_any (s[k]'hk) w
  have C3 := Lib.hid fun w => rsign_any s hs k hk hb w
  rw [hl] at C1
  rw [hd] at C2
  have hkI : (k : Int) < (s.size : Int) := by omega
  have hsz : (Lx.S ((s.data.toList.drop k).take (Lx.sign (s.data.toList.drop k)))).size = Lx.sign (s.data.toList.drop k) := by
    rw [Lx.S_size, List.length_take, Nat.min_eq_left (Lx.sign_le _)]
  generalize Lx.S ((s.data.toList.drop k).take (Lx.sign (s.data.toList.drop k))) = T at *
  generalize Lx.sign (s.data.toList.drop k) = n at *
  have HN := Lib.hid hsz
  clear hl hd hb hsz
  go_enter Tryd.func16, Tryd.ntmps16
  go_wp2_with (first
    | (go_at_call 26; refine (C1.out _).mono ?_; rintro e w2 ⟨rfl, rfl⟩)
    | (go_at_call 27; refine (C2.out _).mono ?_; rintro e w2 ⟨rfl, rfl⟩)
    | (go_at_call 28; refine (C3.out _).mono ?_; rintro e w2 ⟨rfl, rfl⟩))
  go_region
  go_wp2
  refine bp_blk2 tokT rfl rfl ((Blk.new w 37 (tkA 4 k 0 T)).alloc _).drew rfl ⟨?_, ((((Below.refl _ w).alloc (Nat.le_refl _) _).alloc (by simp) _).drew)⟩
  show Ending.returned (.tuple #[.agg (tkA 4 k 0 T), .int .i64 (T.size : Int)]) = _
  rw [HN.out]
theorem Lx.take_run {l : List UInt8} {k j : Nat} (hkj : k ≤ j) (hj : j ≤ l.length) (h : ∀ c ∈ (l.drop k).take (j - k), Lx.wordy c = true) (he : ∀ c r, l.drop j = c :: r → Lx.wordy c = false) : Lx.run (l.drop k) = (l.drop k).take (j - k) := by
  refine Lx.run_upto _ _ (by rw [List.length_drop]; omega) h (fun c r hd => ?_)
  rw [List.drop_drop, show k + (j - k) = j from by omega] at hd
  exact he c r hd
theorem Lx.run_on {l r : List UInt8} {c : UInt8} {k j : Nat} (hkj : k ≤ j) (h : ∀ x ∈ (l.drop k).take (j - k), Lx.wordy x = true) (hd : l.drop j = c :: r) (hc : Lx.wordy c = true) : ∀ x ∈ (l.drop k).take (j + 1 - k), Lx.wordy x = true := by
  have h1 : (l.drop k).drop (j - k) = c :: r := by rw [List.drop_drop, show k + (j - k) = j from by omega]; exact hd
  have h2 := Lx.run_step h h1 hc
  rwa [show j - k + 1 = j + 1 - k from by omega] at h2
/-- what one's loop keeps: bytes of a word so far -/
def Lx.Far (s : ByteArray) (k j : Nat) : Prop := ∀ c ∈ (s.data.toList.drop k).take (j - k), Lx.wordy c = true
set_option maxHeartbeats 8000000 in
set_option maxRecDepth 100000 in
theorem rone_num (s : ByteArray) (hs : s.size ≤ 281474976710000) (k : Nat) (hk : k < s.size) (hl : Lx.letter (s[k]'hk) = false) (hd : Lx.digit (s[k]'hk) = true) (w : World) :
    Calls Tryd.prog 16 #[.string s, .int .i64 (k : Int)] w fun e w' => e = .returned (.tuple #[.agg (tkA 2 k (Lx.num (Lx.run (s.data.toList.drop k))) ⟨#[]⟩), .int .i64 ((if 0 ≤ Lx.num (Lx.run (s.data.toList.drop k)) then (Lx.run (s.data.toList.drop k)).length else 0 : Nat) : Int)]) ∧ Below w.heap.size w w' := by
  have CL := Lib.hid rletter_any
  have CD := Lib.hid rdigit_any
  have CN := Lib.hid fun (t : ByteArray) (ht : t.size ≤ 281474976710656) w => rnum_any t ht w
  have C1 := Lib.hid fun w => rletter_any (s[k]'hk) w
  have C2 := Lib.hid fun w => rdigit_any (s[k]'hk) w
  rw [hl] at C1
  rw [hd] at C2
  have hkI : (k : Int) < (s.size : Int) := by omega
  have HWK : Hid (Lx.wordy (s[k]'hk) = true) := Lib.hid (by unfold Lx.wordy; rw [hd, Bool.or_true])
  obtain ⟨N, hN⟩ : ∃ N, Lx.num (Lx.run (s.data.toList.drop k)) = N := ⟨_, rfl⟩
  obtain ⟨M, hM⟩ : ∃ M : Nat, (if 0 ≤ N then (Lx.run (s.data.toList.drop k)).length else 0) = M := ⟨_, rfl⟩
  rw [hN, hM]
  have HNN := Lib.hid hN
  have HMM := Lib.hid hM
  clear hl hd hN hM
  go_enter Tryd.func16, Tryd.ntmps16
  go_wp2_with (first
    | (go_at_call 26; refine (C1.out _).mono ?_; rintro e w2 ⟨rfl, rfl⟩)
    | (go_at_call 27; refine (C2.out _).mono ?_; rintro e w2 ⟨rfl, rfl⟩))
  go_loopw [7] (fun J wr => wr = (w.alloc (.cells #[.int .i64 0, .int .i64 0, .int .i64 0, .string ⟨#[]⟩] 37)).alloc (.cells #[.int .i64 0, .int .i64 (k : Int), .int .i64 0, .string ⟨#[]⟩] 37) ∧ ∃ j : Nat, k ≤ j ∧ j ≤ s.size ∧ J = .int .i64 (j : Int) ∧ Hid (Lx.Far s k j) ∧ (j = k → True)) (fun J _ => s.size - (intOf J).toNat)
  case atStart => exact ⟨rfl, k, Nat.le_refl _, by omega, rfl, Lib.hid (by unfold Lx.Far; simp), fun _ => trivial⟩
  case round =>
    obtain ⟨rfl, j, hkj, hj, rfl, HF, hjk⟩ := hrel
    have fin : Hid ((∀ c r, s.data.toList.drop j = c :: r → Lx.wordy c = false) → Lx.run (s.data.toList.drop k) = (s.data.toList.drop k).take (j - k)) := Lib.hid (fun he => Lx.take_run hkj (by rw [← Lib.size_eq]; exact hj) HF.out he)
    by_cases hlt : j < s.size
    · have hlt' : (j : Int) < (s.size : Int) := by omega
      have HG := Lib.hid (Lx.get s j hlt)
      have D1 := Lib.hid fun w => CL.out (s[j]'hlt) w
      have D2 := Lib.hid fun w => CD.out (s[j]'hlt) w
      cases hl : Lx.letter (s[j]'hlt) <;> cases hd : Lx.digit (s[j]'hlt)
      all_goals
        rw [hl] at D1
        rw [hd] at D2
        have HW : Hid (Lx.wordy (s[j]'hlt) = (Lx.letter (s[j]'hlt) || Lx.digit (s[j]'hlt))) := Lib.hid rfl
        rw [hl, hd] at HW
        clear hl hd
      · have HR := Lib.hid (fin.out (fun c r h => by rw [HG.out] at h; cases h; exact HW.out))
        have hjk2 : k < j := by
          rcases Nat.lt_or_ge k j with h | h
          · exact h
          · exfalso
            obtain rfl : j = k := by omega
            have h1 := HW.out; rw [HWK.out] at h1; cases h1
        have E := run_cut s k j (j : Int) rfl hkj hj
        have hext : s.extract k j = Lx.S (Lx.run (s.data.toList.drop k)) := by rw [Lx.S_ext, HR.out]
        have hrl : (Lx.run (s.data.toList.drop k)).length = j - k := by
          rw [HR.out, List.length_take, List.length_drop, ← Lib.size_eq]; omega
        obtain ⟨T, hT⟩ : ∃ T, s.extract k j = T := ⟨_, rfl⟩
        have CNT := Lib.hid fun w => CN.out T (by rw [← hT, hext, Lx.S_size, hrl]; omega) w
        have hTl : T.data.toList = Lx.run (s.data.toList.drop k) := by rw [← hT, hext]; rfl
        rw [hTl, HNN.out] at CNT
        simp only [hT] at E
        have hMe := HMM.out
        rw [hrl] at hMe
        have HME := Lib.hid hMe
        have tok1 : True := trivial
        have D3 := Lib.hid fun w => CD.out (s[k]'hk) w
        have hjkI : (k : Int) ≤ (j : Int) := by omega
        clear fin hT hTl hext hrl HR D3 hMe
        by_cases hN : N < 0
        · go_wp2_with (first
            | (go_at_call 26; refine (D1.out _).mono ?_; rintro e w2 ⟨rfl, rfl⟩)
            | (go_at_call 27; have _t := tok1; refine (D2.out _).mono ?_; rintro e w2 ⟨rfl, rfl⟩; clear tok1)
            | (go_at_call 27; refine (C2.out _).mono ?_; rintro e w2 ⟨rfl, rfl⟩)
            | (go_at_call 29; refine (CNT.out _).mono ?_; rintro e w2 ⟨rfl, rfl⟩))
          refine bp_blk2 tokT rfl rfl ((Blk.new w 37 (tkA 2 k N ⟨#[]⟩)).alloc _) rfl ⟨by rw [← HME.out, if_neg (by omega)]; rfl, (((Below.refl _ w).alloc (Nat.le_refl _) _).alloc (by simp) _)⟩
        · have hN' : ¬ N < 0 := hN
          go_wp2_with (first
            | (go_at_call 26; refine (D1.out _).mono ?_; rintro e w2 ⟨rfl, rfl⟩)
            | (go_at_call 27; have _t := tok1; refine (D2.out _).mono ?_; rintro e w2 ⟨rfl, rfl⟩; clear tok1)
            | (go_at_call 27; refine (C2.out _).mono ?_; rintro e w2 ⟨rfl, rfl⟩)
            | (go_at_call 29; refine (CNT.out _).mono ?_; rintro e w2 ⟨rfl, rfl⟩))
          refine bp_blk2 tokT rfl rfl ((Blk.new w 37 (tkA 2 k N ⟨#[]⟩)).alloc _) rfl ⟨by rw [← HME.out, if_pos (by omega), show ((j - k : Nat) : Int) = (j : Int) - (k : Int) from by omega]; rfl, (((Below.refl _ w).alloc (Nat.le_refl _) _).alloc (by simp) _)⟩
      all_goals
        clear fin
        have HN := Lib.hid (show Lx.Far s k (j + 1) from Lx.run_on hkj HF.out HG.out HW.out)
        go_wp2_with (first
          | (go_at_call 26; refine (D1.out _).mono ?_; rintro e w2 ⟨rfl, rfl⟩)
          | (go_at_call 27; refine (D2.out _).mono ?_; rintro e w2 ⟨rfl, rfl⟩))
        exact ⟨⟨trivial, j + 1, by omega, by omega, by go_num, HN, fun h => absurd h (by omega)⟩, by simp [intOf]; omega⟩
    · have hge : ¬ (j : Int) < (s.size : Int) := by omega
      have HR := Lib.hid (fin.out (fun c r h => by rw [Lx.drop_nil s j (by omega)] at h; cases h))
      have hjk2 : k < j := by
        rcases Nat.lt_or_ge k j with h | h
        · exact h
        · exfalso
          obtain rfl : j = k := by omega
          exact absurd hk (by omega)
      have E := run_cut s k j (j : Int) rfl hkj hj
      have hext : s.extract k j = Lx.S (Lx.run (s.data.toList.drop k)) := by rw [Lx.S_ext, HR.out]
      have hrl : (Lx.run (s.data.toList.drop k)).length = j - k := by
        rw [HR.out, List.length_take, List.length_drop, ← Lib.size_eq]; omega
      obtain ⟨T, hT⟩ : ∃ T, s.extract k j = T := ⟨_, rfl⟩
      have CNT := Lib.hid fun w => CN.out T (by rw [← hT, hext, Lx.S_size, hrl]; omega) w
      have hTl : T.data.toList = Lx.run (s.data.toList.drop k) := by rw [← hT, hext]; rfl
      rw [hTl, HNN.out] at CNT
      simp only [hT] at E
      have hMe := HMM.out
      rw [hrl] at hMe
      have HME := Lib.hid hMe
      have D3 := Lib.hid fun w => CD.out (s[k]'hk) w
      have hjkI : (k : Int) ≤ (j : Int) := by omega
      clear fin hT hTl hext hrl HR D3 hMe
      by_cases hN : N < 0
      · go_wp2_with (first
          | (go_at_call 27; refine (C2.out _).mono ?_; rintro e w2 ⟨rfl, rfl⟩)
          | (go_at_call 29; refine (CNT.out _).mono ?_; rintro e w2 ⟨rfl, rfl⟩))
        refine bp_blk2 tokT rfl rfl ((Blk.new w 37 (tkA 2 k N ⟨#[]⟩)).alloc _) rfl ⟨by rw [← HME.out, if_neg (by omega)]; rfl, (((Below.refl _ w).alloc (Nat.le_refl _) _).alloc (by simp) _)⟩
      · have hN' : ¬ N < 0 := hN
        go_wp2_with (first
          | (go_at_call 27; refine (C2.out _).mono ?_; rintro e w2 ⟨rfl, rfl⟩)
          | (go_at_call 29; refine (CNT.out _).mono ?_; rintro e w2 ⟨rfl, rfl⟩))
        refine bp_blk2 tokT rfl rfl ((Blk.new w 37 (tkA 2 k N ⟨#[]⟩)).alloc _) rfl ⟨by rw [← HME.out, if_pos (by omega), show ((j - k : Nat) : Int) = (j : Int) - (k : Int) from by omega]; rfl, (((Below.refl _ w).alloc (Nat.le_refl _) _).alloc (by simp) _)⟩
set_option maxHeartbeats 8000000 in
set_option maxRecDepth 100000 in
theorem rone_name (s : ByteArray) (hs : s.size ≤ 281474976710000) (k : Nat) (hk : k < s.size) (hl : Lx.letter (s[k]'hk) = true) (hd : Lx.digit (s[k]'hk) = false) (w : World) :
    Calls Tryd.prog 16 #[.string s, .int .i64 (k : Int)] w fun e w' => e = .returned (.tuple #[.agg (tkA (if Lx.words.contains (Lx.run (s.data.toList.drop k)) then 3 else 1) k 0 (Lx.S (Lx.run (s.data.toList.drop k)))), .int .i64 ((if (Lx.run (s.data.toList.drop k)).length ≤ 40 then (Lx.run (s.data.toList.drop k)).length else 0 : Nat) : Int)]) ∧ Below w.heap.size w w' := by
  have CL := Lib.hid rletter_any
  have CD := Lib.hid rdigit_any
  have C1 := Lib.hid fun w => rletter_any (s[k]'hk) w
  have C2 := Lib.hid fun w => rdigit_any (s[k]'hk) w
  rw [hl] at C1
  rw [hd] at C2
  have hkI : (k : Int) < (s.size : Int) := by omega
  have HWK : Hid (Lx.wordy (s[k]'hk) = true) := Lib.hid (by unfold Lx.wordy; rw [hl]; rfl)
  obtain ⟨R, hR⟩ : ∃ R, Lx.run (s.data.toList.drop k) = R := ⟨_, rfl⟩
  rw [hR]
  have hRw : R.all Lx.wordy = true := by rw [← hR]; exact Lx.run_all _
  have hin : Lx.inL (Lx.between Lx.words) R = Lx.words.contains R := Lx.inL_words R hRw
  rw [show Lx.between Lx.words = [32, 102, 110, 32, 112, 117, 98, 32, 115, 101, 99, 32, 111, 117, 116, 32, 108, 101, 116, 32, 118, 97, 114, 32, 105, 102, 32, 101, 108, 115, 101, 32, 102, 111, 114, 32, 109, 97, 120, 32, 114, 101, 116, 117, 114, 110, 32, 117, 51, 50, 32, 117, 56, 32, 109, 97, 115, 107, 32, 109, 117, 108, 104, 105, 32, 99, 97, 114, 114, 121, 32, 115, 101, 108, 101, 99, 116, 32, 119, 111, 114, 100, 32, 114, 111, 114, 32] from by decide] at hin
  obtain ⟨q, hq⟩ : ∃ q, Lx.words.contains R = q := ⟨_, rfl⟩
  obtain ⟨M, hM⟩ : ∃ M : Nat, (if R.length ≤ 40 then R.length else 0) = M := ⟨_, rfl⟩
  obtain ⟨T, hT⟩ : ∃ T, Lx.S R = T := ⟨_, rfl⟩
  have hRl : R.length ≤ s.size := by rw [← hR, Lib.size_eq]; have := Lx.run_le (s.data.toList.drop k); rw [List.length_drop] at this; omega
  have CI := Lib.hid fun w => rin_any ⟨([32, 102, 110, 32, 112, 117, 98, 32, 115, 101, 99, 32, 111, 117, 116, 32, 108, 101, 116, 32, 118, 97, 114, 32, 105, 102, 32, 101, 108, 115, 101, 32, 102, 111, 114, 32, 109, 97, 120, 32, 114, 101, 116, 117, 114, 110, 32, 117].append [51, 50, 32, 117, 56, 32, 109, 97, 115, 107, 32, 109, 117, 108, 104, 105, 32, 99, 97, 114, 114, 121, 32, 115, 101, 108, 101, 99, 116, 32, 119, 111, 114, 100, 32, 114, 111, 114, 32]).toArray⟩ T (by decide) (by rw [← hT, Lx.S_size]; omega) w
  rw [show (⟨([32, 102, 110, 32, 112, 117, 98, 32, 115, 101, 99, 32, 111, 117, 116, 32, 108, 101, 116, 32, 118, 97, 114, 32, 105, 102, 32, 101, 108, 115, 101, 32, 102, 111, 114, 32, 109, 97, 120, 32, 114, 101, 116, 117, 114, 110, 32, 117].append [51, 50, 32, 117, 56, 32, 109, 97, 115, 107, 32, 109, 117, 108, 104, 105, 32, 99, 97, 114, 114, 121, 32, 115, 101, 108, 101, 99, 116, 32, 119, 111, 114, 100, 32, 114, 111, 114, 32]).toArray⟩ : ByteArray).data.toList = [32, 102, 110, 32, 112, 117, 98, 32, 115, 101, 99, 32, 111, 117, 116, 32, 108, 101, 116, 32, 118, 97, 114, 32, 105, 102, 32, 101, 108, 115, 101, 32, 102, 111, 114, 32, 109, 97, 120, 32, 114, 101, 116, 117, 114, 110, 32, 117, 51, 50, 32, 117, 56, 32, 109, 97, 115, 107, 32, 109, 117, 108, 104, 105, 32, 99, 97, 114, 114, 121, 32, 115, 101, 108, 101, 99, 116, 32, 119, 111, 114, 100, 32, 114, 111, 114, 32] from rfl, show T.data.toList = R from by rw [← hT]; rfl, hin, hq] at CI
  rw [hq, hM, hT]
  have HRR := Lib.hid hR
  have HTT := Lib.hid hT
  have HMM := Lib.hid hM
  clear hR hRw hin hq hT hRl hM
  clear hl hd
  go_enter Tryd.func16, Tryd.ntmps16
  go_wp2_with (first
    | (go_at_call 26; refine (C1.out _).mono ?_; rintro e w2 ⟨rfl, rfl⟩)
    | (go_at_call 27; refine (C2.out _).mono ?_; rintro e w2 ⟨rfl, rfl⟩))
  go_loopw [7] (fun J wr => wr = (w.alloc (.cells #[.int .i64 0, .int .i64 0, .int .i64 0, .string ⟨#[]⟩] 37)).alloc (.cells #[.int .i64 0, .int .i64 (k : Int), .int .i64 0, .string ⟨#[]⟩] 37) ∧ ∃ j : Nat, k ≤ j ∧ j ≤ s.size ∧ J = .int .i64 (j : Int) ∧ Hid (Lx.Far s k j) ∧ (j = k → True)) (fun J _ => s.size - (intOf J).toNat)
  case atStart => exact ⟨rfl, k, Nat.le_refl _, by omega, rfl, Lib.hid (by unfold Lx.Far; simp), fun _ => trivial⟩
  case round =>
    obtain ⟨rfl, j, hkj, hj, rfl, HF, hjk⟩ := hrel
    have fin : Hid ((∀ c r, s.data.toList.drop j = c :: r → Lx.wordy c = false) → Lx.run (s.data.toList.drop k) = (s.data.toList.drop k).take (j - k)) := Lib.hid (fun he => Lx.take_run hkj (by rw [← Lib.size_eq]; exact hj) HF.out he)
    by_cases hlt : j < s.size
    · have hlt' : (j : Int) < (s.size : Int) := by omega
      have HG := Lib.hid (Lx.get s j hlt)
      have D1 := Lib.hid fun w => CL.out (s[j]'hlt) w
      have D2 := Lib.hid fun w => CD.out (s[j]'hlt) w
      cases hl : Lx.letter (s[j]'hlt) <;> cases hd : Lx.digit (s[j]'hlt)
      all_goals
        rw [hl] at D1
        rw [hd] at D2
        have HW : Hid (Lx.wordy (s[j]'hlt) = (Lx.letter (s[j]'hlt) || Lx.digit (s[j]'hlt))) := Lib.hid rfl
        rw [hl, hd] at HW
        clear hl hd
      · have HR := Lib.hid (fin.out (fun c r h => by rw [HG.out] at h; cases h; exact HW.out))
        have hjk2 : k < j := by
          rcases Nat.lt_or_ge k j with h | h
          · exact h
          · exfalso
            obtain rfl : j = k := by omega
            have h1 := HW.out; rw [HWK.out] at h1; cases h1
        have E := run_cut s k j (j : Int) rfl hkj hj
        have hext : s.extract k j = Lx.S (Lx.run (s.data.toList.drop k)) := by rw [Lx.S_ext, HR.out]
        have hrl : (Lx.run (s.data.toList.drop k)).length = j - k := by
          rw [HR.out, List.length_take, List.length_drop, ← Lib.size_eq]; omega
        rw [HRR.out] at hext hrl
        rw [HTT.out] at hext
        rw [hext] at E
        have hMe := HMM.out
        rw [hrl] at hMe
        have HME := Lib.hid hMe
        have hjkI : (k : Int) ≤ (j : Int) := by omega
        have tok1 : True := trivial
        clear fin hext hrl HR hMe
        cases q
        · by_cases h40 : (40 : Int) < (j : Int) - (k : Int)
          · go_wp2_with (first
              | (go_at_call 26; refine (D1.out _).mono ?_; rintro e w2 ⟨rfl, rfl⟩)
              | (go_at_call 27; have _t := tok1; refine (D2.out _).mono ?_; rintro e w2 ⟨rfl, rfl⟩; clear tok1)
              | (go_at_call 27; refine (C2.out _).mono ?_; rintro e w2 ⟨rfl, rfl⟩)
              | (go_at_call 30; refine (CI.out _).mono ?_; rintro e w2 ⟨rfl, rfl⟩))
            refine bp_blk2 tokT rfl rfl ((Blk.new w 37 (tkA 1 k 0 T)).alloc _) rfl ⟨by rw [← HME.out, if_neg (c := j - k ≤ 40) (by omega)]; rfl, (((Below.refl _ w).alloc (Nat.le_refl _) _).alloc (by simp) _)⟩
          · have h40' : ¬ (40 : Int) < (j : Int) - (k : Int) := h40
            go_wp2_with (first
              | (go_at_call 26; refine (D1.out _).mono ?_; rintro e w2 ⟨rfl, rfl⟩)
              | (go_at_call 27; have _t := tok1; refine (D2.out _).mono ?_; rintro e w2 ⟨rfl, rfl⟩; clear tok1)
              | (go_at_call 27; refine (C2.out _).mono ?_; rintro e w2 ⟨rfl, rfl⟩)
              | (go_at_call 30; refine (CI.out _).mono ?_; rintro e w2 ⟨rfl, rfl⟩))
            refine bp_blk2 tokT rfl rfl ((Blk.new w 37 (tkA 1 k 0 T)).alloc _) rfl ⟨by rw [← HME.out, if_pos (c := j - k ≤ 40) (by omega), show ((j - k : Nat) : Int) = (j : Int) - (k : Int) from by omega]; rfl, (((Below.refl _ w).alloc (Nat.le_refl _) _).alloc (by simp) _)⟩
        · by_cases h40 : (40 : Int) < (j : Int) - (k : Int)
          · go_wp2_with (first
              | (go_at_call 26; refine (D1.out _).mono ?_; rintro e w2 ⟨rfl, rfl⟩)
              | (go_at_call 27; have _t := tok1; refine (D2.out _).mono ?_; rintro e w2 ⟨rfl, rfl⟩; clear tok1)
              | (go_at_call 27; refine (C2.out _).mono ?_; rintro e w2 ⟨rfl, rfl⟩)
              | (go_at_call 30; refine (CI.out _).mono ?_; rintro e w2 ⟨rfl, rfl⟩))
            refine bp_blk2 tokT rfl rfl ((Blk.new w 37 (tkA 3 k 0 T)).alloc _) rfl ⟨by rw [← HME.out, if_neg (c := j - k ≤ 40) (by omega)]; rfl, (((Below.refl _ w).alloc (Nat.le_refl _) _).alloc (by simp) _)⟩
          · have h40' : ¬ (40 : Int) < (j : Int) - (k : Int) := h40
            go_wp2_with (first
              | (go_at_call 26; refine (D1.out _).mono ?_; rintro e w2 ⟨rfl, rfl⟩)
              | (go_at_call 27; have _t := tok1; refine (D2.out _).mono ?_; rintro e w2 ⟨rfl, rfl⟩; clear tok1)
              | (go_at_call 27; refine (C2.out _).mono ?_; rintro e w2 ⟨rfl, rfl⟩)
              | (go_at_call 30; refine (CI.out _).mono ?_; rintro e w2 ⟨rfl, rfl⟩))
            refine bp_blk2 tokT rfl rfl ((Blk.new w 37 (tkA 3 k 0 T)).alloc _) rfl ⟨by rw [← HME.out, if_pos (c := j - k ≤ 40) (by omega), show ((j - k : Nat) : Int) = (j : Int) - (k : Int) from by omega]; rfl, (((Below.refl _ w).alloc (Nat.le_refl _) _).alloc (by simp) _)⟩
      all_goals
        clear fin
        have HN := Lib.hid (show Lx.Far s k (j + 1) from Lx.run_on hkj HF.out HG.out HW.out)
        go_wp2_with (first
          | (go_at_call 26; refine (D1.out _).mono ?_; rintro e w2 ⟨rfl, rfl⟩)
          | (go_at_call 27; refine (D2.out _).mono ?_; rintro e w2 ⟨rfl, rfl⟩))
        exact ⟨⟨trivial, j + 1, by omega, by omega, by go_num, HN, fun h => absurd h (by omega)⟩, by simp [intOf]; omega⟩
    · have hge : ¬ (j : Int) < (s.size : Int) := by omega
      have HR := Lib.hid (fin.out (fun c r h => by rw [Lx.drop_nil s j (by omega)] at h; cases h))
      have hjk2 : k < j := by
        rcases Nat.lt_or_ge k j with h | h
        · exact h
        · exfalso
          obtain rfl : j = k := by omega
          exact absurd hk (by omega)
      have E := run_cut s k j (j : Int) rfl hkj hj
      have hext : s.extract k j = Lx.S (Lx.run (s.data.toList.drop k)) := by rw [Lx.S_ext, HR.out]
      have hrl : (Lx.run (s.data.toList.drop k)).length = j - k := by
        rw [HR.out, List.length_take, List.length_drop, ← Lib.size_eq]; omega
      rw [HRR.out] at hext hrl
      rw [HTT.out] at hext
      rw [hext] at E
      have hMe := HMM.out
      rw [hrl] at hMe
      have HME := Lib.hid hMe
      have hjkI : (k : Int) ≤ (j : Int) := by omega
      have tok1 : True := trivial
      clear fin hext hrl HR hMe
      cases q
      · by_cases h40 : (40 : Int) < (j : Int) - (k : Int)
        · go_wp2_with (first
            | (go_at_call 27; refine (C2.out _).mono ?_; rintro e w2 ⟨rfl, rfl⟩)
            | (go_at_call 30; refine (CI.out _).mono ?_; rintro e w2 ⟨rfl, rfl⟩))
          refine bp_blk2 tokT rfl rfl ((Blk.new w 37 (tkA 1 k 0 T)).alloc _) rfl ⟨by rw [← HME.out, if_neg (c := j - k ≤ 40) (by omega)]; rfl, (((Below.refl _ w).alloc (Nat.le_refl _) _).alloc (by simp) _)⟩
        · have h40' : ¬ (40 : Int) < (j : Int) - (k : Int) := h40
          go_wp2_with (first
            | (go_at_call 27; refine (C2.out _).mono ?_; rintro e w2 ⟨rfl, rfl⟩)
            | (go_at_call 30; refine (CI.out _).mono ?_; rintro e w2 ⟨rfl, rfl⟩))
          refine bp_blk2 tokT rfl rfl ((Blk.new w 37 (tkA 1 k 0 T)).alloc _) rfl ⟨by rw [← HME.out, if_pos (c := j - k ≤ 40) (by omega), show ((j - k : Nat) : Int) = (j : Int) - (k : Int) from by omega]; rfl, (((Below.refl _ w).alloc (Nat.le_refl _) _).alloc (by simp) _)⟩
      · by_cases h40 : (40 : Int) < (j : Int) - (k : Int)
        · go_wp2_with (first
            | (go_at_call 27; refine (C2.out _).mono ?_; rintro e w2 ⟨rfl, rfl⟩)
            | (go_at_call 30; refine (CI.out _).mono ?_; rintro e w2 ⟨rfl, rfl⟩))
          refine bp_blk2 tokT rfl rfl ((Blk.new w 37 (tkA 3 k 0 T)).alloc _) rfl ⟨by rw [← HME.out, if_neg (c := j - k ≤ 40) (by omega)]; rfl, (((Below.refl _ w).alloc (Nat.le_refl _) _).alloc (by simp) _)⟩
        · have h40' : ¬ (40 : Int) < (j : Int) - (k : Int) := h40
          go_wp2_with (first
            | (go_at_call 27; refine (C2.out _).mono ?_; rintro e w2 ⟨rfl, rfl⟩)
            | (go_at_call 30; refine (CI.out _).mono ?_; rintro e w2 ⟨rfl, rfl⟩))
          refine bp_blk2 tokT rfl rfl ((Blk.new w 37 (tkA 3 k 0 T)).alloc _) rfl ⟨by rw [← HME.out, if_pos (c := j - k ≤ 40) (by omega), show ((j - k : Nat) : Int) = (j : Int) - (k : Int) from by omega]; rfl, (((Below.refl _ w).alloc (Nat.le_refl _) _).alloc (by simp) _)⟩
end Go.Proofs.YtknbnfnibdbokaaDoor
