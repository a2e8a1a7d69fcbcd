/-
What the document's one returns (layer 11).
Plain mathematics of layer 12: trees of a text are small: their places, and how many parts there are.
Slices of tokens, as cells.
Tokens and errors compared, by value (layer 11).
What package lex's Lex returns.
-/
import Derived.Test.YtjfdcnggnldgdaaGreatDoorP05a
import Derived.Test.YtjfdcnggnldgdaaGreatDoorP07a
import Derived.Test.YtjfdcnggnldgdaaGreatDoorP09a
import Derived.Maps.AppendAt
import Derived.DeepKeys
section
namespace Go.Proofs.YtjfdcnggnldgdaaGreatDoor
open Go.ChangeShapes Go.WideShapes Go.ChangeAt Go.RowKit
set_option linter.unusedVariables false
set_option linter.unusedSimpArgs false

theorem Blk.drew {W : World} {b n : Nat} {t : TypeId} {cs : Array Value} (h : Blk W b t n cs) : Blk W.drew b t n cs := ⟨h.at', h.size⟩
set_option maxHeartbeats 8000000 in
set_option maxRecDepth 100000 in
theorem rone_sign (s : ByteArray) (hs : s.size ≤ 281474976710000) (k : Nat) (hk : k < s.size) (hl : Lx.letter (s[k]'hk) = false) (hd : Lx.digit (s[k]'hk) = false) (hb : (s[k]'hk) ≠ 32) (w : World) :
    Calls Tryz.prog 64 #[.string s, .int .i64 (k : Int)] w fun e w' => e = .returned (.tuple #[.agg (tkA 4 k 0 (Lx.S ((s.data.toList.drop k).take (Lx.sign (s.data.toList.drop k))))), .int .i64 (Lx.sign (s.data.toList.drop k) : Nat)]) ∧ Below w.heap.size w w' := by
  have C1 := Lib.hid fun w => rletter_any (s[k]'hk) w
  have C2 := Lib.hid fun w => rdigit_any (s[k]'hk) w
  have C3 := Lib.hid fun w => rsign_any s hs k hk hb w
  rw [hl] at C1
  rw [hd] at C2
  have hkI : (k : Int) < (s.size : Int) := by omega
  have hsz : (Lx.S ((s.data.toList.drop k).take (Lx.sign (s.data.toList.drop k)))).size = Lx.sign (s.data.toList.drop k) := by
    rw [Lx.S_size, List.length_take, Nat.min_eq_left (Lx.sign_le _)]
  generalize Lx.S ((s.data.toList.drop k).take (Lx.sign (s.data.toList.drop k))) = T at *
  generalize Lx.sign (s.data.toList.drop k) = n at *
  have HN := Lib.hid hsz
  clear hl hd hb hsz
  go_enter Tryz.func64, Tryz.ntmps64
  go_wp2_with (first
    | (go_at_call 126; refine (C1.out _).mono ?_; rintro e w2 ⟨rfl, rfl⟩)
    | (go_at_call 127; refine (C2.out _).mono ?_; rintro e w2 ⟨rfl, rfl⟩)
    | (go_at_call 128; refine (C3.out _).mono ?_; rintro e w2 ⟨rfl, rfl⟩))
  go_region
  go_wp2
  refine bp_blk2 tokT rfl rfl ((Blk.new w 77 (tkA 4 k 0 T)).alloc _).drew rfl ⟨?_, ((((Below.refl _ w).alloc (Nat.le_refl _) _).alloc (by simp) _).drew)⟩
  show Ending.returned (.tuple #[.agg (tkA 4 k 0 T), .int .i64 (T.size : Int)]) = _
  rw [HN.out]
theorem Lx.take_run {l : List UInt8} {k j : Nat} (hkj : k ≤ j) (hj : j ≤ l.length) (h : ∀ c ∈ (l.drop k).take (j - k), Lx.wordy c = true) (he : ∀ c r, l.drop j = c :: r → Lx.wordy c = false) : Lx.run (l.drop k) = (l.drop k).take (j - k) := by
  refine Lx.run_upto _ _ (by rw [List.length_drop]; omega) h (fun c r hd => ?_)
  rw [List.drop_drop, show k + (j - k) = j from by omega] at hd
  exact he c r hd
theorem Lx.run_on {l r : List UInt8} {c : UInt8} {k j : Nat} (hkj : k ≤ j) (h : ∀ x ∈ (l.drop k).take (j - k), Lx.wordy x = true) (hd : l.drop j = c :: r) (hc : Lx.wordy c = true) : ∀ x ∈ (l.drop k).take (j + 1 - k), Lx.wordy x = true := by
  have h1 : (l.drop k).drop (j - k) = c :: r := by rw [List.drop_drop, show k + (j - k) = j from by omega]; exact hd
  have h2 := Lx.run_step h h1 hc
  rwa [show j - k + 1 = j + 1 - k from by omega] at h2
/-- what one's loop keeps: bytes of a word so far -/
def Lx.Far (s : ByteArray) (k j : Nat) : Prop := ∀ c ∈ (s.data.toList.drop k).take (j - k), Lx.wordy c = true
set_option maxHeartbeats 8000000 in
set_option maxRecDepth 100000 in
theorem rone_num (s : ByteArray) (hs : s.size ≤ 281474976710000) (k : Nat) (hk : k < s.size) (hl : Lx.letter (s[k]'hk) = false) (hd : Lx.digit (s[k]'hk) = true) (w : World) :
    Calls Tryz.prog 64 #[.string s, .int .i64 (k : Int)] w fun e w' => e = .returned (.tuple #[.agg (tkA 2 k (Lx.num (Lx.run (s.data.toList.drop k))) ⟨#[]⟩), .int .i64 ((if 0 ≤ Lx.num (Lx.run (s.data.toList.drop k)) then (Lx.run (s.data.toList.drop k)).length else 0 : Nat) : Int)]) ∧ Below w.heap.size w w' := by
  have CL := Lib.hid rletter_any
  have CD := Lib.hid rdigit_any
  have CN := Lib.hid fun (t : ByteArray) (ht : t.size ≤ 281474976710656) w => rnum_any t ht w
  have C1 := Lib.hid fun w => rletter_any (s[k]'hk) w
  have C2 := Lib.hid fun w => rdigit_any (s[k]'hk) w
  rw [hl] at C1
  rw [hd] at C2
  have hkI : (k : Int) < (s.size : Int) := by omega
  have HWK : Hid (Lx.wordy (s[k]'hk) = true) := Lib.hid (by unfold Lx.wordy; rw [hd, Bool.or_true])
  obtain ⟨N, hN⟩ : ∃ N, Lx.num (Lx.run (s.data.toList.drop k)) = N := ⟨_, rfl⟩
  obtain ⟨M, hM⟩ : ∃ M : Nat, (if 0 ≤ N then (Lx.run (s.data.toList.drop k)).length else 0) = M := ⟨_, rfl⟩
  rw [hN, hM]
  have HNN := Lib.hid hN
  have HMM := Lib.hid hM
  clear hl hd hN hM
  go_enter Tryz.func64, Tryz.ntmps64
  go_wp2_with (first
    | (go_at_call 126; refine (C1.out _).mono ?_; rintro e w2 ⟨rfl, rfl⟩)
    | (go_at_call 127; refine (C2.out _).mono ?_; rintro e w2 ⟨rfl, rfl⟩))
  go_loopw [7] (fun J wr => wr = (w.alloc (.cells #[.int .i64 0, .int .i64 0, .int .i64 0, .string ⟨#[]⟩] 77)).alloc (.cells #[.int .i64 0, .int .i64 (k : Int), .int .i64 0, .string ⟨#[]⟩] 77) ∧ ∃ j : Nat, k ≤ j ∧ j ≤ s.size ∧ J = .int .i64 (j : Int) ∧ Hid (Lx.Far s k j) ∧ (j = k → True)) (fun J _ => s.size - (intOf J).toNat)
  case atStart => exact ⟨rfl, k, Nat.le_refl _, by omega, rfl, Lib.hid (by unfold Lx.Far; simp), fun _ => trivial⟩
  case round =>
    obtain ⟨rfl, j, hkj, hj, rfl, HF, hjk⟩ := hrel
    have fin : Hid ((∀ c r, s.data.toList.drop j = c :: r → Lx.wordy c = false) → Lx.run (s.data.toList.drop k) = (s.data.toList.drop k).take (j - k)) := Lib.hid (fun he => Lx.take_run hkj (by rw [← Lib.size_eq]; exact hj) HF.out he)
    by_cases hlt : j < s.size
    · have hlt' : (j : Int) < (s.size : Int) := by omega
      have HG := Lib.hid (Lx.get s j hlt)
      have D1 := Lib.hid fun w => CL.out (s[j]'hlt) w
      have D2 := Lib.hid fun w => CD.out (s[j]'hlt) w
      cases hl : Lx.letter (s[j]'hlt) <;> cases hd : Lx.digit (s[j]'hlt)
      all_goals
        rw [hl] at D1
        rw [hd] at D2
        have HW : Hid (Lx.wordy (s[j]'hlt) = (Lx.letter (s[j]'hlt) || Lx.digit (s[j]'hlt))) := Lib.hid rfl
        rw [hl, hd] at HW
        clear hl hd
      · have HR := Lib.hid (fin.out (fun c r h => by rw [HG.out] at h; cases h; exact HW.out))
        have hjk2 : k < j := by
          rcases Nat.lt_or_ge k j with h | h
          · exact h
          · exfalso
            obtain rfl : j = k := by omega
            have h1 := HW.out; rw [HWK.out] at h1; cases h1
        have E := run_cut s k j (j : Int) rfl hkj hj
        have hext : s.extract k j = Lx.S (Lx.run (s.data.toList.drop k)) := by rw [Lx.S_ext, HR.out]
        have hrl : (Lx.run (s.data.toList.drop k)).length = j - k := by
          rw [HR.out, List.length_take, List.length_drop, ← Lib.size_eq]; omega
        obtain ⟨T, hT⟩ : ∃ T, s.extract k j = T := ⟨_, rfl⟩
        have CNT := Lib.hid fun w => CN.out T (by rw [← hT, hext, Lx.S_size, hrl]; omega) w
        have hTl : T.data.toList = Lx.run (s.data.toList.drop k) := by rw [← hT, hext]; rfl
        rw [hTl, HNN.out] at CNT
        simp only [hT] at E
        have hMe := HMM.out
        rw [hrl] at hMe
        have HME := Lib.hid hMe
        have tok1 : True := trivial
        have D3 := Lib.hid fun w => CD.out (s[k]'hk) w
        have hjkI : (k : Int) ≤ (j : Int) := by omega
        clear fin hT hTl hext hrl HR D3 hMe
        by_cases hN : N < 0
        · go_wp2_with (first
            | (go_at_call 126; refine (D1.out _).mono ?_; rintro e w2 ⟨rfl, rfl⟩)
            | (go_at_call 127; have _t := tok1; refine (D2.out _).mono ?_; rintro e w2 ⟨rfl, rfl⟩; clear tok1)
            | (go_at_call 127; refine (C2.out _).mono ?_; rintro e w2 ⟨rfl, rfl⟩)
            | (go_at_call 129; refine (CNT.out _).mono ?_; rintro e w2 ⟨rfl, rfl⟩))
          refine bp_blk2 tokT rfl rfl ((Blk.new w 77 (tkA 2 k N ⟨#[]⟩)).alloc _) rfl ⟨by rw [← HME.out, if_neg (by omega)]; rfl, (((Below.refl _ w).alloc (Nat.le_refl _) _).alloc (by simp) _)⟩
        · have hN' : ¬ N < 0 := hN
          go_wp2_with (first
            | (go_at_call 126; refine (D1.out _).mono ?_; rintro e w2 ⟨rfl, rfl⟩)
            | (go_at_call 127; have _t := tok1; refine (D2.out _).mono ?_; rintro e w2 ⟨rfl, rfl⟩; clear tok1)
            | (go_at_call 127; refine (C2.out _).mono ?_; rintro e w2 ⟨rfl, rfl⟩)
            | (go_at_call 129; refine (CNT.out _).mono ?_; rintro e w2 ⟨rfl, rfl⟩))
          refine bp_blk2 tokT rfl rfl ((Blk.new w 77 (tkA 2 k N ⟨#[]⟩)).alloc _) rfl ⟨by rw [← HME.out, if_pos (by omega), show ((j - k : Nat) : Int) = (j : Int) - (k : Int) from by omega]; rfl, (((Below.refl _ w).alloc (Nat.le_refl _) _).alloc (by simp) _)⟩
      all_goals
        clear fin
        have HN := Lib.hid (show Lx.Far s k (j + 1) from Lx.run_on hkj HF.out HG.out HW.out)
        go_wp2_with (first
          | (go_at_call 126; refine (D1.out _).mono ?_; rintro e w2 ⟨rfl, rfl⟩)
          | (go_at_call 127; refine (D2.out _).mono ?_; rintro e w2 ⟨rfl, rfl⟩))
        exact ⟨⟨trivial, j + 1, by omega, by omega, by go_num, HN, fun h => absurd h (by omega)⟩, by simp [intOf]; omega⟩
    · have hge : ¬ (j : Int) < (s.size : Int) := by omega
      have HR := Lib.hid (fin.out (fun c r h => by rw [Lx.drop_nil s j (by omega)] at h; cases h))
      have hjk2 : k < j := by
        rcases Nat.lt_or_ge k j with h | h
        · exact h
        · exfalso
          obtain rfl : j = k := by omega
          exact absurd hk (by omega)
      have E := run_cut s k j (j : Int) rfl hkj hj
      have hext : s.extract k j = Lx.S (Lx.run (s.data.toList.drop k)) := by rw [Lx.S_ext, HR.out]
      have hrl : (Lx.run (s.data.toList.drop k)).length = j - k := by
        rw [HR.out, List.length_take, List.length_drop, ← Lib.size_eq]; omega
      obtain ⟨T, hT⟩ : ∃ T, s.extract k j = T := ⟨_, rfl⟩
      have CNT := Lib.hid fun w => CN.out T (by rw [← hT, hext, Lx.S_size, hrl]; omega) w
      have hTl : T.data.toList = Lx.run (s.data.toList.drop k) := by rw [← hT, hext]; rfl
      rw [hTl, HNN.out] at CNT
      simp only [hT] at E
      have hMe := HMM.out
      rw [hrl] at hMe
      have HME := Lib.hid hMe
      have D3 := Lib.hid fun w => CD.out (s[k]'hk) w
      have hjkI : (k : Int) ≤ (j : Int) := by omega
      clear fin hT hTl hext hrl HR D3 hMe
      by_cases hN : N < 0
      · go_wp2_with (first
          | (go_at_call 127; refine (C2.out _).mono ?_; rintro e w2 ⟨rfl, rfl⟩)
          | (go_at_call 129; refine (CNT.out _).mono ?_; rintro e w2 ⟨rfl, rfl⟩))
        refine bp_blk2 tokT rfl rfl ((Blk.new w 77 (tkA 2 k N ⟨#[]⟩)).alloc _) rfl ⟨by rw [← HME.out, if_neg (by omega)]; rfl, (((Below.refl _ w).alloc (Nat.le_refl _) _).alloc (by simp) _)⟩
      · have hN' : ¬ N < 0 := hN
        go_wp2_with (first
          | (go_at_call 127; refine (C2.out _).mono ?_; rintro e w2 ⟨rfl, rfl⟩)
          | (go_at_call 129; refine (CNT.out _).mono ?_; rintro e w2 ⟨rfl, rfl⟩))
        refine bp_blk2 tokT rfl rfl ((Blk.new w 77 (tkA 2 k N ⟨#[]⟩)).alloc _) rfl ⟨by rw [← HME.out, if_pos (by omega), show ((j - k : Nat) : Int) = (j : Int) - (k : Int) from by omega]; rfl, (((Below.refl _ w).alloc (Nat.le_refl _) _).alloc (by simp) _)⟩
set_option maxHeartbeats 8000000 in
set_option maxRecDepth 100000 in
theorem rone_name (s : ByteArray) (hs : s.size ≤ 281474976710000) (k : Nat) (hk : k < s.size) (hl : Lx.letter (s[k]'hk) = true) (hd : Lx.digit (s[k]'hk) = false) (w : World) :
    Calls Tryz.prog 64 #[.string s, .int .i64 (k : Int)] w fun e w' => e = .returned (.tuple #[.agg (tkA (if Lx.words.contains (Lx.run (s.data.toList.drop k)) then 3 else 1) k 0 (Lx.S (Lx.run (s.data.toList.drop k)))), .int .i64 ((if (Lx.run (s.data.toList.drop k)).length ≤ 40 then (Lx.run (s.data.toList.drop k)).length else 0 : Nat) : Int)]) ∧ Below w.heap.size w w' := by
  have CL := Lib.hid rletter_any
  have CD := Lib.hid rdigit_any
  have C1 := Lib.hid fun w => rletter_any (s[k]'hk) w
  have C2 := Lib.hid fun w => rdigit_any (s[k]'hk) w
  rw [hl] at C1
  rw [hd] at C2
  have hkI : (k : Int) < (s.size : Int) := by omega
  have HWK : Hid (Lx.wordy (s[k]'hk) = true) := Lib.hid (by unfold Lx.wordy; rw [hl]; rfl)
  obtain ⟨R, hR⟩ : ∃ R, Lx.run (s.data.toList.drop k) = R := ⟨_, rfl⟩
  rw [hR]
  have hRw : R.all Lx.wordy = true := by rw [← hR]; exact Lx.run_all _
  have hin : Lx.inL (Lx.between Lx.words) R = Lx.words.contains R := Lx.inL_words R hRw
  rw [show Lx.between Lx.words = [32, 102, 110, 32, 112, 117, 98, 32, 115, 101, 99, 32, 111, 117, 116, 32, 108, 101, 116, 32, 118, 97, 114, 32, 105, 102, 32, 101, 108, 115, 101, 32, 102, 111, 114, 32, 109, 97, 120, 32, 114, 101, 116, 117, 114, 110, 32, 117, 51, 50, 32, 117, 56, 32, 109, 97, 115, 107, 32, 109, 117, 108, 104, 105, 32, 99, 97, 114, 114, 121, 32, 115, 101, 108, 101, 99, 116, 32, 119, 111, 114, 100, 32, 114, 111, 114, 32] from by decide] at hin
  obtain ⟨q, hq⟩ : ∃ q, Lx.words.contains R = q := ⟨_, rfl⟩
  obtain ⟨M, hM⟩ : ∃ M : Nat, (if R.length ≤ 40 then R.length else 0) = M := ⟨_, rfl⟩
  obtain ⟨T, hT⟩ : ∃ T, Lx.S R = T := ⟨_, rfl⟩
  have hRl : R.length ≤ s.size := by rw [← hR, Lib.size_eq]; have := Lx.run_le (s.data.toList.drop k); rw [List.length_drop] at this; omega
  have CI := Lib.hid fun w => rin_any ⟨([32, 102, 110, 32, 112, 117, 98, 32, 115, 101, 99, 32, 111, 117, 116, 32, 108, 101, 116, 32, 118, 97, 114, 32, 105, 102, 32, 101, 108, 115, 101, 32, 102, 111, 114, 32, 109, 97, 120, 32, 114, 101, 116, 117, 114, 110, 32, 117].append [51, 50, 32, 117, 56, 32, 109, 97, 115, 107, 32, 109, 117, 108, 104, 105, 32, 99, 97, 114, 114, 121, 32, 115, 101, 108, 101, 99, 116, 32, 119, 111, 114, 100, 32, 114, 111, 114, 32]).toArray⟩ T (by decide) (by rw [← hT, Lx.S_size]; omega) w
  rw [show (⟨([32, 102, 110, 32, 112, 117, 98, 32, 115, 101, 99, 32, 111, 117, 116, 32, 108, 101, 116, 32, 118, 97, 114, 32, 105, 102, 32, 101, 108, 115, 101, 32, 102, 111, 114, 32, 109, 97, 120, 32, 114, 101, 116, 117, 114, 110, 32, 117].append [51, 50, 32, 117, 56, 32, 109, 97, 115, 107, 32, 109, 117, 108, 104, 105, 32, 99, 97, 114, 114, 121, 32, 115, 101, 108, 101, 99, 116, 32, 119, 111, 114, 100, 32, 114, 111, 114, 32]).toArray⟩ : ByteArray).data.toList = [32, 102, 110, 32, 112, 117, 98, 32, 115, 101, 99, 32, 111, 117, 116, 32, 108, 101, 116, 32, 118, 97, 114, 32, 105, 102, 32, 101, 108, 115, 101, 32, 102, 111, 114, 32, 109, 97, 120, 32, 114, 101, 116, 117, 114, 110, 32, 117, 51, 50, 32, 117, 56, 32, 109, 97, 115, 107, 32, 109, 117, 108, 104, 105, 32, 99, 97, 114, 114, 121, 32, 115, 101, 108, 101, 99, 116, 32, 119, 111, 114, 100, 32, 114, 111, 114, 32] from rfl, show T.data.toList = R from by rw [← hT]; rfl, hin, hq] at CI
  rw [hq, hM, hT]
  have HRR := Lib.hid hR
  have HTT := Lib.hid hT
  have HMM := Lib.hid hM
  clear hR hRw hin hq hT hRl hM
  clear hl hd
  go_enter Tryz.func64, Tryz.ntmps64
  go_wp2_with (first
    | (go_at_call 126; refine (C1.out _).mono ?_; rintro e w2 ⟨rfl, rfl⟩)
    | (go_at_call 127; refine (C2.out _).mono ?_; rintro e w2 ⟨rfl, rfl⟩))
  go_loopw [7] (fun J wr => wr = (w.alloc (.cells #[.int .i64 0, .int .i64 0, .int .i64 0, .string ⟨#[]⟩] 77)).alloc (.cells #[.int .i64 0, .int .i64 (k : Int), .int .i64 0, .string ⟨#[]⟩] 77) ∧ ∃ j : Nat, k ≤ j ∧ j ≤ s.size ∧ J = .int .i64 (j : Int) ∧ Hid (Lx.Far s k j) ∧ (j = k → True)) (fun J _ => s.size - (intOf J).toNat)
  case atStart => exact ⟨rfl, k, Nat.le_refl _, by omega, rfl, Lib.hid (by unfold Lx.Far; simp), fun _ => trivial⟩
  case round =>
    obtain ⟨rfl, j, hkj, hj, rfl, HF, hjk⟩ := hrel
    have fin : Hid ((∀ c r, s.data.toList.drop j = c :: r → Lx.wordy c = false) → Lx.run (s.data.toList.drop k) = (s.data.toList.drop k).take (j - k)) := Lib.hid (fun he => Lx.take_run hkj (by rw [← Lib.size_eq]; exact hj) HF.out he)
    by_cases hlt : j < s.size
    · have hlt' : (j : Int) < (s.size : Int) := by omega
      have HG := Lib.hid (Lx.get s j hlt)
      have D1 := Lib.hid fun w => CL.out (s[j]'hlt) w
      have D2 := Lib.hid fun w => CD.out (s[j]'hlt) w
      cases hl : Lx.letter (s[j]'hlt) <;> cases hd : Lx.digit (s[j]'hlt)
      all_goals
        rw [hl] at D1
        rw [hd] at D2
        have HW : Hid (Lx.wordy (s[j]'hlt) = (Lx.letter (s[j]'hlt) || Lx.digit (s[j]'hlt))) := Lib.hid rfl
        rw [hl, hd] at HW
        clear hl hd
      · have HR := Lib.hid (fin.out (fun c r h => by rw [HG.out] at h; cases h; exact HW.out))
        have hjk2 : k < j := by
          rcases Nat.lt_or_ge k j with h | h
          · exact h
          · exfalso
            obtain rfl : j = k := by omega
            have h1 := HW.out; rw [HWK.out] at h1; cases h1
        have E := run_cut s k j (j : Int) rfl hkj hj
        have hext : s.extract k j = Lx.S (Lx.run (s.data.toList.drop k)) := by rw [Lx.S_ext, HR.out]
        have hrl : (Lx.run (s.data.toList.drop k)).length = j - k := by
          rw [HR.out, List.length_take, List.length_drop, ← Lib.size_eq]; omega
        rw [HRR.out] at hext hrl
        rw [HTT.out] at hext
        rw [hext] at E
        have hMe := HMM.out
        rw [hrl] at hMe
        have HME := Lib.hid hMe
        have hjkI : (k : Int) ≤ (j : Int) := by omega
        have tok1 : True := trivial
        clear fin hext hrl HR hMe
        cases q
        · by_cases h40 : (40 : Int) < (j : Int) - (k : Int)
          · go_wp2_with (first
              | (go_at_call 126; refine (D1.out _).mono ?_; rintro e w2 ⟨rfl, rfl⟩)
              | (go_at_call 127; have _t := tok1; refine (D2.out _).mono ?_; rintro e w2 ⟨rfl, rfl⟩; clear tok1)
              | (go_at_call 127; refine (C2.out _).mono ?_; rintro e w2 ⟨rfl, rfl⟩)
              | (go_at_call 130; refine (CI.out _).mono ?_; rintro e w2 ⟨rfl, rfl⟩))
            refine bp_blk2 tokT rfl rfl ((Blk.new w 77 (tkA 1 k 0 T)).alloc _) rfl ⟨by rw [← HME.out, if_neg (c := j - k ≤ 40) (by omega)]; rfl, (((Below.refl _ w).alloc (Nat.le_refl _) _).alloc (by simp) _)⟩
          · have h40' : ¬ (40 : Int) < (j : Int) - (k : Int) := h40
            go_wp2_with (first
              | (go_at_call 126; refine (D1.out _).mono ?_; rintro e w2 ⟨rfl, rfl⟩)
              | (go_at_call 127; have _t := tok1; refine (D2.out _).mono ?_; rintro e w2 ⟨rfl, rfl⟩; clear tok1)
              | (go_at_call 127; refine (C2.out _).mono ?_; rintro e w2 ⟨rfl, rfl⟩)
              | (go_at_call 130; refine (CI.out _).mono ?_; rintro e w2 ⟨rfl, rfl⟩))
            refine bp_blk2 tokT rfl rfl ((Blk.new w 77 (tkA 1 k 0 T)).alloc _) rfl ⟨by rw [← HME.out, if_pos (c := j - k ≤ 40) (by omega), show ((j - k : Nat) : Int) = (j : Int) - (k : Int) from by omega]; rfl, (((Below.refl _ w).alloc (Nat.le_refl _) _).alloc (by simp) _)⟩
        · by_cases h40 : (40 : Int) < (j : Int) - (k : Int)
          · go_wp2_with (first
              | (go_at_call 126; refine (D1.out _).mono ?_; rintro e w2 ⟨rfl, rfl⟩)
              | (go_at_call 127; have _t := tok1; refine (D2.out _).mono ?_; rintro e w2 ⟨rfl, rfl⟩; clear tok1)
              | (go_at_call 127; refine (C2.out _).mono ?_; rintro e w2 ⟨rfl, rfl⟩)
              | (go_at_call 130; refine (CI.out _).mono ?_; rintro e w2 ⟨rfl, rfl⟩))
            refine bp_blk2 tokT rfl rfl ((Blk.new w 77 (tkA 3 k 0 T)).alloc _) rfl ⟨by rw [← HME.out, if_neg (c := j - k ≤ 40) (by omega)]; rfl, (((Below.refl _ w).alloc (Nat.le_refl _) _).alloc (by simp) _)⟩
          · have h40' : ¬ (40 : Int) < (j : Int) - (k : Int) := h40
            go_wp2_with (first
              | (go_at_call 126; refine (D1.out _).mono ?_; rintro e w2 ⟨rfl, rfl⟩)
              | (go_at_call 127; have _t := tok1; refine (D2.out _).mono ?_; rintro e w2 ⟨rfl, rfl⟩; clear tok1)
              | (go_at_call 127; refine (C2.out _).mono ?_; rintro e w2 ⟨rfl, rfl⟩)
              | (go_at_call 130; refine (CI.out _).mono ?_; rintro e w2 ⟨rfl, rfl⟩))
            refine bp_blk2 tokT rfl rfl ((Blk.new w 77 (tkA 3 k 0 T)).alloc _) rfl ⟨by rw [← HME.out, if_pos (c := j - k ≤ 40) (by omega), show ((j - k : Nat) : Int) = (j : Int) - (k : Int) from by omega]; rfl, (((Below.refl _ w).alloc (Nat.le_refl _) _).alloc (by simp) _)⟩
      all_goals
        clear fin
        have HN := Lib.hid (show Lx.Far s k (j + 1) from Lx.run_on hkj HF.out HG.out HW.out)
        go_wp2_with (first
          | (go_at_call 126; refine (D1.out _).mono ?_; rintro e w2 ⟨rfl, rfl⟩)
          | (go_at_call 127; refine (D2.out _).mono ?_; rintro e w2 ⟨rfl, rfl⟩))
        exact ⟨⟨trivial, j + 1, by omega, by omega, by go_num, HN, fun h => absurd h (by omega)⟩, by simp [intOf]; omega⟩
    · have hge : ¬ (j : Int) < (s.size : Int) := by omega
      have HR := Lib.hid (fin.out (fun c r h => by rw [Lx.drop_nil s j (by omega)] at h; cases h))
      have hjk2 : k < j := by
        rcases Nat.lt_or_ge k j with h | h
        · exact h
        · exfalso
          obtain rfl : j = k := by omega
          exact absurd hk (by omega)
      have E := run_cut s k j (j : Int) rfl hkj hj
      have hext : s.extract k j = Lx.S (Lx.run (s.data.toList.drop k)) := by rw [Lx.S_ext, HR.out]
      have hrl : (Lx.run (s.data.toList.drop k)).length = j - k := by
        rw [HR.out, List.length_take, List.length_drop, ← Lib.size_eq]; omega
      rw [HRR.out] at hext hrl
      rw [HTT.out] at hext
      rw [hext] at E
      have hMe := HMM.out
      rw [hrl] at hMe
      have HME := Lib.hid hMe
      have hjkI : (k : Int) ≤ (j : Int) := by omega
      have tok1 : True := trivial
      clear fin hext hrl HR hMe
      cases q
      · by_cases h40 : (40 : Int) < (j : Int) - (k : Int)
        · go_wp2_with (first
            | (go_at_call 127; refine (C2.out _).mono ?_; rintro e w2 ⟨rfl, rfl⟩)
            | (go_at_call 130; refine (CI.out _).mono ?_; rintro e w2 ⟨rfl, rfl⟩))
          refine bp_blk2 tokT rfl rfl ((Blk.new w 77 (tkA 1 k 0 T)).alloc _) rfl ⟨by rw [← HME.out, if_neg (c := j - k ≤ 40) (by omega)]; rfl, (((Below.refl _ w).alloc (Nat.le_refl _) _).alloc (by simp) _)⟩
        · have h40' : ¬ (40 : Int) < (j : Int) - (k : Int) := h40
          go_wp2_with (first
            | (go_at_call 127; refine (C2.out _).mono ?_; rintro e w2 ⟨rfl, rfl⟩)
            | (go_at_call 130; refine (CI.out _).mono ?_; rintro e w2 ⟨rfl, rfl⟩))
          refine bp_blk2 tokT rfl rfl ((Blk.new w 77 (tkA 1 k 0 T)).alloc _) rfl ⟨by rw [← HME.out, if_pos (c := j - k ≤ 40) (by omega), show ((j - k : Nat) : Int) = (j : Int) - (k : Int) from by omega]; rfl, (((Below.refl _ w).alloc (Nat.le_refl _) _).alloc (by simp) _)⟩
      · by_cases h40 : (40 : Int) < (j : Int) - (k : Int)
        · go_wp2_with (first
            | (go_at_call 127; refine (C2.out _).mono ?_; rintro e w2 ⟨rfl, rfl⟩)
            | (go_at_call 130; refine (CI.out _).mono ?_; rintro e w2 ⟨rfl, rfl⟩))
          refine bp_blk2 tokT rfl rfl ((Blk.new w 77 (tkA 3 k 0 T)).alloc _) rfl ⟨by rw [← HME.out, if_neg (c := j - k ≤ 40) (by omega)]; rfl, (((Below.refl _ w).alloc (Nat.le_refl _) _).alloc (by simp) _)⟩
        · have h40' : ¬ (40 : Int) < (j : Int) - (k : Int) := h40
          go_wp2_with (first
            | (go_at_call 127; refine (C2.out _).mono ?_; rintro e w2 ⟨rfl, rfl⟩)
            | (go_at_call 130; refine (CI.out _).mono ?_; rintro e w2 ⟨rfl, rfl⟩))
          refine bp_blk2 tokT rfl rfl ((Blk.new w 77 (tkA 3 k 0 T)).alloc _) rfl ⟨by rw [← HME.out, if_pos (c := j - k ≤ 40) (by omega), show ((j - k : Nat) : Int) = (j : Int) - (k : Int) from by omega]; rfl, (((Below.refl _ w).alloc (Nat.le_refl _) _).alloc (by simp) _)⟩
end Go.Proofs.YtjfdcnggnldgdaaGreatDoor
end
section
set_option linter.unusedVariables false
set_option linter.unusedSimpArgs false
namespace Go.Proofs.YtjfdcnggnldgdaaGreatDoor

def Sx.sp (p : Int) : Prop := -1000000 ≤ p ∧ p ≤ 1000000
def Sx.sl (n : Nat) : Prop := n ≤ 281474976710656
mutual
/-- an expression whose positions and lists are small, however deep -/
def smE : Sx.E → Prop
  | .mk _ p _ _ ar => (Sx.sp p ∧ Sx.sl ar.length) ∧ smL ar
def smL : List Sx.E → Prop
  | [] => True
  | e :: es => smE e ∧ smL es
end
mutual
def smS : Sx.S → Prop
  | .mk _ p _ _ _ ar bs cs _ => (Sx.sp p ∧ Sx.sl ar.length ∧ Sx.sl bs.length ∧ Sx.sl cs.length) ∧ smL ar ∧ smSL bs ∧ smSL cs
def smSL : List Sx.S → Prop
  | [] => True
  | e :: es => smS e ∧ smSL es
end
def smP (x : Sx.Pa) : Prop := Sx.sp x.pos
def smF (x : Sx.F) : Prop := Sx.sp x.pos ∧ Sx.sl x.params.length ∧ (∀ y ∈ x.params, smP y) ∧ Sx.sl x.body.length ∧ smSL x.body
/-- tokens whose places are small -/
def Sx.Near (L : List Lx.Tok) : Prop := ∀ x ∈ L, x.pos ≤ 1000000
theorem Sx.sp_nat {n : Nat} (h : n ≤ 1000000) : Sx.sp (n : Int) := ⟨by omega, by omega⟩
theorem Sx.sp_zero : Sx.sp 0 := ⟨by decide, by decide⟩
theorem smE_mk {k p n : Int} {nm : List UInt8} {ar : List Sx.E} (hp : Sx.sp p) (hl : Sx.sl ar.length) (h : smL ar) : smE (.mk k p n nm ar) := by rw [smE]; exact ⟨⟨hp, hl⟩, h⟩
theorem smL_nil : smL [] := by rw [smL]; trivial
theorem smSL_nil : smSL [] := by rw [smSL]; trivial
theorem smL_one {e : Sx.E} (h : smE e) : smL [e] := by rw [smL]; exact ⟨h, smL_nil⟩
theorem smL_two {e f : Sx.E} (h : smE e) (g : smE f) : smL [e, f] := by rw [smL]; exact ⟨h, smL_one g⟩
theorem smL_cons {e : Sx.E} {l : List Sx.E} (h : smE e) (g : smL l) : smL (e :: l) := by rw [smL]; exact ⟨h, g⟩
theorem smSL_cons {e : Sx.S} {l : List Sx.S} (h : smS e) (g : smSL l) : smSL (e :: l) := by rw [smSL]; exact ⟨h, g⟩
theorem smE_no : smE Sx.noE := smE_mk Sx.sp_zero (by unfold Sx.sl; decide) smL_nil
theorem smE_arg {e : Sx.E} (h : smE e) : smL e.args ∧ Sx.sl e.args.length := by
  obtain ⟨k, p, n, nm, ar⟩ := e
  rw [smE] at h
  exact ⟨h.2, h.1.2⟩
theorem Sx.sl_le {n : Nat} (h : n ≤ 4294967296) : Sx.sl n := by unfold Sx.sl; omega
section
variable {L : List Lx.Tok} (hL : Sx.Near L)
include hL
theorem Sx.tk_near (σ : Sx.R) : (Sx.tk L σ).pos ≤ 1000000 := by
  unfold Sx.tk
  rw [List.getD_eq_getElem?_getD]
  cases h : L[σ.at']? with
  | none => exact Nat.zero_le _
  | some x => exact hL x (List.mem_of_getElem? h)
theorem Sx.some_near (k : Int) (σ : Sx.R) : (Sx.some L k σ).1.pos ≤ 1000000 := by
  unfold Sx.some
  split
  · exact Nat.zero_le _
  · split
    · exact Nat.zero_le _
    · exact Sx.tk_near hL σ
theorem Sx.sm_exprs (f : Nat) : f ≤ 4294967296 →
    (∀ t σ, smE (Sx.expr L f t σ).1) ∧ (∀ t m c x σ, smE x → smE (Sx.signs L f t m c x σ).1) ∧ (∀ σ, smE (Sx.unary L f σ).1) ∧ (∀ s σ, smE (Sx.word L f s σ).1) ∧
    (∀ n b σ, smL (Sx.many L f n b σ).1 ∧ (Sx.many L f n b σ).1.length ≤ f) ∧ (∀ (t : Lx.Tok) σ, t.pos ≤ 1000000 → smE (Sx.behind L f t σ).1) ∧ (∀ σ, smL (Sx.commas L f σ).1 ∧ (Sx.commas L f σ).1.length ≤ f) := by
  induction f with
  | zero =>
    intro _
    refine ⟨fun t σ => ?_, fun t m c x σ h => ?_, fun σ => ?_, fun s σ => ?_, fun n b σ => ?_, fun t σ h => ?_, fun σ => ?_⟩
    · rw [Sx.expr]; exact smE_no
    · rw [Sx.signs]; exact h
    · rw [Sx.unary]; exact smE_no
    · rw [Sx.word]; exact smE_no
    · rw [Sx.many]; exact ⟨smL_nil, Nat.le_refl _⟩
    · rw [Sx.behind]; exact smE_no
    · rw [Sx.commas]; exact ⟨smL_nil, Nat.le_refl _⟩
  | succ f ih =>
    intro hf
    obtain ⟨i1, i2, i3, i4, i5, i6, i7⟩ := ih (by omega)
    have hn := fun σ => Sx.sp_nat (Sx.tk_near hL σ)
    have l1 : ∀ x : Sx.E, Sx.sl [x].length := fun _ => Sx.sl_le (by simp)
    have l2 : ∀ x y : Sx.E, Sx.sl [x, y].length := fun _ _ => Sx.sl_le (by simp)
    refine ⟨fun t σ => ?_, fun t m c x σ h => ?_, fun σ => ?_, fun s σ => ?_, fun n b σ => ?_, fun t σ h => ?_, fun σ => ?_⟩
    · rw [Sx.expr]; exact i2 _ _ _ _ _ (i3 σ)
    · rw [Sx.signs]
      split
      · exact h
      · simp only []
        split
        · exact h
        · split
          · exact i2 _ _ _ _ _ (smE_mk (hn σ) (l1 _) (smL_one h))
          · exact i2 _ _ _ _ _ (smE_mk (hn σ) (l2 _ _) (smL_two h (i1 _ _)))
    · rw [Sx.unary]
      split
      · exact smE_no
      · simp only []
        split
        · exact i1 _ _
        · split
          · exact smE_mk (hn σ) (l1 _) (smL_one (i3 _))
          · exact i4 _ _
    · rw [Sx.word]
      simp only []
      split
      · have h5 := i5 (by assumption : List UInt8 × Int × Nat).2.2 true (Sx.nest L [40] { σ with at' := σ.at' + 1 })
        split
        · exact smE_mk (hn σ) (Sx.sl_le (by omega)) h5.1
        · exact smE_mk (hn σ) (Sx.sl_le (by omega)) h5.1
      · split
        · exact smE_mk (hn σ) (Sx.sl_le (by simp)) smL_nil
        · exact i6 _ _ (Sx.some_near hL 1 σ)
    · cases n with
      | zero => rw [Sx.many]; exact ⟨smL_nil, Nat.zero_le _⟩
      | succ n =>
        rw [Sx.many]
        simp only []
        have h5 := i5 n false (Sx.expr L f 0 (if b = true then σ else Sx.eat L [44] σ)).2
        exact ⟨smL_cons (i1 _ _) h5.1, by rw [List.length_cons]; omega⟩
    · have ht := Sx.sp_nat h
      rw [Sx.behind]
      simp only []
      split
      · split
        · exact smE_mk ht (Sx.sl_le (by simp)) smL_nil
        · have h7 := i7 (Sx.expr L f 0 (Sx.nest L [40] σ)).2
          exact smE_mk ht (Sx.sl_le (by rw [List.length_cons]; omega)) (smL_cons (i1 _ _) h7.1)
      · split
        · exact smE_mk ht (l1 _) (smL_one (i1 _ _))
        · exact smE_mk ht (Sx.sl_le (by simp)) smL_nil
    · rw [Sx.commas]
      split
      · simp only []
        have h7 := i7 (Sx.expr L f 0 (Sx.may L [44] σ).2).2
        exact ⟨smL_cons (i1 _ _) h7.1, by rw [List.length_cons]; omega⟩
      · exact ⟨smL_nil, Nat.zero_le _⟩
variable (hN : Sx.fuel L ≤ 4294967296)
include hN
theorem Sx.sm_ex (σ : Sx.R) : smE (Sx.ex L σ).1 := (Sx.sm_exprs hL _ hN).1 0 σ
theorem Sx.sm_value (l : List Sx.E) (σ : Sx.R) (h : smL l) (hl : l.length ≤ 4294967296) : smL (Sx.value L l σ).1 ∧ Sx.sl (Sx.value L l σ).1.length := by
  unfold Sx.value
  simp only []
  refine ⟨?_, by unfold Sx.sl; rw [List.length_append, List.length_singleton]; omega⟩
  have h1 := Sx.sm_ex hL hN σ
  clear hl
  induction l with
  | nil => exact smL_one h1
  | cons e l ih =>
    rw [smL] at h
    rw [List.cons_append]
    exact smL_cons h.1 (ih h.2)
theorem Sx.sm_behind (t : Lx.Tok) (σ : Sx.R) (h : t.pos ≤ 1000000) : smE (Sx.behind L (Sx.fuel L) t σ).1 := (Sx.sm_exprs hL _ hN).2.2.2.2.2.1 t σ h
omit hL hN in
theorem smS_mk {k p m : Int} {nm : List UInt8} {ty : Sx.Ty} {ar : List Sx.E} {bs cs : List Sx.S} {h : Bool} (hp : Sx.sp p) (ha : smL ar ∧ Sx.sl ar.length) (hb : smSL bs ∧ Sx.sl bs.length) (hc : smSL cs ∧ Sx.sl cs.length) : smS (.mk k p m nm ty ar bs cs h) := by
  rw [smS]; exact ⟨⟨hp, ha.2, hb.2, hc.2⟩, ha.1, hb.1, hc.1⟩
omit hL hN in
theorem smSL_no : smSL [] ∧ Sx.sl ([] : List Sx.S).length := ⟨smSL_nil, Sx.sl_le (by simp)⟩
omit hL hN in
theorem smL_no : smL [] ∧ Sx.sl ([] : List Sx.E).length := ⟨smL_nil, Sx.sl_le (by simp)⟩
omit hL hN in
theorem smL_ones {e : Sx.E} (h : smE e) : smL [e] ∧ Sx.sl [e].length := ⟨smL_one h, Sx.sl_le (by simp)⟩
omit hN in
theorem Sx.behind_args (f : Nat) (t : Lx.Tok) (σ : Sx.R) (hf : f ≤ 4294967296) (ht : t.pos ≤ 1000000) : (Sx.behind L f t σ).1.args.length ≤ 4294967296 := by
  cases f with
  | zero => rw [Sx.behind]; exact Nat.zero_le _
  | succ f =>
    rw [Sx.behind]
    simp only []
    split
    · split
      · exact Nat.zero_le _
      · have h7 := (Sx.sm_exprs hL f (by omega)).2.2.2.2.2.2 (Sx.expr L f 0 (Sx.nest L [40] σ)).2
        show (_ :: _ : List Sx.E).length ≤ _
        rw [List.length_cons]; omega
    · split
      · show (1 : Nat) ≤ _; omega
      · exact Nat.zero_le _
theorem Sx.sm_named (p : Int) (σ : Sx.R) (hp : Sx.sp p) : smS (Sx.named L p σ).1 := by
  unfold Sx.named
  simp only []
  have hs := Sx.some_near hL 1 σ
  split
  · exact smS_mk hp (smL_ones (Sx.sm_behind hL hN _ _ hs)) smSL_no smSL_no
  · split
    · refine smS_mk hp (Sx.sm_value hL hN _ _ (smE_arg (Sx.sm_behind hL hN _ _ hs)).1 ?_) smSL_no smSL_no
      exact Sx.behind_args hL _ _ _ hN hs
    · exact smS_mk hp (Sx.sm_value hL hN _ _ smL_nil (by simp)) smSL_no smSL_no
theorem Sx.sm_stmts (f : Nat) : f ≤ 4294967296 → (∀ σ, smSL (Sx.block L f σ).1 ∧ (Sx.block L f σ).1.length ≤ f) ∧ (∀ σ, smSL (Sx.stmts L f σ).1 ∧ (Sx.stmts L f σ).1.length ≤ f) ∧ (∀ σ, smS (Sx.stmt L f σ).1) := by
  induction f with
  | zero =>
    intro _
    refine ⟨fun σ => ?_, fun σ => ?_, fun σ => ?_⟩
    · rw [Sx.block]; exact ⟨smSL_nil, Nat.le_refl _⟩
    · rw [Sx.stmts]; exact ⟨smSL_nil, Nat.le_refl _⟩
    · rw [Sx.stmt]; exact smS_mk Sx.sp_zero smL_no smSL_no smSL_no
  | succ f ih =>
    intro hf
    obtain ⟨i1, i2, i3⟩ := ih (by omega)
    refine ⟨fun σ => ?_, fun σ => ?_, fun σ => ?_⟩
    · rw [Sx.block]
      have h := i2 (Sx.nest L [123] σ)
      exact ⟨h.1, by show (Sx.stmts L f (Sx.nest L [123] σ)).1.length ≤ _; omega⟩
    · rw [Sx.stmts]
      split
      · simp only []
        have h := i2 (Sx.stmt L f σ).2
        exact ⟨smSL_cons (i3 _) h.1, by rw [List.length_cons]; omega⟩
      · exact ⟨smSL_nil, Nat.zero_le _⟩
    · have hp := Sx.sp_nat (Sx.tk_near hL σ)
      have hb : ∀ σ, smSL (Sx.block L f σ).1 ∧ Sx.sl (Sx.block L f σ).1.length := fun σ => ⟨(i1 σ).1, Sx.sl_le (by have := (i1 σ).2; omega)⟩
      have hv : ∀ σ, smL (Sx.value L [] σ).1 ∧ Sx.sl (Sx.value L [] σ).1.length := fun σ => Sx.sm_value hL hN [] σ smL_nil (by simp)
      rw [Sx.stmt]
      simp only []
      split
      · exact smS_mk hp (hv _) smSL_no smSL_no
      split
      · exact smS_mk hp smL_no smSL_no smSL_no
      split
      · split
        · exact smS_mk hp (smL_ones (Sx.sm_ex hL hN _)) (hb _) (hb _)
        · exact smS_mk hp (smL_ones (Sx.sm_ex hL hN _)) (hb _) smSL_no
      split
      · exact smS_mk hp (smL_ones (Sx.sm_ex hL hN _)) (hb _) smSL_no
      split
      · exact smS_mk hp (hv _) smSL_no smSL_no
      · exact Sx.sm_named hL hN _ _ hp
omit hN in
theorem Sx.sm_param (σ : Sx.R) : smP (Sx.param L σ).1 := Sx.sp_nat (Sx.some_near hL 1 _)
omit hN in
theorem Sx.sm_params (f : Nat) : ∀ σ, (∀ y ∈ (Sx.params L f σ).1, smP y) ∧ (Sx.params L f σ).1.length ≤ f := by
  induction f with
  | zero => intro σ; rw [Sx.params]; exact ⟨fun y h => (by cases h), Nat.le_refl _⟩
  | succ f ih =>
    intro σ
    rw [Sx.params]
    split
    · simp only []
      have h := ih (Sx.param L (Sx.may L [44] σ).2).2
      refine ⟨fun y hy => ?_, by rw [List.length_cons]; omega⟩
      rcases List.mem_cons.1 hy with h1 | h1
      · rw [h1]; exact Sx.sm_param hL _
      · exact h.1 y h1
    · exact ⟨fun y h => (by cases h), Nat.zero_le _⟩
omit hN in
theorem Sx.sm_plist (σ : Sx.R) : (∀ y ∈ (Sx.plist L σ).1, smP y) ∧ (Sx.plist L σ).1.length ≤ Sx.fuel L + 1 := by
  unfold Sx.plist
  split
  · exact ⟨fun y h => (by cases h), Nat.zero_le _⟩
  · simp only []
    have h := Sx.sm_params hL (Sx.fuel L) (Sx.param L σ).2
    refine ⟨fun y hy => ?_, by rw [List.length_cons]; omega⟩
    rcases List.mem_cons.1 hy with h1 | h1
    · rw [h1]; exact Sx.sm_param hL _
    · exact h.1 y h1
theorem Sx.sm_function (σ : Sx.R) : smF (Sx.function L σ).1 := by
  unfold Sx.function
  simp only []
  have h1 := Sx.sm_plist hL (Sx.eat L [40] (Sx.some L 1 (Sx.eat L Sx.wFn σ)).2)
  have h2 := fun τ => (Sx.sm_stmts hL hN (Sx.fuel L) hN).1 τ
  have h3 : Sx.sl (Sx.plist L (Sx.eat L [40] (Sx.some L 1 (Sx.eat L Sx.wFn σ)).2)).1.length := by unfold Sx.sl; have := h1.2; omega
  exact ⟨Sx.sp_nat (Sx.some_near hL 1 _), h3, h1.1, Sx.sl_le (Nat.le_trans (h2 _).2 hN), (h2 _).1⟩
theorem Sx.sm_functions (f : Nat) : ∀ σ, (∀ x ∈ (Sx.functions L f σ).1, smF x) ∧ (Sx.functions L f σ).1.length ≤ f := by
  induction f with
  | zero => intro σ; rw [Sx.functions]; exact ⟨fun y h => (by cases h), Nat.le_refl _⟩
  | succ f ih =>
    intro σ
    rw [Sx.functions]
    split
    · simp only []
      have h := ih (Sx.function L σ).2
      refine ⟨fun y hy => ?_, by rw [List.length_cons]; omega⟩
      rcases List.mem_cons.1 hy with h1 | h1
      · rw [h1]; exact Sx.sm_function hL hN _
      · exact h.1 y h1
    · exact ⟨fun y h => (by cases h), Nat.zero_le _⟩
end
theorem Lx.lex_near {l : List UInt8} {ts : List Lx.Tok} (h : Lx.lex l = .ok ts) : Sx.Near ts := by
  unfold Lx.lex at h
  split at h
  · cases h
  · rename_i hb
    cases e : Lx.toks (l.length + 1) 0 l with
    | error q2 => rw [e] at h; cases h
    | ok us =>
      rw [e] at h
      cases h
      intro x hx
      rcases List.mem_append.1 hx with hx | hx
      · have := ((Lx.toks_where _ 0 l l us (Nat.zero_le _) rfl e).1 x hx).2.2.1
        omega
      · rw [List.mem_singleton.1 hx]
        show l.length ≤ 1000000
        omega
theorem Sx.parse_small {s : List UInt8} {fs : List Sx.F} (h : Sx.parse s = .ok fs) (hl : ∀ L, Lx.lex s = .ok L → L.length ≤ 65537) : (∀ x ∈ fs, smF x) ∧ Sx.sl fs.length := by
  unfold Sx.parse at h
  cases hx : Lx.lex s with
  | error e => rw [hx] at h; cases h
  | ok L =>
    rw [hx] at h
    simp only [] at h
    have hlen := hl L hx
    have hf : Sx.fuel L ≤ 4294967296 := by unfold Sx.fuel; omega
    have h1 := Sx.sm_functions (Lx.lex_near hx) hf (Sx.fuel L) Sx.start
    split at h
    · cases h
      exact ⟨h1.1, Sx.sl_le (Nat.le_trans h1.2 hf)⟩
    · cases h
end Go.Proofs.YtjfdcnggnldgdaaGreatDoor
end
section
namespace Go.Proofs.YtjfdcnggnldgdaaGreatDoor
open Go.ChangeShapes Go.WideShapes Go.ChangeAt Go.RowKit
set_option linter.unusedVariables false
set_option linter.unusedSimpArgs false

theorem cell_lt {w : World} {a : Addr} {u : Value} (h : w.cell? a = some u) : a.block < w.heap.size := by
  apply Nat.lt_of_not_le
  intro hge
  simp [World.cell?, Array.getElem?_eq_none hge] at h
/-- cells from an address on -/
def OnC (W : World) (a : Addr) (cs : List Value) : Prop := ∀ j u, cs[j]? = some u → W.cell? (a.add j) = some u
theorem OnC.kept {W W' : World} {a : Addr} {cs : List Value} (h : OnC W a cs) (hb : Below W.heap.size W W') : OnC W' a cs := fun j u hj => by
  have h1 := h j u hj
  rw [hb.cell (p := a.add j) (cell_lt h1)]
  exact h1
/-- a slice's elements -/
def SliceC {α : Type} (f : α → List Value) (sz : Nat) (W : World) (v : Value) (L : List α) : Prop :=
  ∃ (p : Option Addr) (cap : Nat), v = .slice p L.length cap ∧ ∀ k (hk : k < L.length), ∃ a, p = some a ∧ OnC W (a.add (k * sz)) (f L[k])
theorem SliceC.kept {α : Type} {f : α → List Value} {sz : Nat} {W W' : World} {v : Value} {L : List α} (h : SliceC f sz W v L) (hb : Below W.heap.size W W') : SliceC f sz W' v L := by
  obtain ⟨p, cap, rfl, hc⟩ := h
  refine ⟨p, cap, rfl, fun k hk => ?_⟩
  obtain ⟨a, rfl, hi⟩ := hc k hk
  exact ⟨a, rfl, hi.kept hb⟩
theorem flatC_get {α : Type} (f : α → List Value) (sz : Nat) (hf : ∀ x, (f x).length = sz) (L : List α) : ∀ k (hk : k < L.length) j u, (f L[k])[j]? = some u → (L.flatMap f)[k * sz + j]? = some u := by
  induction L with
  | nil => intro k hk; exact absurd hk (Nat.not_lt_zero _)
  | cons i L ih =>
    intro k hk j u hj
    have hj8 : j < sz := by
      apply Nat.lt_of_not_le
      intro hge
      rw [List.getElem?_eq_none (by rw [hf]; exact hge)] at hj
      cases hj
    rw [List.flatMap_cons]
    cases k with
    | zero => rw [List.getElem?_append_left (by rw [hf]; omega)]; simpa using hj
    | succ k =>
      rw [List.getElem?_append_right (by rw [hf, Nat.succ_mul]; omega)]
      have e : (k + 1) * sz + j - (f i).length = k * sz + j := by rw [hf, Nat.succ_mul]; omega
      rw [e]
      exact ih k (by simpa using hk) j u (by simpa using hj)
/-- an owned row is a slice of its elements -/
theorem sliceC_own {α : Type} {f : α → List Value} {sz : Nat} (hf : ∀ x, (f x).length = sz) {W : World} {base : Nat} {e : TypeId} {v : Value} {L : List α} (h : W.ownsRow base e sz v L.length (L.flatMap f)) : SliceC f sz W v L := by
  rcases h.2 with ⟨rfl, h0⟩ | ⟨g, cap, cur, rfl, hb, hg, hc, hm, hs, ht⟩
  · exact ⟨none, 0, by rw [h0], fun k hk => by omega⟩
  · refine ⟨some ⟨g, 0, none⟩, cap, rfl, fun k hk => ⟨_, rfl, fun j u hj => ?_⟩⟩
    have h1 := flatC_get f sz hf L k hk j u hj
    have hadd : (((⟨g, 0, none⟩ : Addr).add (k * sz)).add j) = ⟨g, k * sz + j, none⟩ := by
      rw [Go.Deep.add_add]
      unfold Addr.add
      split <;> simp_all
    rw [hadd]
    simp only [World.cell?, hg]
    rw [← ht] at h1
    have h2 : cur.toList[k * sz + j]? = some u := by
      rw [List.getElem?_take] at h1
      split at h1
      · exact h1
      · cases h1
    simpa using h2
/-- a token's cells -/
def tkC (x : Lx.Tok) : List Value := [.int .i64 x.kind, .int .i64 x.pos, .int .i64 x.num, .string (Lx.S x.text)]
theorem tkC_len (x : Lx.Tok) : (tkC x).length = 4 := rfl
theorem own_ge {W : World} {base : Nat} {e : TypeId} {size : Nat} {v : Value} {n : Nat} {xs : List Value} (h : W.ownsRow base e size v n xs) : ∀ j, v.ownBlock = some j → base ≤ j := by
  rcases h.2 with ⟨rfl, h0⟩ | ⟨g, cap, cur, rfl, hb, hg, hc, hm, hs, ht⟩
  · intro j hj; cases hj
  · intro j hj; cases hj; exact hb
theorem grown_below {A B : World} (h : Below A.heap.size A B) : A.grownBy B none := ⟨h.os, h.tape, h.output, h.size, fun k hk _ => h.block k hk⟩
theorem own_below {W W' : World} {base : Nat} {e : TypeId} {size : Nat} {v : Value} {n : Nat} {xs : List Value} (h : W.ownsRow base e size v n xs) (hb : Below W.heap.size W W') : W'.ownsRow base e size v n xs :=
  h.kept (row := none) (grown_below hb) (by cases hv : v.ownBlock <;> simp)
theorem own_setRow {W : World} {base : Nat} {e : TypeId} {size : Nat} {v : Value} {n : Nat} {xs : List Value} (h : W.ownsRow base e size v n xs) {b : Nat} (hb : b < base) (cs : Array Value) : (W.setRow b cs).ownsRow base e size v n xs :=
  ⟨h.1, h.2.imp id fun ⟨g, cap, cur, h1, h2, h3, h4⟩ => ⟨g, cap, cur, h1, h2, by rw [setRow_other _ _ _ _ (by omega)]; exact h3, h4⟩⟩
theorem cell4_new (w : World) (x : Lx.Tok) (t : TypeId) : ∀ j u, (tkC x)[j]? = some u → (w.alloc (.cells #[.int .i64 x.kind, .int .i64 x.pos, .int .i64 x.num, .string (Lx.S x.text)] t)).cell? ((⟨w.heap.size, 0, none⟩ : Addr).add j) = some u := by
  intro j u hj
  have hlt : j < 4 := by
    apply Nat.lt_of_not_le
    intro hge
    rw [List.getElem?_eq_none (by exact hge)] at hj
    cases hj
  rcases (by omega : j = 0 ∨ j = 1 ∨ j = 2 ∨ j = 3) with rfl | rfl | rfl | rfl <;> (simp [tkC] at hj; subst hj; simp [go_sem, Addr.add])
theorem Tryz.infoTok : (Tryz.prog.info? 77).map (fun i => (i.zero, i.size, i.bytes)) = some (some (.agg #[.int .i64 0, .int .i64 0, .int .i64 0, .string ⟨#[]⟩]), 4, 40) := by kernel_rfl
end Go.Proofs.YtjfdcnggnldgdaaGreatDoor
end
section
namespace Go.Proofs.YtjfdcnggnldgdaaGreatDoor
open Go.ChangeShapes Go.WideShapes Go.ChangeAt Go.RowKit
set_option linter.unusedVariables false
set_option linter.unusedSimpArgs false

theorem eqF_cons {d : Nat} {xs ys : Array Value} {w : World} {f : Field} {fs : List Field} {a b : Value} {r : Bool} (hn : f.name ≠ "_") (h1 : (part f.type xs f.offset).run Tryz.prog w = .ok a w) (h2 : (part f.type ys f.offset).run Tryz.prog w = .ok b w) (h3 : (Op.equalIn d f.type a b).run Tryz.prog w = .ok r w) :
    (Op.eqFields d xs ys (f :: fs)).run Tryz.prog w = if r then (Op.eqFields d xs ys fs).run Tryz.prog w else .ok false w := by
  rw [Op.eqFields]
  split
  · simp only [Sem.run_bind, h1, h2, h3, Result.andThen_ok]
    cases r <;> rfl
  · simp_all
theorem part_int {cs : Array Value} {k : Nat} {a : Int} (h : cs[k]? = some (.int .i64 a)) (w : World) : (part 3 cs k).run Tryz.prog w = .ok (.int .i64 a) w :=
  run_part_plain w (by kernel_rfl) h
theorem part_err {cs : Array Value} {k : Nat} {a : Int} (h : cs[k]? = some (.int .i64 a)) (w : World) : (part 25 cs k).run Tryz.prog w = .ok (.int .i64 a) w :=
  run_part_plain w (by kernel_rfl) h
set_option maxRecDepth 100000 in
theorem bad_eq (k p k' p' : Int) (w : World) : (Op.equalIn 10000 27 (.agg (bdA k p)) (.agg (bdA k' p'))).run Tryz.prog w = .ok (k == k' && p == p') w := by
  have hp : Tryz.prog.stoodInHeld 27 = false := by kernel_rfl
  have hu : Tryz.prog.underlying 27 = some (.struct (Tryz.prog.fieldsOf 27)) := by kernel_rfl
  have hf : ∃ f0 f1 : Field, (Tryz.prog.fieldsOf 27).toList = [f0, f1] ∧ (f0.name ≠ "_" ∧ f0.type = 25 ∧ f0.offset = 0) ∧ (f1.name ≠ "_" ∧ f1.type = 3 ∧ f1.offset = 1) :=
    ⟨_, _, rfl, ⟨by decide, rfl, rfl⟩, ⟨by decide, rfl, rfl⟩⟩
  obtain ⟨f0, f1, hl, ⟨n0, t0, o0⟩, ⟨n1, t1, o1⟩⟩ := hf
  rw [run_equalIn_struct w 9999 _ _ _ hu hp, hl]
  rw [eqF_cons n0 (by rw [t0, o0]; exact part_err rfl w) (by rw [t0, o0]; exact part_err rfl w) (by rw [t0]; exact run_equalIn_int w 9998 _ .i64 .i64 k k' Tryz.underlying25)]
  rw [eqF_cons n1 (by rw [t1, o1]; exact part_int rfl w) (by rw [t1, o1]; exact part_int rfl w) (by rw [t1]; exact run_equalIn_int w 9998 _ .i64 .i64 p p' Tryz.underlying3)]
  cases (k == k') <;> cases (p == p') <;> rfl
end Go.Proofs.YtjfdcnggnldgdaaGreatDoor
end
section
namespace Go.Proofs.YtjfdcnggnldgdaaGreatDoor
open Go.ChangeShapes Go.WideShapes Go.ChangeAt Go.RowKit
set_option linter.unusedVariables false
set_option linter.unusedSimpArgs false

/-- an answer of tokens, or an error and its place -/
def LexR (W : World) (r : Except (Int × Nat) (List Lx.Tok)) (v : Value) (e p : Int) : Prop :=
  match r with
  | .error (q, n) => v = .slice none 0 0 ∧ e = q ∧ p = n
  | .ok ts => e = 0 ∧ p = 0 ∧ SliceC tkC 4 W v ts
theorem LexR.kept {W W' : World} {r : Except (Int × Nat) (List Lx.Tok)} {v : Value} {e p : Int} (h : LexR W r v e p) (hb : Below W.heap.size W W') : LexR W' r v e p := by
  rcases r with ⟨q, n⟩ | ts
  · exact h
  · exact ⟨h.1, h.2.1, h.2.2.kept hb⟩
theorem bp_tmp_blk {a : Act} {w : World} {b n : Nat} {t : TypeId} {cs : Array Value} {fn : Func} {R : Ending → World → Prop} {p q : Tmp} (T : StructT t n) (hr : fn.results = #[.tmp q, .cell p t]) (hp : a.tmps.getD p undef = .pointer (some ⟨b, 0, none⟩)) (h : Blk w b t n cs) (hd : a.defers = []) (hR : R (.returned (.tuple #[a.tmps.getD q undef, .agg cs])) w) : bodyPost Tryz.prog fn R .ret a w := by
  obtain ⟨fs, hu⟩ := T.und
  have hp' : a.tmps[p]?.getD undef = .pointer (some ⟨b, 0, none⟩) := by simpa using hp
  refine bodyPost_ret ?_ hd hR
  simp [results, hr, hp', asAddr, run_loadVar_row w b _ _ _ _ _ h.at' hu rfl (by rw [h.size]; exact T.info)]
theorem Lx.lex_big (l : List UInt8) (h : 65536 < l.length) : Lx.lex l = .error (5, 0) := by unfold Lx.lex; rw [if_pos h]
theorem Lx.lex_Tk (l : List UInt8) (h : ¬ 65536 < l.length) : Lx.lex l = match Lx.Tk l.length l with | .error q => .error (9, q) | .ok ts => .ok (ts ++ [⟨0, l.length, 0, []⟩]) := by
  unfold Lx.lex Lx.Tk; rw [if_neg h, Nat.sub_self]
  cases Lx.toks (l.length + 1) 0 l <;> rfl
end Go.Proofs.YtjfdcnggnldgdaaGreatDoor
end
