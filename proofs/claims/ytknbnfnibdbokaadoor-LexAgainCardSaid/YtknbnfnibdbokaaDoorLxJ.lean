/-
  What the document's in and sign return (layer 11).
-/
import Derived.Laws.Strings2
import Derived.Test.YtknbnfnibdbokaaDoorLxI
namespace Go.Proofs.YtknbnfnibdbokaaDoor
open Go.ChangeShapes Go.WideShapes Go.ChangeAt Go.RowKit
set_option linter.unusedVariables false
set_option linter.unusedSimpArgs false

theorem run_cut (s : ByteArray) (a b : Nat) (j : Int) (hj : j = (b : Int)) (h1 : a ≤ b) (h2 : b ≤ s.size) (w : World) :
    (Instr.slice 9 (.string s) (some (.int .i64 (a : Int))) (some (.int .i64 j)) none).run Tryd.prog w = .ok (.string (s.extract a b)) w := by
  subst hj
  exact run_slice_string (P := Tryd.prog) w 9 s .i64 .i64 (a : Int) (b : Int) Tryd.underlying9 (by omega) (by omega) (by omega)
theorem Lx.app_list (a b : ByteArray) : (a ++ b).data.toList = a.data.toList ++ b.data.toList := by
  rw [ByteArray.data_append, Array.toList_append]
theorem Lx.inL_some {L t : List UInt8} {k : Nat} (h : (L.drop k).take (t.length + 2) = 32 :: t ++ [32]) : Lx.inL L t = true := by
  unfold Lx.inL
  rw [List.any_eq_true]
  refine ⟨k, ?_, decide_eq_true h⟩
  rw [List.mem_range]
  apply Decidable.byContradiction
  intro hk
  rw [List.drop_of_length_le (by omega)] at h
  simp at h
theorem Lx.inL_none {L t : List UInt8} (h : ∀ k, (L.drop k).take (t.length + 2) ≠ 32 :: t ++ [32]) : Lx.inL L t = false := by
  unfold Lx.inL
  rw [List.any_eq_false]
  intro k _
  simpa using h k
set_option maxHeartbeats 8000000 in
theorem rin_any (L s : ByteArray) (hL : L.size ≤ 1000) (hs : s.size ≤ 281474976710000) (w : World) :
    Calls Tryd.prog 30 #[.string L, .string s] w fun e w' => e = .returned (.bool (Lx.inL L.data.toList s.data.toList)) ∧ w' = w := by
  go_enter Tryd.func30, Tryd.ntmps30
  go_wp2
  obtain ⟨t, ht⟩ : ∃ t : ByteArray, (({ data := #[32] } : ByteArray) ++ s ++ { data := #[32] }) = t := ⟨_, rfl⟩
  have hl : t.data.toList = 32 :: s.data.toList ++ [32] := by rw [← ht, Lx.app_list, Lx.app_list]; rfl
  have hz : t.size = s.data.toList.length + 2 := by rw [Lib.size_eq, hl]; simp
  have hzs : t.size = s.size + 2 := by rw [hz, Lib.size_eq]
  rw [ht]
  have HL := Lib.hid hl
  have HZ := Lib.hid hz
  have htz : t.size ≤ 281474976710656 := by omega
  clear ht hl hz hzs
  go_loopw [6] (fun K wr => wr = w ∧ ∃ k : Nat, k ≤ L.size + 1 ∧ K = .int .i64 (k : Int) ∧ Hid (∀ j, j < k → (L.data.toList.drop j).take (s.data.toList.length + 2) ≠ 32 :: s.data.toList ++ [32])) (fun K _ => L.size + 2 - (intOf K).toNat)
  case atStart => exact ⟨rfl, 0, Nat.zero_le _, rfl, Lib.hid (fun j hj => absurd hj (Nat.not_lt_zero _))⟩
  case round =>
    obtain ⟨rfl, k, hk, rfl, HK⟩ := hrel
    by_cases hlt : (k : Int) + (t.size : Int) ≤ (L.size : Int)
    · have hlt2 : k + t.size ≤ L.size := by omega
      have hE : (L.extract k (k + t.size)).toList = (L.data.toList.drop k).take (s.data.toList.length + 2) := by
        rw [Lib.toList_data, Lib.extract_data, show k + t.size - k = t.size from by omega, HZ.out]
      have E := run_cut L k (k + t.size) ((k : Int) + (t.size : Int)) (by omega) (by omega) hlt2
      cases hq : ((L.extract k (k + t.size)).toList == t.toList)
      · have HN : Hid ((L.data.toList.drop k).take (s.data.toList.length + 2) ≠ 32 :: s.data.toList ++ [32]) := Lib.hid (fun h => by
          rw [hE, h, Lib.toList_data, HL.out] at hq
          simp at hq)
        clear hE
        go_wp2
        exact ⟨⟨trivial, k + 1, by omega, by go_num, Lib.hid (fun j hj => by
          rcases Nat.lt_or_ge j k with h | h
          · exact HK.out j h
          · obtain rfl : j = k := by omega
            exact HN.out)⟩, by simp [intOf]; omega⟩
      · have HN : Hid (Lx.inL L.data.toList s.data.toList = true) := Lib.hid (Lx.inL_some (k := k) (by
          have h := eq_of_beq hq
          rw [hE, Lib.toList_data, HL.out] at h
          exact h))
        clear hE
        go_wp2
        go_ret
        exact ⟨ret_bool' HN.out.symm, rfl⟩
    · have HN : Hid (Lx.inL L.data.toList s.data.toList = false) := Lib.hid (Lx.inL_none (fun j h => by
        rcases Nat.lt_or_ge j k with h2 | h2
        · exact HK.out j h2 h
        · have h3 := congrArg List.length h
          have h4 := Lib.size_eq L
          have h5 := HZ.out
          simp only [List.length_take, List.length_drop, List.length_append, List.length_cons, List.length_nil] at h3
          omega))
      go_wp2
      go_ret
      exact ⟨ret_bool' HN.out.symm, rfl⟩
set_option maxHeartbeats 8000000 in
theorem rsign_any (s : ByteArray) (hs : s.size ≤ 281474976710000) (k : Nat) (hk : k < s.size) (hb : (s[k]'hk) ≠ 32) (w : World) :
    Calls Tryd.prog 28 #[.string s, .int .i64 (k : Int)] w fun e w' => e = .returned (.string (Lx.S ((s.data.toList.drop k).take (Lx.sign (s.data.toList.drop k))))) ∧ w' = w := by
  have hg := Lx.get s k hk
  have h1e : s.extract k (k + 1) = Lx.S [s[k]] := by rw [Lx.S_ext, hg, show k + 1 - k = 1 from by omega]; rfl
  have hkI : (k : Int) < (s.size : Int) := by omega
  have E1 := run_cut s k (k + 1) ((k : Int) + 1) (by omega) (by omega) (by omega)
  have C1 := Lib.hid fun w => rin_any ⟨#[32, 40, 32, 41, 32, 123, 32, 125, 32, 91, 32, 93, 32, 44, 32, 59, 32, 58, 32, 61, 32, 43, 32, 45, 32, 42, 32, 38, 32, 124, 32, 94, 32, 126, 32, 33, 32, 60, 32, 62, 32]⟩ (s.extract k (k + 1)) (by decide) (by rw [h1e, Lx.S_size]; simp) w
  have hin1 : Lx.inL [32, 40, 32, 41, 32, 123, 32, 125, 32, 91, 32, 93, 32, 44, 32, 59, 32, 58, 32, 61, 32, 43, 32, 45, 32, 42, 32, 38, 32, 124, 32, 94, 32, 126, 32, 33, 32, 60, 32, 62, 32] [s[k]] = Lx.ones.contains s[k] := by
    have h := Lx.inL_one s[k] hb
    rwa [show Lx.between Lx.onesL = [32, 40, 32, 41, 32, 123, 32, 125, 32, 91, 32, 93, 32, 44, 32, 59, 32, 58, 32, 61, 32, 43, 32, 45, 32, 42, 32, 38, 32, 124, 32, 94, 32, 126, 32, 33, 32, 60, 32, 62, 32] from by decide] at h
  rw [show (s.extract k (k + 1)).data.toList = [s[k]] from by rw [h1e]; rfl, show (⟨#[32, 40, 32, 41, 32, 123, 32, 125, 32, 91, 32, 93, 32, 44, 32, 59, 32, 58, 32, 61, 32, 43, 32, 45, 32, 42, 32, 38, 32, 124, 32, 94, 32, 126, 32, 33, 32, 60, 32, 62, 32]⟩ : ByteArray).data.toList = [32, 40, 32, 41, 32, 123, 32, 125, 32, 91, 32, 93, 32, 44, 32, 59, 32, 58, 32, 61, 32, 43, 32, 45, 32, 42, 32, 38, 32, 124, 32, 94, 32, 126, 32, 33, 32, 60, 32, 62, 32] from rfl, hin1] at C1
  have H1E := Lib.hid h1e
  clear h1e hin1
  by_cases h2 : k + 1 < s.size
  · have hg2 := Lx.get s (k + 1) h2
    have h2I : (k : Int) + 2 ≤ (s.size : Int) := by omega
    have tok1 : True := trivial
    have E2 := run_cut s k (k + 2) ((k : Int) + 2) (by omega) (by omega) (by omega)
    have h2e : s.extract k (k + 2) = Lx.S [s[k], s[k + 1]] := by rw [Lx.S_ext, hg, hg2, show k + 2 - k = 2 from by omega]; rfl
    have C2 := Lib.hid fun w => rin_any ⟨#[32, 60, 60, 32, 62, 62, 32, 61, 61, 32, 33, 61, 32, 60, 61, 32, 62, 61, 32]⟩ (s.extract k (k + 2)) (by decide) (by rw [h2e, Lx.S_size]; simp) w
    have hin2 : Lx.inL [32, 60, 60, 32, 62, 62, 32, 61, 61, 32, 33, 61, 32, 60, 61, 32, 62, 61, 32] [s[k], s[k + 1]] = Lx.twos.contains (s[k], s[k + 1]) := by
      have h := Lx.inL_two s[k] s[k + 1] hb
      rwa [show Lx.between Lx.twosL = [32, 60, 60, 32, 62, 62, 32, 61, 61, 32, 33, 61, 32, 60, 61, 32, 62, 61, 32] from by decide] at h
    rw [show (s.extract k (k + 2)).data.toList = [s[k], s[k + 1]] from by rw [h2e]; rfl, show (⟨#[32, 60, 60, 32, 62, 62, 32, 61, 61, 32, 33, 61, 32, 60, 61, 32, 62, 61, 32]⟩ : ByteArray).data.toList = [32, 60, 60, 32, 62, 62, 32, 61, 61, 32, 33, 61, 32, 60, 61, 32, 62, 61, 32] from rfl, hin2] at C2
    have H2E := Lib.hid h2e
    have HX : Hid ((s.data.toList.drop k).take (Lx.sign (s.data.toList.drop k)) = if Lx.twos.contains (s[k], s[k + 1]) then [s[k], s[k + 1]] else if Lx.ones.contains s[k] then [s[k]] else []) := Lib.hid (by
      rw [hg, hg2, Lx.sign]
      split
      · rfl
      · split <;> rfl)
    clear h2e hin2 hg hg2 hb
    cases q2 : Lx.twos.contains (s[k], s[k + 1])
    · rw [q2] at C2 HX
      rw [if_neg (by decide)] at HX
      cases q1 : Lx.ones.contains s[k]
      · rw [q1] at C1 HX
        rw [if_neg (by decide)] at HX
        clear q1 q2
        go_enter Tryd.func28, Tryd.ntmps28
        go_wp2_with (first
          | (go_at_call 30; have _t := tok1; refine (C2.out _).mono ?_; rintro e w2 ⟨rfl, rfl⟩; clear tok1)
          | (go_at_call 30; refine (C1.out _).mono ?_; rintro e w2 ⟨rfl, rfl⟩))
        go_ret
        exact ⟨by rw [HX.out]; rfl, rfl⟩
      · rw [q1] at C1 HX
        rw [if_pos rfl] at HX
        clear q1 q2
        go_enter Tryd.func28, Tryd.ntmps28
        go_wp2_with (first
          | (go_at_call 30; have _t := tok1; refine (C2.out _).mono ?_; rintro e w2 ⟨rfl, rfl⟩; clear tok1)
          | (go_at_call 30; refine (C1.out _).mono ?_; rintro e w2 ⟨rfl, rfl⟩))
        go_ret
        exact ⟨by rw [HX.out, ← H1E.out]; rfl, rfl⟩
    · rw [q2] at C2 HX
      rw [if_pos rfl] at HX
      clear q2
      go_enter Tryd.func28, Tryd.ntmps28
      go_wp2_with (first
        | (go_at_call 30; have _t := tok1; refine (C2.out _).mono ?_; rintro e w2 ⟨rfl, rfl⟩; clear tok1)
        | (go_at_call 30; refine (C1.out _).mono ?_; rintro e w2 ⟨rfl, rfl⟩))
      go_ret
      exact ⟨by rw [HX.out, ← H2E.out]; rfl, rfl⟩
  · have h2I : ¬ (k : Int) + 2 ≤ (s.size : Int) := by omega
    have hg2 := Lx.drop_nil s (k + 1) (by omega)
    have HX : Hid ((s.data.toList.drop k).take (Lx.sign (s.data.toList.drop k)) = if Lx.ones.contains s[k] then [s[k]] else []) := Lib.hid (by
      rw [hg, hg2, Lx.sign]
      split <;> rfl)
    clear hg hg2 hb
    cases q1 : Lx.ones.contains s[k]
    · rw [q1] at C1 HX
      rw [if_neg (by decide)] at HX
      clear q1
      go_enter Tryd.func28, Tryd.ntmps28
      go_wp2_with (first
        | (go_at_call 30; refine (C1.out _).mono ?_; rintro e w2 ⟨rfl, rfl⟩))
      go_ret
      exact ⟨by rw [HX.out]; rfl, rfl⟩
    · rw [q1] at C1 HX
      rw [if_pos rfl] at HX
      clear q1
      go_enter Tryd.func28, Tryd.ntmps28
      go_wp2_with (first
        | (go_at_call 30; refine (C1.out _).mono ?_; rintro e w2 ⟨rfl, rfl⟩))
      go_ret
      exact ⟨by rw [HX.out, ← H1E.out]; rfl, rfl⟩
end Go.Proofs.YtknbnfnibdbokaaDoor
