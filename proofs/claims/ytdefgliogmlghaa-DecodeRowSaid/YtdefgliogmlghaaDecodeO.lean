/-
  What the document's own small functions of decode return: power, sign, text, half, Size.
-/
import Derived.Test.YtdefgliogmlghaaDecodeM
import Derived.Test.YtdefgliogmlghaaDecodeG
import Derived.Test.YtdefgliogmlghaaThumbX
import Derived.LoopTactic
import Derived.Deep.LoopGhost
import Derived.IntWalk
import Derived.Deep.RegionHeld3
namespace Go.Proofs.Ytdefgliogmlghaa
open Go.ChangeShapes Go.WideShapes Go.ChangeAt Go.RowKit
set_option linter.unusedVariables false

theorem pw_bd (k : Nat) (h : k ≤ 60) : 1 ≤ (2 : Int) ^ k ∧ (2 : Int) ^ k ≤ 1152921504606846976 := by
  rw [Wd.pow_cast]
  have h1 := Nat.two_pow_pos k
  have h2 : (2 : Nat) ^ k ≤ 2 ^ 60 := Nat.pow_le_pow_right (by decide) h
  omega
def Pw (k : Nat) (v : Int) : Prop := v = 2 ^ k
theorem Pw.next {k : Nat} {v : Int} (h : Pw k v) : Pw (k + 1) (v * 2) := by unfold Pw at *; rw [h, Int.pow_succ]
set_option maxHeartbeats 1000000 in
theorem power_any (n : Nat) (w : World) (hn : n ≤ 60) :
    Calls Try.prog 61 #[.int .i64 (n : Int)] w fun e w' => e = .returned (.int .i64 (2 ^ n)) ∧ w = w' := by
  go_enter Try.func61, Try.ntmps61
  go_wp2
  go_loop [3, 4] (fun p i => ∃ (k : Nat) (v : Int), k ≤ n ∧ 1 ≤ v ∧ v ≤ 1152921504606846976 ∧ i = .int .i64 (k : Int) ∧ p = .int .i64 v ∧ Pw k v) (fun _ i => n - (intOf i).toNat)
  case atStart => exact ⟨0, 1, Nat.zero_le _, by omega, by omega, rfl, rfl, rfl⟩
  case round =>
    obtain ⟨k, v, hk, v1, v2, rfl, rfl, hv⟩ := hrel
    have HV := Lib.hid hv
    clear hv
    by_cases hlt : k < n
    · have hb := pw_bd (k + 1) (by omega)
      have hp := HV.out.next
      have hq : 1 ≤ v * 2 ∧ v * 2 ≤ 1152921504606846976 := by unfold Pw at hp; rw [hp]; exact hb
      clear hb hp
      obtain ⟨hq1, hq2⟩ := hq
      go_wp2
      go_round
      case rel => exact ⟨k + 1, v * 2, by omega, hq1, hq2, by go_num, by go_num, HV.out.next⟩
      case measure => simp [intOf]; omega
    · go_wp2
      go_ret
      have ek : k = n := by omega
      exact ⟨ret_int (by have := HV.out; unfold Pw at this; rw [this, ek]), rfl⟩
set_option maxHeartbeats 1000000 in
theorem sign_any (x : Int) (n : Nat) (w : World) (hn : n ≤ 30) (h0 : 0 ≤ x) (h1 : x < 4294967296) :
    Calls Try.prog 60 #[.int .i64 x, .int .i64 (n : Int)] w fun e w' => e = .returned (.int .i64 (De.sgn x n)) ∧ w = w' := by
  go_enter Try.func60, Try.ntmps60
  go_wp2
  go_loop [5, 6] (fun p i => ∃ (k : Nat) (v : Int), k ≤ n ∧ 1 ≤ v ∧ v ≤ 1073741824 ∧ i = .int .i64 (k : Int) ∧ p = .int .i64 v ∧ Pw k v) (fun _ i => n - (intOf i).toNat)
  case atStart => exact ⟨0, 1, Nat.zero_le _, by omega, by omega, rfl, rfl, rfl⟩
  case round =>
    obtain ⟨k, v, hk, v1, v2, rfl, rfl, hv⟩ := hrel
    have HV := Lib.hid hv
    clear hv
    by_cases hlt : k < n
    · have hb : 1 ≤ (2 : Int) ^ (k + 1) ∧ (2 : Int) ^ (k + 1) ≤ 1073741824 := by
        rw [Wd.pow_cast]
        have q1 := Nat.two_pow_pos (k + 1)
        have q2 : (2 : Nat) ^ (k + 1) ≤ 2 ^ 30 := Nat.pow_le_pow_right (by decide) (by omega)
        omega
      have hp := HV.out.next
      have hq : 1 ≤ v * 2 ∧ v * 2 ≤ 1073741824 := by unfold Pw at hp; rw [hp]; exact hb
      clear hb hp
      obtain ⟨hq1, hq2⟩ := hq
      go_wp2
      go_round
      case rel => exact ⟨k + 1, v * 2, by omega, hq1, hq2, by go_num, by go_num, HV.out.next⟩
      case measure => simp [intOf]; omega
    · have ek : k = n := by omega
      have hs : De.sgn x n = if v ≤ x then x - 2 * v else x := by
        have := HV.out
        unfold Pw at this
        unfold De.sgn
        rw [this, ek]
      have HS := Lib.hid hs
      clear hs
      by_cases hx : v ≤ x
      · go_wp2
        go_ret
        exact ⟨ret_int (by rw [HS.out, if_pos hx]), rfl⟩
      · go_wp2
        go_ret
        exact ⟨ret_int (by rw [HS.out, if_neg (by omega)]), rfl⟩
theorem run_str1 (w : World) (c0 : Int) (t : TypeId) :
    Sem.run Try.prog (convert 116 9 (.slice (some ⟨w.heap.size, 0, none⟩) 1 1)) (w.alloc (.cells #[.int .u8 c0] t))
      = .ok (.string (strOfNums [c0])) (w.alloc (.cells #[.int .u8 c0] t)) := by
  refine run_convert_bytes_arg _ 116 5 Try.underlying116 Try.underlying5 w.heap.size 0 1 1 [c0] rfl ?_ 9 Try.underlying9
  intro i hi
  match i, hi with
  | 0, _ => simp
/-- what is written behind k rounds -/
def Tx (x k : Nat) (S : ByteArray) (m : Nat) : Prop := S = De.txt x k ∧ m = x / 2 ^ k
theorem Tx.next {x k m : Nat} {S : ByteArray} (h : Tx x k S m) : Tx x (k + 1) (strOfNums [48 + (m : Int) % 2] ++ S) (m / 2) := by
  obtain ⟨h1, h2⟩ := h
  refine ⟨?_, ?_⟩
  · rw [De.txt, h1, h2]
    have : (48 + ((x / 2 ^ k : Nat) : Int) % 2) = ((48 + x / 2 ^ k % 2 : Nat) : Int) := by omega
    rw [this]
  · rw [h2, Nat.pow_succ, Nat.div_div_eq_div_mul]
set_option maxHeartbeats 2000000 in
theorem text_any (x : Nat) (w : World) (hx : x < 65536) :
    Calls Try.prog 57 #[.int .i64 (x : Int)] w fun e w' => e = .returned (.string (De.txt x 16)) ∧ Below w.heap.size w w' := by
  go_enter Try.func57, Try.ntmps57
  go_wp2
  go_loopw [0, 3, 4] (fun a s i wr => Below w.heap.size w wr ∧ ∃ (k m : Nat) (S : ByteArray), k ≤ 16 ∧ m < 65536 ∧ S.size ≤ 16 ∧ a = .int .i64 (m : Int) ∧ s = .string S ∧ i = .int .i64 (k : Int) ∧ Tx x k S m) (fun _ _ i _ => 16 - (intOf i).toNat)
  case atStart => exact ⟨Below.refl _ _, 0, x, ⟨#[]⟩, by omega, by omega, by decide, rfl, rfl, rfl, ⟨rfl, by simp⟩⟩
  case round =>
    obtain ⟨hb, k, m, S, hk, hm, hS, rfl, rfl, rfl, hT⟩ := hrel
    have HT := Lib.hid hT
    clear hT
    by_cases hlt : k < 16
    · have hcat : ¬ 9223372036854775807 < (strOfNums [48 + (m : Int) % 2]).size + S.size := by rw [De.one_size]; omega
      have hr := run_str1
      go_wp2
      have hn := HT.out.next
      have hsz : (strOfNums [48 + (m : Int) % 2] ++ S).size ≤ 16 := by rw [hn.1, De.txt_size]; omega
      refine ⟨⟨hb.alloc hb.size _, k + 1, m / 2, _, by omega, by omega, hsz, ?_, rfl, by go_num, hn⟩, by simp [intOf]; omega⟩
      exact congrArg (Value.int .i64) (by omega)
    · go_wp2
      go_ret
      have ek : k = 16 := by omega
      refine ⟨?_, hb⟩
      have := HT.out.1
      rw [this, ek]
      rfl
theorem sy_below {W w1 w2 : World} (hb : Below w1.heap.size w1 w2) (h : Below W.heap.size W w1) : Below W.heap.size W w2 := h.trans (hb.mono h.size)
set_option maxHeartbeats 2000000 in
theorem rhalf_any (s : ByteArray) (k : Nat) (w : World) (hk : k ≤ 1) (hs : 2 * k + 2 ≤ s.size) (hm : s.size ≤ maxLen) :
    Calls Try.prog 32 #[.string s, .int .i64 (k : Int)] w fun e w' => e = .returned (.string (De.txt (De.half s k) 16)) ∧ Below w.heap.size w w' := by
  unfold maxLen at hm
  have g0 : 2 * k < s.size := by omega
  have g1 : 2 * k + 1 < s.size := by omega
  have i0 : 2 * (k : Int) < (s.size : Int) := by omega
  have i1 : 2 * (k : Int) + 1 < (s.size : Int) := by omega
  have n0 : (0 : Int) ≤ 2 * (k : Int) := by omega
  have n1 : (0 : Int) ≤ 2 * (k : Int) + 1 := by omega
  have t0 : (2 * (k : Int)).toNat = 2 * k := by omega
  have t1 : (2 * (k : Int) + 1).toNat = 2 * k + 1 := by omega
  have z0 : IntKind.i64.wrap (2 * (k : Int)) = 2 * (k : Int) := IntWalk.i64_in _ (by omega)
  have z1 : IntKind.i64.wrap (2 * (k : Int) + 1) = 2 * (k : Int) + 1 := IntWalk.i64_in _ (by omega)
  have l0 : s[2 * k].toNat < 256 := UInt8.toNat_lt _
  have l1 : s[2 * k + 1].toNat < 256 := UInt8.toNat_lt _
  have y0 : IntKind.i64.wrap ((s[2 * k].toNat : Int)) = (s[2 * k].toNat : Int) := IntWalk.i64_in _ (by omega)
  have y1 : IntKind.i64.wrap ((s[2 * k + 1].toNat : Int)) = (s[2 * k + 1].toNat : Int) := IntWalk.i64_in _ (by omega)
  have y2 : IntKind.i64.wrap (256 * (s[2 * k + 1].toNat : Int)) = 256 * (s[2 * k + 1].toNat : Int) := IntWalk.i64_in _ (by omega)
  have y3 : IntKind.i64.wrap ((s[2 * k].toNat : Int) + 256 * (s[2 * k + 1].toNat : Int)) = ((De.half s k : Nat) : Int) := by
    rw [IntWalk.i64_in _ (by omega)]
    unfold De.half
    rw [← De.byt_eq s (2 * k) g0, ← De.byt_eq s (2 * k + 1) g1]
    omega
  clear l0 l1
  go_enter Try.func32, Try.ntmps32
  go_wp2
  go_region_held3 (fun wx => Below w.heap.size w wx)
    (first | exact (Below.refl _ _).drew | exact sy_below (by assumption) (by assumption))
    (first | (go_at_call 57; refine (text_any _ _ (De.half_lt s k)).mono ?_; rintro e w1 ⟨rfl, hb1⟩))
  all_goals
    rename_i hH
    go_wp2
    go_ret
    exact ⟨rfl, hH⟩
end Go.Proofs.Ytdefgliogmlghaa
