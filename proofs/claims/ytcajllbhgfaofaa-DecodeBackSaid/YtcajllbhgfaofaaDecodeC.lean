/-
  What package decode's small functions return.
-/
import Derived.Test.YtcajllbhgfaofaaDecodeM
import Derived.Test.YtcajllbhgfaofaaThumbP
import Derived.Deep.QuietTactic
import Derived.BigQuiet
namespace Go.Proofs.Ytcajllbhgfaofaa
open Go.ChangeShapes Go.WideShapes Go.ChangeAt Go.RowKit
set_option linter.unusedVariables false

theorem half_or (a b : Nat) (ha : a < 256) (hb : b < 256) : bits .or .u32 ((a : Int) % 4294967296) ((b : Int) % 4294967296 * 256 % 4294967296) = ((a + 256 * b : Nat) : Int) := by
  have e1 : (a : Int) % 4294967296 = (a : Int) := by omega
  have e3 : (b : Int) % 4294967296 * 256 % 4294967296 = ((b * 2 ^ 8 : Nat) : Int) := by omega
  rw [e1, e3, De.or_u32 _ _ (by omega) (by omega), Th.or_add a b 8 8 hb (by omega)]
  omega
set_option maxHeartbeats 1000000 in
theorem half_any (s : ByteArray) (w : World) (hs : 2 ≤ s.size) (hm : s.size ≤ maxLen) :
    Calls Try.prog 42 #[.string s] w fun e w' => e = .returned (.int .u32 (De.half s 0 : Int)) ∧ ∃ n, w' = w.drewN n := by
  unfold maxLen at hm
  have g0 : 0 < s.size := by omega
  have g1 : 1 < s.size := by omega
  have g2 : (1 : Int) < (s.size : Int) := by omega
  go_enter Try.func42, Try.ntmps42
  go_wp2
  go_quiet (fail)
  go_wp2
  go_ret
  refine ⟨ret_int ?_, _, rfl⟩
  rw [De.byt_eq s 0 g0, De.byt_eq s 1 g1]
  exact half_or _ _ (De.byt_lt s 0) (De.byt_lt s 1)
theorem part_eq (x f c : Nat) (hx : x < 4294967296) (hf : f ≤ 31) (hc : c ≤ 16) : wrap64 (bits BinOp.and IntKind.u32 ((x : Int) / 2 ^ f) ((2 ^ c - 1) % 4294967296)) = (De.pt x f c : Int) := by
  have hp : (2 : Nat) ^ c ≤ 2 ^ 16 := Nat.pow_le_pow_right (by decide) hc
  have hq := Nat.two_pow_pos c
  have hd := Nat.div_le_self x (2 ^ f)
  have e1 : (x : Int) / 2 ^ f = ((x / 2 ^ f : Nat) : Int) := by rw [Wd.pow_cast]; rfl
  have e2 : ((2 : Int) ^ c - 1) % 4294967296 = ((2 ^ c - 1 : Nat) : Int) := by rw [Wd.pow_cast]; omega
  have hm := Nat.mod_le (x / 2 ^ f) (2 ^ c)
  rw [e1, e2, De.and_u32 _ _ (by omega) (by omega), Nat.and_two_pow_sub_one_eq_mod, Wd.wrap64_in _ (by omega) (by omega)]
  rfl
set_option maxHeartbeats 1000000 in
theorem part_any (x f c : Nat) (w : World) (hx : x < 4294967296) (hf : f ≤ 31) (hc : c ≤ 16) :
    Calls Try.prog 55 #[.int .u32 (x : Int), .int .i64 (f : Int), .int .i64 (c : Int)] w fun e w' => e = .returned (.int .i64 (De.pt x f c : Int)) ∧ ∃ n, w' = w.drewN n := by
  go_enter Try.func55, Try.ntmps55
  go_wp2
  go_quiet (fail)
  go_wp2
  go_ret
  exact ⟨ret_int (part_eq x f c hx hf hc), _, rfl⟩
theorem part_int (x : Nat) (f c : Int) (w : World) (hx : x < 4294967296) (hf0 : 0 ≤ f) (hf : f ≤ 31) (hc0 : 0 ≤ c) (hc : c ≤ 16) :
    Calls Try.prog 55 #[.int .u32 (x : Int), .int .i64 f, .int .i64 c] w fun e w' => e = .returned (.int .i64 (De.pt x f.toNat c.toNat : Int)) ∧ ∃ n, w' = w.drewN n := by
  obtain ⟨f, rfl⟩ := Int.eq_ofNat_of_zero_le hf0
  obtain ⟨c, rfl⟩ := Int.eq_ofNat_of_zero_le hc0
  exact part_any x f c w hx (by omega) (by omega)
theorem alike_any (a b : Nat) (w : World) (ha : a < 2) (hb : b < 2) :
    Calls Try.prog 65 #[.int .i64 (a : Int), .int .i64 (b : Int)] w fun e w' => e = .returned (.int .i64 (De.alike a b : Int)) ∧ w = w' := by
  go_enter Try.func65, Try.ntmps65
  go_wp2
  go_ret
  refine ⟨ret_int ?_, rfl⟩
  have ha' : a = 0 ∨ a = 1 := by omega
  have hb' : b = 0 ∨ b = 1 := by omega
  rcases ha' with rfl | rfl <;> rcases hb' with rfl | rfl <;> rfl
theorem signed_lt (n c : Nat) (h0 : 1 ≤ c) (hc : c ≤ 31) (h : ((n : Int) / 2 ^ (c - 1) == 0) = true) : (n : Int) = De.signed n c := by
  have e : (n : Int) / 2 ^ (c - 1) = ((n / 2 ^ (c - 1) : Nat) : Int) := by rw [Wd.pow_cast]; rfl
  have h0' : (n : Int) / 2 ^ (c - 1) = 0 := eq_of_beq h
  rw [e] at h0'
  have h' : n / 2 ^ (c - 1) = 0 := Int.ofNat_inj.1 h0'
  have hp := Nat.two_pow_pos (c - 1)
  have : n < 2 ^ (c - 1) := by
    rcases Nat.div_eq_zero_iff.1 h' with g | g
    · omega
    · exact g
  unfold De.signed; rw [if_pos this]
theorem signed_ge (n c : Nat) (hn : n < 4294967296) (h0 : 1 ≤ c) (hc : c ≤ 31) (h : ((n : Int) / 2 ^ (c - 1) == 0) = false) : wrap64 ((n : Int) - wrap64 (2 ^ c)) = De.signed n c := by
  have e : (n : Int) / 2 ^ (c - 1) = ((n / 2 ^ (c - 1) : Nat) : Int) := by rw [Wd.pow_cast]; rfl
  have h' : ¬ n / 2 ^ (c - 1) = 0 := fun g => by rw [e, g] at h; exact absurd h (by decide)
  have hp : (2 : Nat) ^ c ≤ 2 ^ 31 := Nat.pow_le_pow_right (by decide) hc
  have hz := Nat.two_pow_pos c
  have : ¬ n < 2 ^ (c - 1) := fun g => h' (Nat.div_eq_of_lt g)
  unfold De.signed; rw [if_neg this, Wd.pow_cast]
  clear h e h' this
  generalize 2 ^ c = p at *
  rw [Wd.wrap64_in (p : Int) (by omega) (by omega), Wd.wrap64_in _ (by omega) (by omega)]
theorem signed_any (n c : Nat) (w : World) (hn : n < 4294967296) (h0 : 1 ≤ c) (hc : c ≤ 31) :
    Calls Try.prog 64 #[.int .i64 (n : Int), .int .i64 (c : Int)] w fun e w' => e = .returned (.int .i64 (De.signed n c)) ∧ w = w' := by
  go_enter Try.func64, Try.ntmps64
  go_wp2
  · go_ret
    exact ⟨ret_int (signed_lt n c h0 hc (by assumption)), rfl⟩
  · go_ret
    exact ⟨ret_int (signed_ge n c hn h0 hc (by assumption)), rfl⟩
theorem half_int (s : ByteArray) (h : Int) (w : World) (hh : Hid ((De.half s 0 : Int) = h)) (hs : 2 ≤ s.size) (hm : s.size ≤ maxLen) :
    Calls Try.prog 42 #[.string s] w fun e w' => e = .returned (.int .u32 h) ∧ ∃ n, w' = w.drewN n := by
  have := hh.out
  subst this
  exact half_any s w hs hm
set_option maxHeartbeats 1000000 in
set_option maxRecDepth 100000 in
theorem size_s (s : ByteArray) (w : World) (hm : s.size ≤ maxLen) :
    Calls Try.prog 23 #[.string s] w fun e w' => e = .returned (.int .i64 (De.size s : Int)) ∧ ∃ n, w' = w.drewN n := by
  by_cases hs : s.size < 2
  · have e : De.size s = 0 := if_pos hs
    rw [e]
    unfold maxLen at hm
    go_enter Try.func23, Try.ntmps23
    go_wp2
    go_ret
    exact ⟨rfl, 0, rfl⟩
  · have hm' := Lib.hid hm
    unfold maxLen at hm
    obtain ⟨h, hh⟩ : ∃ h : Int, (De.half s 0 : Int) = h := ⟨_, rfl⟩
    by_cases hl : De.half s 0 < 59392
    · have e : De.size s = 2 := by unfold De.size; rw [if_neg hs, if_pos hl]
      rw [e]
      have hl' : h < 59392 := by omega
      have HH := Lib.hid hh
      clear e hl hh
      go_enter Try.func23, Try.ntmps23
      go_wp2_with (go_at_call 42; refine (half_int _ _ _ HH (by omega) hm'.out).mono ?_; rintro e w' ⟨rfl, n, rfl⟩)
      go_ret
      exact ⟨rfl, _, rfl⟩
    · have e : De.size s = 4 := by unfold De.size; rw [if_neg hs, if_neg hl]
      rw [e]
      have hl' : ¬ h < 59392 := by omega
      have HH := Lib.hid hh
      clear e hl hh
      go_enter Try.func23, Try.ntmps23
      go_wp2_with (go_at_call 42; refine (half_int _ _ _ HH (by omega) hm'.out).mono ?_; rintro e w' ⟨rfl, n, rfl⟩)
      go_ret
      exact ⟨rfl, _, rfl⟩
end Go.Proofs.Ytcajllbhgfaofaa
