/-
What package decode's small functions return.
What package decode's there returns.
What package decode's readBranch and read return.
-/
import Derived.Test.YtplfpaffjaldoaaDecodeM
import Derived.Test.YtplfpaffjaldoaaThumbP
import Derived.Deep.QuietTactic
import Derived.BigQuiet
import Derived.Test.YtplfpaffjaldoaaThumbC
import Derived.IntWalk
section
namespace Go.Proofs.Ytplfpaffjaldoaa
open Go.ChangeShapes Go.WideShapes Go.ChangeAt Go.RowKit
set_option linter.unusedVariables false

theorem half_or (a b : Nat) (ha : a < 256) (hb : b < 256) : bits .or .u32 ((a : Int) % 4294967296) ((b : Int) % 4294967296 * 256 % 4294967296) = ((a + 256 * b : Nat) : Int) := by
  have e1 : (a : Int) % 4294967296 = (a : Int) := by omega
  have e3 : (b : Int) % 4294967296 * 256 % 4294967296 = ((b * 2 ^ 8 : Nat) : Int) := by omega
  rw [e1, e3, De.or_u32 _ _ (by omega) (by omega), Th.or_add a b 8 8 hb (by omega)]
  omega
set_option maxHeartbeats 1000000 in
theorem half_any (s : ByteArray) (w : World) (hs : 2 ≤ s.size) (hm : s.size ≤ maxLen) :
    Calls Try.prog 68 #[.string s] w fun e w' => e = .returned (.int .u32 (De.half s 0 : Int)) ∧ ∃ n, w' = w.drewN n := by
  unfold maxLen at hm
  have g0 : 0 < s.size := by omega
  have g1 : 1 < s.size := by omega
  have g2 : (1 : Int) < (s.size : Int) := by omega
  go_enter Try.func68, Try.ntmps68
  go_wp2
  go_quiet (fail)
  go_wp2
  go_ret
  refine ⟨ret_int ?_, _, rfl⟩
  rw [De.byt_eq s 0 g0, De.byt_eq s 1 g1]
  exact half_or _ _ (De.byt_lt s 0) (De.byt_lt s 1)
theorem part_eq (x f c : Nat) (hx : x < 4294967296) (hf : f ≤ 31) (hc : c ≤ 16) : wrap64 (bits BinOp.and IntKind.u32 ((x : Int) / 2 ^ f) ((2 ^ c - 1) % 4294967296)) = (De.pt x f c : Int) := by
  have hp : (2 : Nat) ^ c ≤ 2 ^ 16 := Nat.pow_le_pow_right (by decide) hc
  have hq := Nat.two_pow_pos c
  have hd := Nat.div_le_self x (2 ^ f)
  have e1 : (x : Int) / 2 ^ f = ((x / 2 ^ f : Nat) : Int) := by rw [Wd.pow_cast]; rfl
  have e2 : ((2 : Int) ^ c - 1) % 4294967296 = ((2 ^ c - 1 : Nat) : Int) := by rw [Wd.pow_cast]; omega
  have hm := Nat.mod_le (x / 2 ^ f) (2 ^ c)
  rw [e1, e2, De.and_u32 _ _ (by omega) (by omega), Nat.and_two_pow_sub_one_eq_mod, Wd.wrap64_in _ (by omega) (by omega)]
  rfl
set_option maxHeartbeats 1000000 in
theorem part_any (x f c : Nat) (w : World) (hx : x < 4294967296) (hf : f ≤ 31) (hc : c ≤ 16) :
    Calls Try.prog 77 #[.int .u32 (x : Int), .int .i64 (f : Int), .int .i64 (c : Int)] w fun e w' => e = .returned (.int .i64 (De.pt x f c : Int)) ∧ ∃ n, w' = w.drewN n := by
  go_enter Try.func77, Try.ntmps77
  go_wp2
  go_quiet (fail)
  go_wp2
  go_ret
  exact ⟨ret_int (part_eq x f c hx hf hc), _, rfl⟩
theorem part_int (x : Nat) (f c : Int) (w : World) (hx : x < 4294967296) (hf0 : 0 ≤ f) (hf : f ≤ 31) (hc0 : 0 ≤ c) (hc : c ≤ 16) :
    Calls Try.prog 77 #[.int .u32 (x : Int), .int .i64 f, .int .i64 c] w fun e w' => e = .returned (.int .i64 (De.pt x f.toNat c.toNat : Int)) ∧ ∃ n, w' = w.drewN n := by
  obtain ⟨f, rfl⟩ := Int.eq_ofNat_of_zero_le hf0
  obtain ⟨c, rfl⟩ := Int.eq_ofNat_of_zero_le hc0
  exact part_any x f c w hx (by omega) (by omega)
theorem alike_any (a b : Nat) (w : World) (ha : a < 2) (hb : b < 2) :
    Calls Try.prog 82 #[.int .i64 (a : Int), .int .i64 (b : Int)] w fun e w' => e = .returned (.int .i64 (De.alike a b : Int)) ∧ w = w' := by
  go_enter Try.func82, Try.ntmps82
  go_wp2
  go_ret
  refine ⟨ret_int ?_, rfl⟩
  have ha' : a = 0 ∨ a = 1 := by omega
  have hb' : b = 0 ∨ b = 1 := by omega
  rcases ha' with rfl | rfl <;> rcases hb' with rfl | rfl <;> rfl
theorem signed_lt (n c : Nat) (h0 : 1 ≤ c) (hc : c ≤ 31) (h : ((n : Int) / 2 ^ (c - 1) == 0) = true) : (n : Int) = De.signed n c := by
  have e : (n : Int) / 2 ^ (c - 1) = ((n / 2 ^ (c - 1) : Nat) : Int) := by rw [Wd.pow_cast]; rfl
  have h0' : (n : Int) / 2 ^ (c - 1) = 0 := eq_of_beq h
  rw [e] at h0'
  have h' : n / 2 ^ (c - 1) = 0 := Int.ofNat_inj.1 h0'
  have hp := Nat.two_pow_pos (c - 1)
  have : n < 2 ^ (c - 1) := by
    rcases Nat.div_eq_zero_iff.1 h' with g | g
    · omega
    · exact g
  unfold De.signed; rw [if_pos this]
theorem signed_ge (n c : Nat) (hn : n < 4294967296) (h0 : 1 ≤ c) (hc : c ≤ 31) (h : ((n : Int) / 2 ^ (c - 1) == 0) = false) : wrap64 ((n : Int) - wrap64 (2 ^ c)) = De.signed n c := by
  have e : (n : Int) / 2 ^ (c - 1) = ((n / 2 ^ (c - 1) : Nat) : Int) := by rw [Wd.pow_cast]; rfl
  have h' : ¬ n / 2 ^ (c - 1) = 0 := fun g => by rw [e, g] at h; exact absurd h (by decide)
  have hp : (2 : Nat) ^ c ≤ 2 ^ 31 := Nat.pow_le_pow_right (by decide) hc
  have hz := Nat.two_pow_pos c
  have : ¬ n < 2 ^ (c - 1) := fun g => h' (Nat.div_eq_of_lt g)
  unfold De.signed; rw [if_neg this, Wd.pow_cast]
  clear h e h' this
  generalize 2 ^ c = p at *
  rw [Wd.wrap64_in (p : Int) (by omega) (by omega), Wd.wrap64_in _ (by omega) (by omega)]
theorem signed_any (n c : Nat) (w : World) (hn : n < 4294967296) (h0 : 1 ≤ c) (hc : c ≤ 31) :
    Calls Try.prog 81 #[.int .i64 (n : Int), .int .i64 (c : Int)] w fun e w' => e = .returned (.int .i64 (De.signed n c)) ∧ w = w' := by
  go_enter Try.func81, Try.ntmps81
  go_wp2
  · go_ret
    exact ⟨ret_int (signed_lt n c h0 hc (by assumption)), rfl⟩
  · go_ret
    exact ⟨ret_int (signed_ge n c hn h0 hc (by assumption)), rfl⟩
theorem half_int (s : ByteArray) (h : Int) (w : World) (hh : Hid ((De.half s 0 : Int) = h)) (hs : 2 ≤ s.size) (hm : s.size ≤ maxLen) :
    Calls Try.prog 68 #[.string s] w fun e w' => e = .returned (.int .u32 h) ∧ ∃ n, w' = w.drewN n := by
  have := hh.out
  subst this
  exact half_any s w hs hm
set_option maxHeartbeats 1000000 in
set_option maxRecDepth 100000 in
theorem size_s (s : ByteArray) (w : World) (hm : s.size ≤ maxLen) :
    Calls Try.prog 67 #[.string s] w fun e w' => e = .returned (.int .i64 (De.size s : Int)) ∧ ∃ n, w' = w.drewN n := by
  by_cases hs : s.size < 2
  · have e : De.size s = 0 := if_pos hs
    rw [e]
    unfold maxLen at hm
    go_enter Try.func67, Try.ntmps67
    go_wp2
    go_ret
    exact ⟨rfl, 0, rfl⟩
  · have hm' := Lib.hid hm
    unfold maxLen at hm
    obtain ⟨h, hh⟩ : ∃ h : Int, (De.half s 0 : Int) = h := ⟨_, rfl⟩
    by_cases hl : De.half s 0 < 59392
    · have e : De.size s = 2 := by unfold De.size; rw [if_neg hs, if_pos hl]
      rw [e]
      have hl' : h < 59392 := by omega
      have HH := Lib.hid hh
      clear e hl hh
      go_enter Try.func67, Try.ntmps67
      go_wp2_with (go_at_call 68; refine (half_int _ _ _ HH (by omega) hm'.out).mono ?_; rintro e w' ⟨rfl, n, rfl⟩)
      go_ret
      exact ⟨rfl, _, rfl⟩
    · have e : De.size s = 4 := by unfold De.size; rw [if_neg hs, if_neg hl]
      rw [e]
      have hl' : ¬ h < 59392 := by omega
      have HH := Lib.hid hh
      clear e hl hh
      go_enter Try.func67, Try.ntmps67
      go_wp2_with (go_at_call 68; refine (half_int _ _ _ HH (by omega) hm'.out).mono ?_; rintro e w' ⟨rfl, n, rfl⟩)
      go_ret
      exact ⟨rfl, _, rfl⟩
end Go.Proofs.Ytplfpaffjaldoaa
end
section
namespace Go.Proofs.Ytplfpaffjaldoaa
open Go.ChangeShapes Go.WideShapes Go.ChangeAt Go.RowKit
set_option linter.unusedVariables false

set_option maxHeartbeats 4000000 in
theorem there_any (op rd rn rm ra imm cond : Int) (wide : Bool) (w : World) :
    Calls Try.prog 71 #[.agg #[.int .i64 op, .int .i64 rd, .int .i64 rn, .int .i64 rm, .int .i64 ra, .int .i64 imm, .int .i64 cond, .bool wide]] w fun e w' => e = .returned (.bool (De.there ⟨op, rd, rn, rm, ra, imm, cond, wide⟩)) ∧ Below w.heap.size w w' := by
  go_enter Try.func71, Try.ntmps71
  go_wp2
  all_goals
    go_ret
    refine ⟨ret_bool ?_, by go_grown⟩
    simp_all [De.there] <;> omega
end Go.Proofs.Ytplfpaffjaldoaa
end
section
namespace Go.Proofs.Ytplfpaffjaldoaa
open Go.ChangeShapes Go.WideShapes Go.ChangeAt Go.RowKit
set_option linter.unusedVariables false

abbrev insV (i : Th.Ins) : Value := .agg #[.int .i64 i.op, .int .i64 i.rd, .int .i64 i.rn, .int .i64 i.rm, .int .i64 i.ra, .int .i64 i.imm, .int .i64 i.cond, .bool i.wide]
theorem sh64 (v p : Nat) (P : Int) (hP : (p : Int) = P) (h : v * p < 4294967296) : wrap64 ((v : Int) * P) = ((v * p : Nat) : Int) := by
  rw [← hP, ← Int.natCast_mul, Wd.wrap64_in _ (by omega) (by omega)]
theorem or64 (n v t c p q : Nat) (P : Int) (hP : (p : Int) = P) (hp : 2 ^ t = p) (hq : 2 ^ c = q) (hv : v < q) (hn : n < 4294967296) (hl : v * p < 4294967296) (h : n / p % q = 0) : bits .or .i64 (n : Int) (wrap64 ((v : Int) * P)) = ((n + v * p : Nat) : Int) := by
  rw [sh64 v p P hP hl, Wd.or_nat n _ hn hl]
  subst hp; subst hq
  rw [Th.or_add n v t c hv h]
theorem or64' (n v c q : Nat) (hq : 2 ^ c = q) (hv : v < q) (hn : n < 4294967296) (hl : v < 4294967296) (h : n % q = 0) : bits .or .i64 (n : Int) (v : Int) = ((n + v : Nat) : Int) := by
  rw [Wd.or_nat n _ hn hl]
  subst hq
  have := Th.or_add n v 0 c hv (by simpa [Nat.mod_one] using h)
  simp at this
  rw [this]
theorem or_imm16 (p0 p1 p2 p3 : Nat) (h0 : p0 < 16) (h1 : p1 < 2) (h2 : p2 < 8) (h3 : p3 < 256) : (bits .or .i64 (bits .or .i64 (bits .or .i64 (wrap64 (((p0 : Nat) : Int) * 4096)) (wrap64 (((p1 : Nat) : Int) * 2048))) (wrap64 (((p2 : Nat) : Int) * 256))) (((p3 : Nat) : Int))) = ((p0 * 4096 + p1 * 2048 + p2 * 256 + p3 : Nat) : Int) := by
  rw [sh64 (p0) 4096 4096 rfl (by omega), or64 _ (p1) 11 1 2048 2 2048 rfl (by decide) (by decide) (by omega) (by omega) (by omega) (by omega), or64 _ (p2) 8 3 256 8 256 rfl (by decide) (by decide) (by omega) (by omega) (by omega) (by omega), or64' _ (p3) 8 256 (by decide) (by omega) (by omega) (by omega) (by omega)]
theorem or_shift (p0 p1 : Nat) (h0 : p0 < 8) (h1 : p1 < 4) : (bits .or .i64 (wrap64 (((p0 : Nat) : Int) * 4)) (((p1 : Nat) : Int))) = ((p0 * 4 + p1 : Nat) : Int) := by
  rw [sh64 (p0) 4 4 rfl (by omega), or64' _ (p1) 2 4 (by decide) (by omega) (by omega) (by omega) (by omega)]
theorem or_b24w (p0 p1 p2 p3 p4 : Nat) (h0 : p0 < 2) (h1 : p1 < 2) (h2 : p2 < 2) (h3 : p3 < 1024) (h4 : p4 < 2048) : (bits .or .i64 (bits .or .i64 (bits .or .i64 (bits .or .i64 (wrap64 (((p0 : Nat) : Int) * 16777216)) (wrap64 (((p1 : Nat) : Int) * 8388608))) (wrap64 (((p2 : Nat) : Int) * 4194304))) (wrap64 (((p3 : Nat) : Int) * 4096))) (wrap64 (((p4 : Nat) : Int) * 2))) = ((p0 * 16777216 + p1 * 8388608 + p2 * 4194304 + p3 * 4096 + p4 * 2 : Nat) : Int) := by
  rw [sh64 (p0) 16777216 16777216 rfl (by omega), or64 _ (p1) 23 1 8388608 2 8388608 rfl (by decide) (by decide) (by omega) (by omega) (by omega) (by omega), or64 _ (p2) 22 1 4194304 2 4194304 rfl (by decide) (by decide) (by omega) (by omega) (by omega) (by omega), or64 _ (p3) 12 10 4096 1024 4096 rfl (by decide) (by decide) (by omega) (by omega) (by omega) (by omega), or64 _ (p4) 1 11 2 2048 2 rfl (by decide) (by decide) (by omega) (by omega) (by omega) (by omega)]
theorem or_b24n (p0 : Nat) (h0 : p0 < 2048) : (wrap64 (((p0 : Nat) : Int) * 2)) = ((p0 * 2 : Nat) : Int) := by
  rw [sh64 (p0) 2 2 rfl (by omega)]
theorem or_b25w (p0 p1 p2 p3 p4 : Nat) (h0 : p0 < 2) (h1 : p1 < 2) (h2 : p2 < 2) (h3 : p3 < 64) (h4 : p4 < 2048) : (bits .or .i64 (bits .or .i64 (bits .or .i64 (bits .or .i64 (wrap64 (((p0 : Nat) : Int) * 1048576)) (wrap64 (((p1 : Nat) : Int) * 524288))) (wrap64 (((p2 : Nat) : Int) * 262144))) (wrap64 (((p3 : Nat) : Int) * 4096))) (wrap64 (((p4 : Nat) : Int) * 2))) = ((p0 * 1048576 + p1 * 524288 + p2 * 262144 + p3 * 4096 + p4 * 2 : Nat) : Int) := by
  rw [sh64 (p0) 1048576 1048576 rfl (by omega), or64 _ (p1) 19 1 524288 2 524288 rfl (by decide) (by decide) (by omega) (by omega) (by omega) (by omega), or64 _ (p2) 18 1 262144 2 262144 rfl (by decide) (by decide) (by omega) (by omega) (by omega) (by omega), or64 _ (p3) 12 6 4096 64 4096 rfl (by decide) (by decide) (by omega) (by omega) (by omega) (by omega), or64 _ (p4) 1 11 2 2048 2 rfl (by decide) (by decide) (by omega) (by omega) (by omega) (by omega)]
theorem or_b25n (p0 : Nat) (h0 : p0 < 256) : (wrap64 (((p0 : Nat) : Int) * 2)) = ((p0 * 2 : Nat) : Int) := by
  rw [sh64 (p0) 2 2 rfl (by omega)]
set_option maxHeartbeats 1000000 in
theorem shift_any (x : Nat) (w : World) (hx : x < 4294967296) :
    Calls Try.prog 78 #[.int .u32 (x : Int)] w fun e w' => e = .returned (.int .i64 (De.shift x : Int)) ∧ ∃ n, w' = w.drewN n := by
  have b0 : De.pt x 12 3 < 8 := De.pt_lt x _ 3
  have b1 : De.pt x 6 2 < 4 := De.pt_lt x _ 2
  have hT : Hid (De.shift x < 32) := Lib.hid (by unfold De.shift; omega)
  have hI : (bits .or .i64 (wrap64 (((De.pt x 12 3 : Nat) : Int) * 4)) (((De.pt x 6 2 : Nat) : Int))) = ((De.shift x : Nat) : Int) := or_shift (De.pt x 12 3) (De.pt x 6 2) b0 b1
  clear b0 b1
  go_enter Try.func78, Try.ntmps78
  go_wp2_with (go_at_call 77; refine (part_int _ _ _ _ hx (by decide) (by decide) (by decide) (by decide)).mono ?_; rintro e w' ⟨rfl, n, rfl⟩)
  go_ret
  exact ⟨rfl, _, rfl⟩
theorem signed_int (n : Nat) (c : Int) (w : World) (hn : n < 4294967296) (h0 : 1 ≤ c) (hc : c ≤ 31) :
    Calls Try.prog 81 #[.int .i64 (n : Int), .int .i64 c] w fun e w' => e = .returned (.int .i64 (De.signed n c.toNat)) ∧ w = w' := by
  obtain ⟨c, rfl⟩ := Int.eq_ofNat_of_zero_le (show 0 ≤ c by omega)
  exact signed_any n c w hn (by omega) (by omega)
set_option maxHeartbeats 4000000 in
set_option maxRecDepth 100000 in
theorem readb24w (x : Nat) (w : World) (hx : x < 4294967296) (hw : 65536 ≤ x) :
    Calls Try.prog 79 #[.int .i64 24, .int .u32 (x : Int)] w fun e w' => e = .returned (.agg #[.int .i64 24, .int .i64 (0), .int .i64 (0), .int .i64 (0), .int .i64 (0), .int .i64 (De.signed (De.b24w x) 25), .int .i64 (0), .bool true]) ∧ Below w.heap.size w w' := by
  have b0 : De.pt x 26 1 < 2 := De.pt_lt x _ 1
  have b1 : De.alike (De.pt x 13 1) (De.pt x 26 1) < 2 := De.alike_lt _ _
  have b2 : De.alike (De.pt x 11 1) (De.pt x 26 1) < 2 := De.alike_lt _ _
  have b3 : De.pt x 16 10 < 1024 := De.pt_lt x _ 10
  have b4 : De.pt x 0 11 < 2048 := De.pt_lt x _ 11
  have hT : Hid (De.b24w x < 33554432) := Lib.hid (by unfold De.b24w; omega)
  have hI : (bits .or .i64 (bits .or .i64 (bits .or .i64 (bits .or .i64 (wrap64 (((De.pt x 26 1 : Nat) : Int) * 16777216)) (wrap64 (((De.alike (De.pt x 13 1) (De.pt x 26 1) : Nat) : Int) * 8388608))) (wrap64 (((De.alike (De.pt x 11 1) (De.pt x 26 1) : Nat) : Int) * 4194304))) (wrap64 (((De.pt x 16 10 : Nat) : Int) * 4096))) (wrap64 (((De.pt x 0 11 : Nat) : Int) * 2))) = ((De.b24w x : Nat) : Int) := or_b24w (De.pt x 26 1) (De.alike (De.pt x 13 1) (De.pt x 26 1)) (De.alike (De.pt x 11 1) (De.pt x 26 1)) (De.pt x 16 10) (De.pt x 0 11) b0 b1 b2 b3 b4
  clear b0 b1 b2 b3 b4
  have q1 : ((x : Int) / 65536 != 0) = true := by simp; omega
  have q2 : ((x : Int) / 65536 == 0) = false := by simp; omega
  go_enter Try.func79, Try.ntmps79
  go_wp2_with (first | (go_at_call 77; refine (part_int _ _ _ _ hx (by decide) (by decide) (by decide) (by decide)).mono ?_; rintro e w' ⟨rfl, n, rfl⟩) | (go_at_call 82; refine (alike_any _ _ _ (De.pt_lt _ _ 1) (De.pt_lt _ _ 1)).mono ?_; rintro e w' ⟨rfl, rfl⟩) | (go_at_call 81; refine (signed_int _ _ _ (by have := hT.out; omega) (by decide) (by decide)).mono ?_; rintro e w' ⟨rfl, rfl⟩))
  exact bodyPost_ret (v := (.agg #[.int .i64 24, .int .i64 (0), .int .i64 (0), .int .i64 (0), .int .i64 (0), .int .i64 (De.signed (De.b24w x) 25), .int .i64 (0), .bool true])) (by simp [results, Try.results79, go_sem]) rfl ⟨rfl, by (go_grown; (try (refine below_drewN ?_ _; go_grown; (try (refine below_drewN ?_ _; go_grown; (try (refine below_drewN ?_ _; go_grown)))))))⟩
set_option maxHeartbeats 4000000 in
set_option maxRecDepth 100000 in
theorem readb24n (x : Nat) (w : World) (hx : x < 4294967296) (hw : x < 65536) :
    Calls Try.prog 79 #[.int .i64 24, .int .u32 (x : Int)] w fun e w' => e = .returned (.agg #[.int .i64 24, .int .i64 (0), .int .i64 (0), .int .i64 (0), .int .i64 (0), .int .i64 (De.signed (De.b24n x) 12), .int .i64 (0), .bool false]) ∧ Below w.heap.size w w' := by
  have b0 : De.pt x 0 11 < 2048 := De.pt_lt x _ 11
  have hT : Hid (De.b24n x < 4096) := Lib.hid (by unfold De.b24n; omega)
  have hI : (wrap64 (((De.pt x 0 11 : Nat) : Int) * 2)) = ((De.b24n x : Nat) : Int) := or_b24n (De.pt x 0 11) b0
  clear b0
  have q1 : ((x : Int) / 65536 != 0) = false := by simp; omega
  have q2 : ((x : Int) / 65536 == 0) = true := by simp; omega
  go_enter Try.func79, Try.ntmps79
  go_wp2_with (first | (go_at_call 77; refine (part_int _ _ _ _ hx (by decide) (by decide) (by decide) (by decide)).mono ?_; rintro e w' ⟨rfl, n, rfl⟩) | (go_at_call 82; refine (alike_any _ _ _ (De.pt_lt _ _ 1) (De.pt_lt _ _ 1)).mono ?_; rintro e w' ⟨rfl, rfl⟩) | (go_at_call 81; refine (signed_int _ _ _ (by have := hT.out; omega) (by decide) (by decide)).mono ?_; rintro e w' ⟨rfl, rfl⟩))
  exact bodyPost_ret (v := (.agg #[.int .i64 24, .int .i64 (0), .int .i64 (0), .int .i64 (0), .int .i64 (0), .int .i64 (De.signed (De.b24n x) 12), .int .i64 (0), .bool false])) (by simp [results, Try.results79, go_sem]) rfl ⟨rfl, by (go_grown; (try (refine below_drewN ?_ _; go_grown; (try (refine below_drewN ?_ _; go_grown; (try (refine below_drewN ?_ _; go_grown)))))))⟩
set_option maxHeartbeats 4000000 in
set_option maxRecDepth 100000 in
theorem readb25w (x : Nat) (w : World) (hx : x < 4294967296) (hw : 65536 ≤ x) :
    Calls Try.prog 79 #[.int .i64 25, .int .u32 (x : Int)] w fun e w' => e = .returned (.agg #[.int .i64 25, .int .i64 (0), .int .i64 (0), .int .i64 (0), .int .i64 (0), .int .i64 (De.signed (De.b25w x) 21), .int .i64 (((De.pt x 22 4 : Nat) : Int)), .bool true]) ∧ Below w.heap.size w w' := by
  have b0 : De.pt x 26 1 < 2 := De.pt_lt x _ 1
  have b1 : De.pt x 11 1 < 2 := De.pt_lt x _ 1
  have b2 : De.pt x 13 1 < 2 := De.pt_lt x _ 1
  have b3 : De.pt x 16 6 < 64 := De.pt_lt x _ 6
  have b4 : De.pt x 0 11 < 2048 := De.pt_lt x _ 11
  have hT : Hid (De.b25w x < 2097152) := Lib.hid (by unfold De.b25w; omega)
  have hI : (bits .or .i64 (bits .or .i64 (bits .or .i64 (bits .or .i64 (wrap64 (((De.pt x 26 1 : Nat) : Int) * 1048576)) (wrap64 (((De.pt x 11 1 : Nat) : Int) * 524288))) (wrap64 (((De.pt x 13 1 : Nat) : Int) * 262144))) (wrap64 (((De.pt x 16 6 : Nat) : Int) * 4096))) (wrap64 (((De.pt x 0 11 : Nat) : Int) * 2))) = ((De.b25w x : Nat) : Int) := or_b25w (De.pt x 26 1) (De.pt x 11 1) (De.pt x 13 1) (De.pt x 16 6) (De.pt x 0 11) b0 b1 b2 b3 b4
  clear b0 b1 b2 b3 b4
  have q1 : ((x : Int) / 65536 != 0) = true := by simp; omega
  have q2 : ((x : Int) / 65536 == 0) = false := by simp; omega
  go_enter Try.func79, Try.ntmps79
  go_wp2_with (first | (go_at_call 77; refine (part_int _ _ _ _ hx (by decide) (by decide) (by decide) (by decide)).mono ?_; rintro e w' ⟨rfl, n, rfl⟩) | (go_at_call 82; refine (alike_any _ _ _ (De.pt_lt _ _ 1) (De.pt_lt _ _ 1)).mono ?_; rintro e w' ⟨rfl, rfl⟩) | (go_at_call 81; refine (signed_int _ _ _ (by have := hT.out; omega) (by decide) (by decide)).mono ?_; rintro e w' ⟨rfl, rfl⟩))
  exact bodyPost_ret (v := (.agg #[.int .i64 25, .int .i64 (0), .int .i64 (0), .int .i64 (0), .int .i64 (0), .int .i64 (De.signed (De.b25w x) 21), .int .i64 (((De.pt x 22 4 : Nat) : Int)), .bool true])) (by simp [results, Try.results79, go_sem]) rfl ⟨rfl, by (go_grown; (try (refine below_drewN ?_ _; go_grown; (try (refine below_drewN ?_ _; go_grown; (try (refine below_drewN ?_ _; go_grown)))))))⟩
set_option maxHeartbeats 4000000 in
set_option maxRecDepth 100000 in
theorem readb25n (x : Nat) (w : World) (hx : x < 4294967296) (hw : x < 65536) :
    Calls Try.prog 79 #[.int .i64 25, .int .u32 (x : Int)] w fun e w' => e = .returned (.agg #[.int .i64 25, .int .i64 (0), .int .i64 (0), .int .i64 (0), .int .i64 (0), .int .i64 (De.signed (De.b25n x) 9), .int .i64 (((De.pt x 8 4 : Nat) : Int)), .bool false]) ∧ Below w.heap.size w w' := by
  have b0 : De.pt x 0 8 < 256 := De.pt_lt x _ 8
  have hT : Hid (De.b25n x < 512) := Lib.hid (by unfold De.b25n; omega)
  have hI : (wrap64 (((De.pt x 0 8 : Nat) : Int) * 2)) = ((De.b25n x : Nat) : Int) := or_b25n (De.pt x 0 8) b0
  clear b0
  have q1 : ((x : Int) / 65536 != 0) = false := by simp; omega
  have q2 : ((x : Int) / 65536 == 0) = true := by simp; omega
  go_enter Try.func79, Try.ntmps79
  go_wp2_with (first | (go_at_call 77; refine (part_int _ _ _ _ hx (by decide) (by decide) (by decide) (by decide)).mono ?_; rintro e w' ⟨rfl, n, rfl⟩) | (go_at_call 82; refine (alike_any _ _ _ (De.pt_lt _ _ 1) (De.pt_lt _ _ 1)).mono ?_; rintro e w' ⟨rfl, rfl⟩) | (go_at_call 81; refine (signed_int _ _ _ (by have := hT.out; omega) (by decide) (by decide)).mono ?_; rintro e w' ⟨rfl, rfl⟩))
  exact bodyPost_ret (v := (.agg #[.int .i64 25, .int .i64 (0), .int .i64 (0), .int .i64 (0), .int .i64 (0), .int .i64 (De.signed (De.b25n x) 9), .int .i64 (((De.pt x 8 4 : Nat) : Int)), .bool false])) (by simp [results, Try.results79, go_sem]) rfl ⟨rfl, by (go_grown; (try (refine below_drewN ?_ _; go_grown; (try (refine below_drewN ?_ _; go_grown; (try (refine below_drewN ?_ _; go_grown)))))))⟩
end Go.Proofs.Ytplfpaffjaldoaa
end
