/-
  What package decode's readBranch and read return.
-/
import Derived.Test.YtcajllbhgfaofaaDecodeC
import Derived.Test.YtcajllbhgfaofaaThumbC
import Derived.IntWalk
namespace Go.Proofs.Ytcajllbhgfaofaa
open Go.ChangeShapes Go.WideShapes Go.ChangeAt Go.RowKit
set_option linter.unusedVariables false

abbrev insV (i : Th.Ins) : Value := .agg #[.int .i64 i.op, .int .i64 i.rd, .int .i64 i.rn, .int .i64 i.rm, .int .i64 i.ra, .int .i64 i.imm, .int .i64 i.cond, .bool i.wide]
theorem sh64 (v p : Nat) (P : Int) (hP : (p : Int) = P) (h : v * p < 4294967296) : wrap64 ((v : Int) * P) = ((v * p : Nat) : Int) := by
  rw [← hP, ← Int.natCast_mul, Wd.wrap64_in _ (by omega) (by omega)]
theorem or64 (n v t c p q : Nat) (P : Int) (hP : (p : Int) = P) (hp : 2 ^ t = p) (hq : 2 ^ c = q) (hv : v < q) (hn : n < 4294967296) (hl : v * p < 4294967296) (h : n / p % q = 0) : bits .or .i64 (n : Int) (wrap64 ((v : Int) * P)) = ((n + v * p : Nat) : Int) := by
  rw [sh64 v p P hP hl, Wd.or_nat n _ hn hl]
  subst hp; subst hq
  rw [Th.or_add n v t c hv h]
theorem or64' (n v c q : Nat) (hq : 2 ^ c = q) (hv : v < q) (hn : n < 4294967296) (hl : v < 4294967296) (h : n % q = 0) : bits .or .i64 (n : Int) (v : Int) = ((n + v : Nat) : Int) := by
  rw [Wd.or_nat n _ hn hl]
  subst hq
  have := Th.or_add n v 0 c hv (by simpa [Nat.mod_one] using h)
  simp at this
  rw [this]
theorem or_imm16 (p0 p1 p2 p3 : Nat) (h0 : p0 < 16) (h1 : p1 < 2) (h2 : p2 < 8) (h3 : p3 < 256) : (bits .or .i64 (bits .or .i64 (bits .or .i64 (wrap64 (((p0 : Nat) : Int) * 4096)) (wrap64 (((p1 : Nat) : Int) * 2048))) (wrap64 (((p2 : Nat) : Int) * 256))) (((p3 : Nat) : Int))) = ((p0 * 4096 + p1 * 2048 + p2 * 256 + p3 : Nat) : Int) := by
  rw [sh64 (p0) 4096 4096 rfl (by omega), or64 _ (p1) 11 1 2048 2 2048 rfl (by decide) (by decide) (by omega) (by omega) (by omega) (by omega), or64 _ (p2) 8 3 256 8 256 rfl (by decide) (by decide) (by omega) (by omega) (by omega) (by omega), or64' _ (p3) 8 256 (by decide) (by omega) (by omega) (by omega) (by omega)]
theorem or_shift (p0 p1 : Nat) (h0 : p0 < 8) (h1 : p1 < 4) : (bits .or .i64 (wrap64 (((p0 : Nat) : Int) * 4)) (((p1 : Nat) : Int))) = ((p0 * 4 + p1 : Nat) : Int) := by
  rw [sh64 (p0) 4 4 rfl (by omega), or64' _ (p1) 2 4 (by decide) (by omega) (by omega) (by omega) (by omega)]
theorem or_b24w (p0 p1 p2 p3 p4 : Nat) (h0 : p0 < 2) (h1 : p1 < 2) (h2 : p2 < 2) (h3 : p3 < 1024) (h4 : p4 < 2048) : (bits .or .i64 (bits .or .i64 (bits .or .i64 (bits .or .i64 (wrap64 (((p0 : Nat) : Int) * 16777216)) (wrap64 (((p1 : Nat) : Int) * 8388608))) (wrap64 (((p2 : Nat) : Int) * 4194304))) (wrap64 (((p3 : Nat) : Int) * 4096))) (wrap64 (((p4 : Nat) : Int) * 2))) = ((p0 * 16777216 + p1 * 8388608 + p2 * 4194304 + p3 * 4096 + p4 * 2 : Nat) : Int) := by
  rw [sh64 (p0) 16777216 16777216 rfl (by omega), or64 _ (p1) 23 1 8388608 2 8388608 rfl (by decide) (by decide) (by omega) (by omega) (by omega) (by omega), or64 _ (p2) 22 1 4194304 2 4194304 rfl (by decide) (by decide) (by omega) (by omega) (by omega) (by omega), or64 _ (p3) 12 10 4096 1024 4096 rfl (by decide) (by decide) (by omega) (by omega) (by omega) (by omega), or64 _ (p4) 1 11 2 2048 2 rfl (by decide) (by decide) (by omega) (by omega) (by omega) (by omega)]
theorem or_b24n (p0 : Nat) (h0 : p0 < 2048) : (wrap64 (((p0 : Nat) : Int) * 2)) = ((p0 * 2 : Nat) : Int) := by
  rw [sh64 (p0) 2 2 rfl (by omega)]
theorem or_b25w (p0 p1 p2 p3 p4 : Nat) (h0 : p0 < 2) (h1 : p1 < 2) (h2 : p2 < 2) (h3 : p3 < 64) (h4 : p4 < 2048) : (bits .or .i64 (bits .or .i64 (bits .or .i64 (bits .or .i64 (wrap64 (((p0 : Nat) : Int) * 1048576)) (wrap64 (((p1 : Nat) : Int) * 524288))) (wrap64 (((p2 : Nat) : Int) * 262144))) (wrap64 (((p3 : Nat) : Int) * 4096))) (wrap64 (((p4 : Nat) : Int) * 2))) = ((p0 * 1048576 + p1 * 524288 + p2 * 262144 + p3 * 4096 + p4 * 2 : Nat) : Int) := by
  rw [sh64 (p0) 1048576 1048576 rfl (by omega), or64 _ (p1) 19 1 524288 2 524288 rfl (by decide) (by decide) (by omega) (by omega) (by omega) (by omega), or64 _ (p2) 18 1 262144 2 262144 rfl (by decide) (by decide) (by omega) (by omega) (by omega) (by omega), or64 _ (p3) 12 6 4096 64 4096 rfl (by decide) (by decide) (by omega) (by omega) (by omega) (by omega), or64 _ (p4) 1 11 2 2048 2 rfl (by decide) (by decide) (by omega) (by omega) (by omega) (by omega)]
theorem or_b25n (p0 : Nat) (h0 : p0 < 256) : (wrap64 (((p0 : Nat) : Int) * 2)) = ((p0 * 2 : Nat) : Int) := by
  rw [sh64 (p0) 2 2 rfl (by omega)]
set_option maxHeartbeats 1000000 in
theorem shift_any (x : Nat) (w : World) (hx : x < 4294967296) :
    Calls Try.prog 56 #[.int .u32 (x : Int)] w fun e w' => e = .returned (.int .i64 (De.shift x : Int)) ∧ ∃ n, w' = w.drewN n := by
  have b0 : De.pt x 12 3 < 8 := De.pt_lt x _ 3
  have b1 : De.pt x 6 2 < 4 := De.pt_lt x _ 2
  have hT : Hid (De.shift x < 32) := Lib.hid (by unfold De.shift; omega)
  have hI : (bits .or .i64 (wrap64 (((De.pt x 12 3 : Nat) : Int) * 4)) (((De.pt x 6 2 : Nat) : Int))) = ((De.shift x : Nat) : Int) := or_shift (De.pt x 12 3) (De.pt x 6 2) b0 b1
  clear b0 b1
  go_enter Try.func56, Try.ntmps56
  go_wp2_with (go_at_call 55; refine (part_int _ _ _ _ hx (by decide) (by decide) (by decide) (by decide)).mono ?_; rintro e w' ⟨rfl, n, rfl⟩)
  go_ret
  exact ⟨rfl, _, rfl⟩
theorem signed_int (n : Nat) (c : Int) (w : World) (hn : n < 4294967296) (h0 : 1 ≤ c) (hc : c ≤ 31) :
    Calls Try.prog 64 #[.int .i64 (n : Int), .int .i64 c] w fun e w' => e = .returned (.int .i64 (De.signed n c.toNat)) ∧ w = w' := by
  obtain ⟨c, rfl⟩ := Int.eq_ofNat_of_zero_le (show 0 ≤ c by omega)
  exact signed_any n c w hn (by omega) (by omega)
set_option maxHeartbeats 4000000 in
set_option maxRecDepth 100000 in
theorem readb24w (x : Nat) (w : World) (hx : x < 4294967296) (hw : 65536 ≤ x) :
    Calls Try.prog 57 #[.int .i64 24, .int .u32 (x : Int)] w fun e w' => e = .returned (.agg #[.int .i64 24, .int .i64 (0), .int .i64 (0), .int .i64 (0), .int .i64 (0), .int .i64 (De.signed (De.b24w x) 25), .int .i64 (0), .bool true]) ∧ Below w.heap.size w w' := by
  have b0 : De.pt x 26 1 < 2 := De.pt_lt x _ 1
  have b1 : De.alike (De.pt x 13 1) (De.pt x 26 1) < 2 := De.alike_lt _ _
  have b2 : De.alike (De.pt x 11 1) (De.pt x 26 1) < 2 := De.alike_lt _ _
  have b3 : De.pt x 16 10 < 1024 := De.pt_lt x _ 10
  have b4 : De.pt x 0 11 < 2048 := De.pt_lt x _ 11
  have hT : Hid (De.b24w x < 33554432) := Lib.hid (by unfold De.b24w; omega)
  have hI : (bits .or .i64 (bits .or .i64 (bits .or .i64 (bits .or .i64 (wrap64 (((De.pt x 26 1 : Nat) : Int) * 16777216)) (wrap64 (((De.alike (De.pt x 13 1) (De.pt x 26 1) : Nat) : Int) * 8388608))) (wrap64 (((De.alike (De.pt x 11 1) (De.pt x 26 1) : Nat) : Int) * 4194304))) (wrap64 (((De.pt x 16 10 : Nat) : Int) * 4096))) (wrap64 (((De.pt x 0 11 : Nat) : Int) * 2))) = ((De.b24w x : Nat) : Int) := or_b24w (De.pt x 26 1) (De.alike (De.pt x 13 1) (De.pt x 26 1)) (De.alike (De.pt x 11 1) (De.pt x 26 1)) (De.pt x 16 10) (De.pt x 0 11) b0 b1 b2 b3 b4
  clear b0 b1 b2 b3 b4
  have q1 : ((x : Int) / 65536 != 0) = true := by simp; omega
  have q2 : ((x : Int) / 65536 == 0) = false := by simp; omega
  go_enter Try.func57, Try.ntmps57
  go_wp2_with (first | (go_at_call 55; refine (part_int _ _ _ _ hx (by decide) (by decide) (by decide) (by decide)).mono ?_; rintro e w' ⟨rfl, n, rfl⟩) | (go_at_call 65; refine (alike_any _ _ _ (De.pt_lt _ _ 1) (De.pt_lt _ _ 1)).mono ?_; rintro e w' ⟨rfl, rfl⟩) | (go_at_call 64; refine (signed_int _ _ _ (by have := hT.out; omega) (by decide) (by decide)).mono ?_; rintro e w' ⟨rfl, rfl⟩))
  exact bodyPost_ret (v := (.agg #[.int .i64 24, .int .i64 (0), .int .i64 (0), .int .i64 (0), .int .i64 (0), .int .i64 (De.signed (De.b24w x) 25), .int .i64 (0), .bool true])) (by simp [results, Try.results57, go_sem]) rfl ⟨rfl, by (go_grown; (try (refine below_drewN ?_ _; go_grown; (try (refine below_drewN ?_ _; go_grown; (try (refine below_drewN ?_ _; go_grown)))))))⟩
set_option maxHeartbeats 4000000 in
set_option maxRecDepth 100000 in
theorem readb24n (x : Nat) (w : World) (hx : x < 4294967296) (hw : x < 65536) :
    Calls Try.prog 57 #[.int .i64 24, .int .u32 (x : Int)] w fun e w' => e = .returned (.agg #[.int .i64 24, .int .i64 (0), .int .i64 (0), .int .i64 (0), .int .i64 (0), .int .i64 (De.signed (De.b24n x) 12), .int .i64 (0), .bool false]) ∧ Below w.heap.size w w' := by
  have b0 : De.pt x 0 11 < 2048 := De.pt_lt x _ 11
  have hT : Hid (De.b24n x < 4096) := Lib.hid (by unfold De.b24n; omega)
  have hI : (wrap64 (((De.pt x 0 11 : Nat) : Int) * 2)) = ((De.b24n x : Nat) : Int) := or_b24n (De.pt x 0 11) b0
  clear b0
  have q1 : ((x : Int) / 65536 != 0) = false := by simp; omega
  have q2 : ((x : Int) / 65536 == 0) = true := by simp; omega
  go_enter Try.func57, Try.ntmps57
  go_wp2_with (first | (go_at_call 55; refine (part_int _ _ _ _ hx (by decide) (by decide) (by decide) (by decide)).mono ?_; rintro e w' ⟨rfl, n, rfl⟩) | (go_at_call 65; refine (alike_any _ _ _ (De.pt_lt _ _ 1) (De.pt_lt _ _ 1)).mono ?_; rintro e w' ⟨rfl, rfl⟩) | (go_at_call 64; refine (signed_int _ _ _ (by have := hT.out; omega) (by decide) (by decide)).mono ?_; rintro e w' ⟨rfl, rfl⟩))
  exact bodyPost_ret (v := (.agg #[.int .i64 24, .int .i64 (0), .int .i64 (0), .int .i64 (0), .int .i64 (0), .int .i64 (De.signed (De.b24n x) 12), .int .i64 (0), .bool false])) (by simp [results, Try.results57, go_sem]) rfl ⟨rfl, by (go_grown; (try (refine below_drewN ?_ _; go_grown; (try (refine below_drewN ?_ _; go_grown; (try (refine below_drewN ?_ _; go_grown)))))))⟩
set_option maxHeartbeats 4000000 in
set_option maxRecDepth 100000 in
theorem readb25w (x : Nat) (w : World) (hx : x < 4294967296) (hw : 65536 ≤ x) :
    Calls Try.prog 57 #[.int .i64 25, .int .u32 (x : Int)] w fun e w' => e = .returned (.agg #[.int .i64 25, .int .i64 (0), .int .i64 (0), .int .i64 (0), .int .i64 (0), .int .i64 (De.signed (De.b25w x) 21), .int .i64 (((De.pt x 22 4 : Nat) : Int)), .bool true]) ∧ Below w.heap.size w w' := by
  have b0 : De.pt x 26 1 < 2 := De.pt_lt x _ 1
  have b1 : De.pt x 11 1 < 2 := De.pt_lt x _ 1
  have b2 : De.pt x 13 1 < 2 := De.pt_lt x _ 1
  have b3 : De.pt x 16 6 < 64 := De.pt_lt x _ 6
  have b4 : De.pt x 0 11 < 2048 := De.pt_lt x _ 11
  have hT : Hid (De.b25w x < 2097152) := Lib.hid (by unfold De.b25w; omega)
  have hI : (bits .or .i64 (bits .or .i64 (bits .or .i64 (bits .or .i64 (wrap64 (((De.pt x 26 1 : Nat) : Int) * 1048576)) (wrap64 (((De.pt x 11 1 : Nat) : Int) * 524288))) (wrap64 (((De.pt x 13 1 : Nat) : Int) * 262144))) (wrap64 (((De.pt x 16 6 : Nat) : Int) * 4096))) (wrap64 (((De.pt x 0 11 : Nat) : Int) * 2))) = ((De.b25w x : Nat) : Int) := or_b25w (De.pt x 26 1) (De.pt x 11 1) (De.pt x 13 1) (De.pt x 16 6) (De.pt x 0 11) b0 b1 b2 b3 b4
  clear b0 b1 b2 b3 b4
  have q1 : ((x : Int) / 65536 != 0) = true := by simp; omega
  have q2 : ((x : Int) / 65536 == 0) = false := by simp; omega
  go_enter Try.func57, Try.ntmps57
  go_wp2_with (first | (go_at_call 55; refine (part_int _ _ _ _ hx (by decide) (by decide) (by decide) (by decide)).mono ?_; rintro e w' ⟨rfl, n, rfl⟩) | (go_at_call 65; refine (alike_any _ _ _ (De.pt_lt _ _ 1) (De.pt_lt _ _ 1)).mono ?_; rintro e w' ⟨rfl, rfl⟩) | (go_at_call 64; refine (signed_int _ _ _ (by have := hT.out; omega) (by decide) (by decide)).mono ?_; rintro e w' ⟨rfl, rfl⟩))
  exact bodyPost_ret (v := (.agg #[.int .i64 25, .int .i64 (0), .int .i64 (0), .int .i64 (0), .int .i64 (0), .int .i64 (De.signed (De.b25w x) 21), .int .i64 (((De.pt x 22 4 : Nat) : Int)), .bool true])) (by simp [results, Try.results57, go_sem]) rfl ⟨rfl, by (go_grown; (try (refine below_drewN ?_ _; go_grown; (try (refine below_drewN ?_ _; go_grown; (try (refine below_drewN ?_ _; go_grown)))))))⟩
set_option maxHeartbeats 4000000 in
set_option maxRecDepth 100000 in
theorem readb25n (x : Nat) (w : World) (hx : x < 4294967296) (hw : x < 65536) :
    Calls Try.prog 57 #[.int .i64 25, .int .u32 (x : Int)] w fun e w' => e = .returned (.agg #[.int .i64 25, .int .i64 (0), .int .i64 (0), .int .i64 (0), .int .i64 (0), .int .i64 (De.signed (De.b25n x) 9), .int .i64 (((De.pt x 8 4 : Nat) : Int)), .bool false]) ∧ Below w.heap.size w w' := by
  have b0 : De.pt x 0 8 < 256 := De.pt_lt x _ 8
  have hT : Hid (De.b25n x < 512) := Lib.hid (by unfold De.b25n; omega)
  have hI : (wrap64 (((De.pt x 0 8 : Nat) : Int) * 2)) = ((De.b25n x : Nat) : Int) := or_b25n (De.pt x 0 8) b0
  clear b0
  have q1 : ((x : Int) / 65536 != 0) = false := by simp; omega
  have q2 : ((x : Int) / 65536 == 0) = true := by simp; omega
  go_enter Try.func57, Try.ntmps57
  go_wp2_with (first | (go_at_call 55; refine (part_int _ _ _ _ hx (by decide) (by decide) (by decide) (by decide)).mono ?_; rintro e w' ⟨rfl, n, rfl⟩) | (go_at_call 65; refine (alike_any _ _ _ (De.pt_lt _ _ 1) (De.pt_lt _ _ 1)).mono ?_; rintro e w' ⟨rfl, rfl⟩) | (go_at_call 64; refine (signed_int _ _ _ (by have := hT.out; omega) (by decide) (by decide)).mono ?_; rintro e w' ⟨rfl, rfl⟩))
  exact bodyPost_ret (v := (.agg #[.int .i64 25, .int .i64 (0), .int .i64 (0), .int .i64 (0), .int .i64 (0), .int .i64 (De.signed (De.b25n x) 9), .int .i64 (((De.pt x 8 4 : Nat) : Int)), .bool false])) (by simp [results, Try.results57, go_sem]) rfl ⟨rfl, by (go_grown; (try (refine below_drewN ?_ _; go_grown; (try (refine below_drewN ?_ _; go_grown; (try (refine below_drewN ?_ _; go_grown)))))))⟩
end Go.Proofs.Ytcajllbhgfaofaa
