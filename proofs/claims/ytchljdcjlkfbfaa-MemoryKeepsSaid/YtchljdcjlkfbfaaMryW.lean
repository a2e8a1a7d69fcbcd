/-
  What word's Bytes and Of, of the program and of the document, return.
-/
import Derived.Test.YtchljdcjlkfbfaaWordM
import Derived.Test.YtchljdcjlkfbfaaRows
import Derived.WalkKit
import Derived.ProofKit
import Derived.LoopTactic
import Derived.Lib.Hide
import Derived.LoopN
import Derived.Below
import Derived.OpenShut
import Derived.Laws.BytesArg
import Derived.Deep.QuietTactic
import Derived.BigQuiet
namespace Go.Proofs.Ytchljdcjlkfbfaa
open Go.ChangeShapes Go.WideShapes Go.ChangeAt Go.RowKit

theorem ret_int {k : IntKind} {a b : Int} (h : a = b) : Ending.returned (.int k a) = .returned (.int k b) := by rw [h]
theorem wrap_any (n : Int) (w : World) :
    Calls Try.prog 35 #[.int .i64 n] w fun e w' => e = .returned (.int .i64 (Wd.wrap n)) ∧ w = w' := by
  go_enter Try.func35, Try.ntmps35
  go_wp2
  go_ret
  exact ⟨ret_int (Wd.and_ones n), rfl⟩
theorem count_any (n : Int) (w : World) :
    Calls Try.prog 36 #[.int .i64 n] w fun e w' => e = .returned (.int .i64 ((Wd.cnt n : Int))) ∧ w = w' := by
  go_enter Try.func36, Try.ntmps36
  go_wp2
  go_ret
  exact ⟨ret_int (Wd.and_31 n), rfl⟩
theorem shr_any (a n : Int) (w : World) :
    Calls Try.prog 31 #[.int .i64 a, .int .i64 n] w fun e w' => e = .returned (.int .i64 (Wd.shr a n)) ∧ w = w' := by
  have ha := Wd.wrap_bd a
  have hn := Wd.cnt_lt n
  go_enter Try.func31, Try.ntmps31
  go_wp2_with (first | (go_at_call 35; refine (wrap_any _ _).mono ?_; rintro e w' ⟨rfl, rfl⟩) | (go_at_call 36; refine (count_any _ _).mono ?_; rintro e w' ⟨rfl, rfl⟩))
  go_ret
  exact ⟨ret_int (rfl), rfl⟩
theorem rwrap_any (n : Int) (w : World) :
    Calls Try.prog 33 #[.int .i64 n] w fun e w' => e = .returned (.int .i64 (Wd.wrap n)) ∧ w = w' := by
  go_enter Try.func33, Try.ntmps33
  go_wp2
  go_ret
  exact ⟨ret_int (Wd.rwrap_eq n), rfl⟩
theorem below_drewN {B : Nat} {a w : World} (h : Below B a w) (n : Nat) : Below B a (w.drewN n) := ⟨h.os, h.tape, h.output, h.size, h.block⟩
namespace Wd
def bytes (a : Int) : ByteArray := strOfNums [wrap a % 256, wrap a / 256 % 256, wrap a / 65536 % 256, wrap a / 16777216]
def four (b0 b1 b2 b3 : UInt8) : Int := (b0.toNat : Int) + 256 * b1.toNat + 65536 * b2.toNat + 16777216 * b3.toNat
theorem bytes_eq (a : Int) : strOfNums [shr a 0 % 256, shr a 8 % 256, shr a 16 % 256, shr a 24 % 256] = bytes a := by
  have h := wrap_bd a
  have e0 : shr a 0 = wrap a := by show wrap a / 2 ^ 0 = _; omega
  have e1 : shr a 8 = wrap a / 256 := rfl
  have e2 : shr a 16 = wrap a / 65536 := rfl
  have e3 : shr a 24 = wrap a / 16777216 := rfl
  have e4 : wrap a / 16777216 % 256 = wrap a / 16777216 := by omega
  rw [e0, e1, e2, e3, e4]; rfl
theorem bytes_is (a : Int) : bytes a = ⟨#[UInt8.ofNat (wrap a % 256).toNat, UInt8.ofNat (wrap a / 256 % 256).toNat, UInt8.ofNat (wrap a / 65536 % 256).toNat, UInt8.ofNat (wrap a / 16777216).toNat]⟩ := rfl
theorem four_back (a : Int) : four (UInt8.ofNat (wrap a % 256).toNat) (UInt8.ofNat (wrap a / 256 % 256).toNat) (UInt8.ofNat (wrap a / 65536 % 256).toNat) (UInt8.ofNat (wrap a / 16777216).toNat) = wrap a := by
  have h := wrap_bd a
  have e : ∀ n : Nat, n < 256 → (UInt8.ofNat n).toNat = n := fun n hn => by rw [UInt8.toNat_ofNat']; exact Nat.mod_eq_of_lt hn
  unfold four
  rw [e _ (by omega), e _ (by omega), e _ (by omega), e _ (by omega)]
  omega
theorem byte_lt (b : UInt8) : b.toNat < 256 := b.toNat_lt
theorem wrap64_byte' (b : UInt8) : wrap64 (b.toNat : Int) = (b.toNat : Int) := by have := byte_lt b; exact wrap64_in _ (by omega) (by omega)
theorem or_shift (r b j p : Nat) (hp : p = 2 ^ j) (hr : r < p) (hb : b < 256) (hj : j ≤ 24) : bits .or .i64 (r : Int) ((b : Int) * (p : Int)) = ((r + b * p : Nat) : Int) := by
  have h24 : p ≤ 16777216 := by rw [hp]; exact Nat.pow_le_pow_right (n := 2) (by decide) hj
  have hm : b * p ≤ 255 * 16777216 := Nat.mul_le_mul (by omega) h24
  rw [← Int.natCast_mul, or_nat _ _ (by omega) (by omega), hp] at *
  rw [Nat.or_comm, Nat.mul_comm, ← Nat.two_pow_add_eq_or_of_lt hr, Nat.add_comm]
theorem mul_byte (b : UInt8) (p : Int) (h0 : 0 ≤ p) (h1 : p ≤ 16777216) : wrap64 (p * (b.toNat : Int)) = p * (b.toNat : Int) := by
  have h := byte_lt b
  have h2 : 0 ≤ p * (b.toNat : Int) := Int.mul_nonneg h0 (by omega)
  have h3 : p * (b.toNat : Int) ≤ 16777216 * 255 := Int.mul_le_mul h1 (by omega) (by omega) (by omega)
  exact wrap64_in _ (by omega) (by omega)
theorem byte_mul (b : UInt8) (p : Int) (h0 : 0 ≤ p) (h1 : p ≤ 16777216) : wrap64 ((b.toNat : Int) * p) = (b.toNat : Int) * p := by
  rw [Int.mul_comm]; exact mul_byte b p h0 h1
theorem four_eq (b0 b1 b2 b3 : UInt8) :
    bits .or .i64 (bits .or .i64 (bits .or .i64 (bits .or .i64 0 (wrap64 (wrap64 (b0.toNat : Int)))) (wrap64 (wrap64 (b1.toNat : Int) * 256)))
      (wrap64 (wrap64 (b2.toNat : Int) * 65536))) (wrap64 (wrap64 (b3.toNat : Int) * 16777216)) = four b0 b1 b2 b3 := by
  have h0 := byte_lt b0
  have h1 := byte_lt b1
  have h2 := byte_lt b2
  have h3 := byte_lt b3
  have e0 : bits .or .i64 0 (b0.toNat : Int) = (b0.toNat : Int) := by
    have := or_nat 0 b0.toNat (by omega) (by omega)
    rw [Nat.zero_or] at this
    exact this
  have e1 : bits .or .i64 (b0.toNat : Int) ((b1.toNat : Int) * 256) = _ := or_shift b0.toNat b1.toNat 8 256 rfl h0 h1 (by omega)
  have e2 : bits .or .i64 ((b0.toNat + b1.toNat * 256 : Nat) : Int) ((b2.toNat : Int) * 65536) = _ := or_shift (b0.toNat + b1.toNat * 256) b2.toNat 16 65536 rfl (by omega) h2 (by omega)
  have e3 : bits .or .i64 ((b0.toNat + b1.toNat * 256 + b2.toNat * 65536 : Nat) : Int) ((b3.toNat : Int) * 16777216) = _ := or_shift (b0.toNat + b1.toNat * 256 + b2.toNat * 65536) b3.toNat 24 16777216 rfl (by omega) h3 (by omega)
  rw [wrap64_byte', wrap64_byte', wrap64_byte', wrap64_byte', wrap64_byte', byte_mul b1 256 (by decide) (by decide), byte_mul b2 65536 (by decide) (by decide), byte_mul b3 16777216 (by decide) (by decide), e0, e1, e2, e3]
  clear e0 e1 e2 e3
  unfold four; omega
theorem four_of (s : ByteArray) (h : s.size = 4) : ∃ b0 b1 b2 b3, s = ⟨#[b0, b1, b2, b3]⟩ := by
  obtain ⟨d⟩ := s
  obtain ⟨l⟩ := d
  match l, h with
  | [b0, b1, b2, b3], _ => exact ⟨b0, b1, b2, b3, rfl⟩
end Wd

theorem run_str4 (w : World) (c0 c1 c2 c3 : Int) (t : TypeId) :
    Sem.run Try.prog (convert 56 9 (.slice (some ⟨w.heap.size, 0, none⟩) 4 4)) (w.alloc (.cells #[.int .u8 c0, .int .u8 c1, .int .u8 c2, .int .u8 c3] t))
      = .ok (.string (strOfNums [c0, c1, c2, c3])) (w.alloc (.cells #[.int .u8 c0, .int .u8 c1, .int .u8 c2, .int .u8 c3] t)) := by
  refine run_convert_bytes_arg _ 56 5 Try.underlying56 Try.underlying5 w.heap.size 0 4 4 [c0, c1, c2, c3] rfl ?_ 9 Try.underlying9
  intro i hi
  match i, hi with
  | 0, _ => simp
  | 1, _ => simp
  | 2, _ => simp
  | 3, _ => simp

theorem ret_str {a b : ByteArray} (h : a = b) : Ending.returned (.string a) = .returned (.string b) := by rw [h]
theorem ret_ib {k : IntKind} {a b : Int} {x : Bool} (h : a = b) : Ending.returned (.tuple #[.int k a, .bool x]) = .returned (.tuple #[.int k b, .bool x]) := by rw [h]

set_option maxHeartbeats 400000 in
theorem bytes_any (a : Int) (w : World) :
    Calls Try.prog 26 #[.int .i64 a] w fun e w' => e = .returned (.string (Wd.bytes a)) ∧ Below w.heap.size w w' := by
  have hr := run_str4 w
  go_enter Try.func26, Try.ntmps26
  go_wp2
  refine wp_loop_rounds 5 ?_
  iterate 5 (rw [rounds_succ]; go_wp2_with (go_at_call 31; refine (shr_any _ _ _).mono ?_; rintro e w' ⟨rfl, rfl⟩))
  go_ret
  exact ⟨ret_str (Wd.bytes_eq a), (Below.refl _ _).alloc (Nat.le_refl _) _⟩
set_option maxHeartbeats 400000 in
theorem rbytes_any (a : Int) (w : World) :
    Calls Try.prog 29 #[.int .i64 a] w fun e w' => e = .returned (.string (Wd.bytes a)) ∧ Below w.heap.size w w' := by
  have ha := Wd.wrap_bd a
  have hr := run_str4 w
  go_enter Try.func29, Try.ntmps29
  go_wp2_with (go_at_call 33; refine (rwrap_any _ _).mono ?_; rintro e w' ⟨rfl, rfl⟩)
  go_ret
  exact ⟨rfl, (Below.refl _ _).alloc (Nat.le_refl _) _⟩
theorem of_no (s : ByteArray) (w : World) (h : ((s.size : Int) != 4) = true) :
    Calls Try.prog 25 #[.string s] w fun e w' => e = .returned (.tuple #[.int .i64 0, .bool false]) ∧ w = w' := by
  go_enter Try.func25, Try.ntmps25
  go_wp2
  go_ret2
  exact ⟨rfl, rfl⟩
set_option maxHeartbeats 400000 in
theorem of_yes (b0 b1 b2 b3 : UInt8) (w : World) :
    Calls Try.prog 25 #[.string ⟨#[b0, b1, b2, b3]⟩] w fun e w' => e = .returned (.tuple #[.int .i64 (Wd.four b0 b1 b2 b3), .bool true]) ∧ w = w' := by
  go_enter Try.func25, Try.ntmps25
  go_wp2
  refine wp_loop_rounds 5 ?_
  iterate 5 (rw [rounds_succ]; go_wp2)
  go_ret2
  exact ⟨ret_ib (Wd.four_eq b0 b1 b2 b3), rfl⟩
theorem of_bytes (a : Int) (w : World) :
    Calls Try.prog 25 #[.string (Wd.bytes a)] w fun e w' => e = .returned (.tuple #[.int .i64 (Wd.wrap a), .bool true]) ∧ w = w' := by
  have := of_yes (UInt8.ofNat (Wd.wrap a % 256).toNat) (UInt8.ofNat (Wd.wrap a / 256 % 256).toNat) (UInt8.ofNat (Wd.wrap a / 65536 % 256).toNat) (UInt8.ofNat (Wd.wrap a / 16777216).toNat) w
  rw [Wd.four_back a] at this
  rw [Wd.bytes_is a]
  exact this
end Go.Proofs.Ytchljdcjlkfbfaa
