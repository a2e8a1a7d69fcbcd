/-
  What package thumb's fixed, fields and their helpers return.
-/
import Derived.Test.YtplfpaffjaldoaaThumbM
import Derived.Test.YtplfpaffjaldoaaThumbP
import Derived.Test.YtplfpaffjaldoaaThumbS
import Derived.Deep.RegionHeld3
namespace Go.Proofs.Ytplfpaffjaldoaa
open Go.ChangeShapes Go.WideShapes Go.ChangeAt Go.RowKit

set_option maxHeartbeats 1000000 in
theorem fixedLong_any (op : Int) (wide : Bool) (w : World) (h : Th.short op = false) (h2 : Th.branch op = false) :
    Calls Try.prog 73 #[.int .i64 op] w fun e w' => e = .returned (.int .i64 (Th.fixed op wide : Int)) ∧ w = w' := by
  simp [Th.short, Th.branch] at h h2
  go_enter Try.func73, Try.ntmps73
  go_wp2
  all_goals
    go_ret
    refine ⟨ret_int ?_, rfl⟩
    simp_all [Th.fixed]

theorem fixedBranch_any (op rd rn rm ra imm cond : Int) (wide : Bool) (w : World) (h : Th.branch op = true) :
    Calls Try.prog 72 #[.agg #[.int .i64 op, .int .i64 rd, .int .i64 rn, .int .i64 rm, .int .i64 ra, .int .i64 imm, .int .i64 cond, .bool wide]] w fun e w' => e = .returned (.int .i64 (Th.fixed op wide : Int)) ∧ Below w.heap.size w w' := by
  have h' : op = 24 ∨ op = 25 := by simpa [Th.branch] using h
  clear h
  rcases h' with rfl | rfl <;> cases wide
  all_goals
    go_enter Try.func72, Try.ntmps72
    go_wp2
    go_ret
    exact ⟨ret_int (by simp [Th.fixed]), by go_grown⟩
set_option maxHeartbeats 4000000 in
theorem fixed_any (op rd rn rm ra imm cond : Int) (wide : Bool) (w : World) :
    Calls Try.prog 59 #[.agg #[.int .i64 op, .int .i64 rd, .int .i64 rn, .int .i64 rm, .int .i64 ra, .int .i64 imm, .int .i64 cond, .bool wide]] w fun e w' => e = .returned (.int .i64 (Th.fixed op wide : Int)) ∧ Below w.heap.size w w' := by
  go_enter Try.func59, Try.ntmps59
  go_wp2_with (first | (go_at_call 73; refine (fixedLong_any _ wide _ ?_ ?_).mono ?_; (simp [Th.short, *]); (simp [Th.branch, *]); rintro e w' ⟨rfl, rfl⟩) | (go_at_call 72; refine (fixedBranch_any _ _ _ _ _ _ _ _ _ ?_).mono ?_; (simp [Th.branch, *]); rintro e w' ⟨rfl, hb⟩))
  all_goals
    go_ret
    first
      | exact ⟨rfl, ((Below.refl _ _).alloc (Nat.le_refl _) _).trans (hb.mono (by simp))⟩
      | exact ⟨rfl, by go_grown⟩
      | (refine ⟨ret_int ?_, by go_grown⟩; go_tidy; simp_all [Th.fixed])

theorem bit_and (x : Nat) (h : x < 4294967296) : bits .and .i64 (x : Int) 1 = ((x % 2 : Nat) : Int) := by
  have := Th.and_mask x 1 h (by decide)
  simpa [wrap64] using this
theorem alike_eq (x a b : Nat) (h : x < 33554432) : bits .xor .i64 (bits .xor .i64 1 (bits .and .i64 ((x : Int) / 2 ^ a) 1)) (bits .and .i64 ((x : Int) / 2 ^ b) 1) = Th.alike (x : Int) a b := by
  have e : ∀ k : Nat, (x : Int) / 2 ^ k = ((x / 2 ^ k : Nat) : Int) := fun k => by rw [Wd.pow_cast]; rfl
  have l : ∀ k : Nat, x / 2 ^ k < 4294967296 := fun k => by have := Nat.div_le_self x (2 ^ k); omega
  unfold Th.alike
  rw [e a, e b, bit_and _ (l a), bit_and _ (l b)]
  have ha : x / 2 ^ a % 2 = 0 ∨ x / 2 ^ a % 2 = 1 := by omega
  have hb : x / 2 ^ b % 2 = 0 ∨ x / 2 ^ b % 2 = 1 := by omega
  have ea : ((x / 2 ^ a : Nat) : Int) % 2 = ((x / 2 ^ a % 2 : Nat) : Int) := rfl
  have eb : ((x / 2 ^ b : Nat) : Int) % 2 = ((x / 2 ^ b % 2 : Nat) : Int) := rfl
  rw [ea, eb]
  rcases ha with ha | ha <;> rcases hb with hb | hb <;> rw [ha, hb] <;> rfl
def FldsRet (L : List Th.Fld) (w : World) (e : Ending) (w' : World) : Prop :=
  ∃ b, e = .returned (.slice (some ⟨b, 0, none⟩) L.length L.length) ∧ FldsAt w' b L ∧ b < w'.heap.size ∧ Below w.heap.size w w'
theorem flds_end {L : List Th.Fld} {w W : World} {t : TypeId} (hb : Below w.heap.size w W) : FldsRet L w (.returned (.slice (some ⟨W.heap.size, 0, none⟩) L.length L.length)) (W.alloc (.cells (flat L).toArray t)) :=
  ⟨_, rfl, flds_alloc _ _ _, by simp, hb.alloc hb.size _⟩
theorem bel_step {w w1 w2 : World} (hb : Below w1.heap.size w1 w2) (h : Below w.heap.size w w1) : Below w.heap.size w w2 := h.trans (hb.mono h.size)
theorem bel_alloc {w w1 : World} (h : Below w.heap.size w w1) (o : Obj) : Below w.heap.size w (w1.alloc o) := h.alloc h.size o
theorem flds_end1 {L : List Th.Fld} {w : World} {A : Obj} {t : TypeId} {cs : Array Value} (hc : cs = (flat L).toArray) :
    FldsRet L w (.returned (.slice (some ⟨w.heap.size + 1, 0, none⟩) L.length L.length)) ((w.alloc A).alloc (.cells cs t)) := by
  subst hc
  have e : (w.alloc A).heap.size = w.heap.size + 1 := by simp
  rw [← e]
  exact flds_end ((Below.refl _ _).alloc (Nat.le_refl _) _)
theorem alike_one (n : Int) (w : World) (h0 : 0 ≤ n) (h1 : n < 33554432) :
    Calls Try.prog 80 #[.int .i64 n, .int .i64 23, .int .i64 24] w fun e w' => e = .returned (.int .i64 (Th.alike n 23 24)) ∧ Below w.heap.size w w' := by
  obtain ⟨x, rfl⟩ := Int.eq_ofNat_of_zero_le h0
  go_enter Try.func80, Try.ntmps80
  go_wp2
  go_quiet (fail)
  go_wp2
  go_ret
  exact ⟨ret_int (alike_eq x 23 24 (by omega)), below_drewN (Below.refl _ _) _⟩
theorem alike_two (n : Int) (w : World) (h0 : 0 ≤ n) (h1 : n < 33554432) :
    Calls Try.prog 80 #[.int .i64 n, .int .i64 22, .int .i64 24] w fun e w' => e = .returned (.int .i64 (Th.alike n 22 24)) ∧ Below w.heap.size w w' := by
  obtain ⟨x, rfl⟩ := Int.eq_ofNat_of_zero_le h0
  go_enter Try.func80, Try.ntmps80
  go_wp2
  go_quiet (fail)
  go_wp2
  go_ret
  exact ⟨ret_int (alike_eq x 22 24 (by omega)), below_drewN (Below.refl _ _) _⟩
set_option maxHeartbeats 1000000 in
theorem branchFields_2400 (rd rn rm ra imm cond : Int) (w : World) (h0 : 0 ≤ imm) (h1 : imm ≤ 16777214) :
    Calls Try.prog 74 #[.agg #[.int .i64 24, .int .i64 rd, .int .i64 rn, .int .i64 rm, .int .i64 ra, .int .i64 imm, .int .i64 cond, .bool false]] w (FldsRet [⟨imm, 11, 1, 0⟩] w) := by
  go_enter Try.func74, Try.ntmps74
  go_wp2
  go_ret
  exact flds_end1 (L := [⟨imm, 11, 1, 0⟩]) rfl
set_option maxHeartbeats 1000000 in
theorem branchFields_2401 (rd rn rm ra imm cond : Int) (w : World) (h0 : imm < 0) (h1 : -16777216 ≤ imm) :
    Calls Try.prog 74 #[.agg #[.int .i64 24, .int .i64 rd, .int .i64 rn, .int .i64 rm, .int .i64 ra, .int .i64 imm, .int .i64 cond, .bool false]] w (FldsRet [⟨(imm + 33554432), 11, 1, 0⟩] w) := by
  go_enter Try.func74, Try.ntmps74
  go_wp2
  go_ret
  exact flds_end1 (L := [⟨(imm + 33554432), 11, 1, 0⟩]) rfl
set_option maxHeartbeats 1000000 in
theorem branchFields_2410 (rd rn rm ra imm cond : Int) (w : World) (h0 : 0 ≤ imm) (h1 : imm ≤ 16777214) :
    Calls Try.prog 74 #[.agg #[.int .i64 24, .int .i64 rd, .int .i64 rn, .int .i64 rm, .int .i64 ra, .int .i64 imm, .int .i64 cond, .bool true]] w (FldsRet [⟨imm, 1, 24, 26⟩, ⟨imm, 10, 12, 16⟩, ⟨(Th.alike imm 23 24), 1, 0, 13⟩, ⟨(Th.alike imm 22 24), 1, 0, 11⟩, ⟨imm, 11, 1, 0⟩] w) := by
  go_enter Try.func74, Try.ntmps74
  go_wp2_with (first | (go_at_call 80; (with_reducible refine (alike_one _ _ (by omega) (by omega)).mono ?_); rintro e w1 ⟨rfl, hb1⟩) | (go_at_call 80; (with_reducible refine (alike_two _ _ (by omega) (by omega)).mono ?_); rintro e w2 ⟨rfl, hb2⟩))
  go_ret
  exact flds_end (L := [⟨imm, 1, 24, 26⟩, ⟨imm, 10, 12, 16⟩, ⟨(Th.alike imm 23 24), 1, 0, 13⟩, ⟨(Th.alike imm 22 24), 1, 0, 11⟩, ⟨imm, 11, 1, 0⟩]) (bel_step hb2 (bel_step hb1 ((Below.refl _ _).alloc (Nat.le_refl _) _)))
set_option maxHeartbeats 1000000 in
theorem branchFields_2411 (rd rn rm ra imm cond : Int) (w : World) (h0 : imm < 0) (h1 : -16777216 ≤ imm) :
    Calls Try.prog 74 #[.agg #[.int .i64 24, .int .i64 rd, .int .i64 rn, .int .i64 rm, .int .i64 ra, .int .i64 imm, .int .i64 cond, .bool true]] w (FldsRet [⟨(imm + 33554432), 1, 24, 26⟩, ⟨(imm + 33554432), 10, 12, 16⟩, ⟨(Th.alike (imm + 33554432) 23 24), 1, 0, 13⟩, ⟨(Th.alike (imm + 33554432) 22 24), 1, 0, 11⟩, ⟨(imm + 33554432), 11, 1, 0⟩] w) := by
  go_enter Try.func74, Try.ntmps74
  go_wp2_with (first | (go_at_call 80; (with_reducible refine (alike_one _ _ (by omega) (by omega)).mono ?_); rintro e w1 ⟨rfl, hb1⟩) | (go_at_call 80; (with_reducible refine (alike_two _ _ (by omega) (by omega)).mono ?_); rintro e w2 ⟨rfl, hb2⟩))
  go_ret
  exact flds_end (L := [⟨(imm + 33554432), 1, 24, 26⟩, ⟨(imm + 33554432), 10, 12, 16⟩, ⟨(Th.alike (imm + 33554432) 23 24), 1, 0, 13⟩, ⟨(Th.alike (imm + 33554432) 22 24), 1, 0, 11⟩, ⟨(imm + 33554432), 11, 1, 0⟩]) (bel_step hb2 (bel_step hb1 ((Below.refl _ _).alloc (Nat.le_refl _) _)))
set_option maxHeartbeats 1000000 in
theorem branchFields_2500 (rd rn rm ra imm cond : Int) (w : World) (h0 : 0 ≤ imm) (h1 : imm ≤ 16777214) :
    Calls Try.prog 74 #[.agg #[.int .i64 25, .int .i64 rd, .int .i64 rn, .int .i64 rm, .int .i64 ra, .int .i64 imm, .int .i64 cond, .bool false]] w (FldsRet [⟨cond, 4, 0, 8⟩, ⟨imm, 8, 1, 0⟩] w) := by
  go_enter Try.func74, Try.ntmps74
  go_wp2
  go_ret
  exact flds_end1 (L := [⟨cond, 4, 0, 8⟩, ⟨imm, 8, 1, 0⟩]) rfl
set_option maxHeartbeats 1000000 in
theorem branchFields_2501 (rd rn rm ra imm cond : Int) (w : World) (h0 : imm < 0) (h1 : -16777216 ≤ imm) :
    Calls Try.prog 74 #[.agg #[.int .i64 25, .int .i64 rd, .int .i64 rn, .int .i64 rm, .int .i64 ra, .int .i64 imm, .int .i64 cond, .bool false]] w (FldsRet [⟨cond, 4, 0, 8⟩, ⟨(imm + 33554432), 8, 1, 0⟩] w) := by
  go_enter Try.func74, Try.ntmps74
  go_wp2
  go_ret
  exact flds_end1 (L := [⟨cond, 4, 0, 8⟩, ⟨(imm + 33554432), 8, 1, 0⟩]) rfl
set_option maxHeartbeats 1000000 in
theorem branchFields_2510 (rd rn rm ra imm cond : Int) (w : World) (h0 : 0 ≤ imm) (h1 : imm ≤ 16777214) :
    Calls Try.prog 74 #[.agg #[.int .i64 25, .int .i64 rd, .int .i64 rn, .int .i64 rm, .int .i64 ra, .int .i64 imm, .int .i64 cond, .bool true]] w (FldsRet [⟨imm, 1, 20, 26⟩, ⟨cond, 4, 0, 22⟩, ⟨imm, 6, 12, 16⟩, ⟨imm, 1, 18, 13⟩, ⟨imm, 1, 19, 11⟩, ⟨imm, 11, 1, 0⟩] w) := by
  go_enter Try.func74, Try.ntmps74
  go_wp2
  go_ret
  exact flds_end1 (L := [⟨imm, 1, 20, 26⟩, ⟨cond, 4, 0, 22⟩, ⟨imm, 6, 12, 16⟩, ⟨imm, 1, 18, 13⟩, ⟨imm, 1, 19, 11⟩, ⟨imm, 11, 1, 0⟩]) rfl
set_option maxHeartbeats 1000000 in
theorem branchFields_2511 (rd rn rm ra imm cond : Int) (w : World) (h0 : imm < 0) (h1 : -16777216 ≤ imm) :
    Calls Try.prog 74 #[.agg #[.int .i64 25, .int .i64 rd, .int .i64 rn, .int .i64 rm, .int .i64 ra, .int .i64 imm, .int .i64 cond, .bool true]] w (FldsRet [⟨(imm + 33554432), 1, 20, 26⟩, ⟨cond, 4, 0, 22⟩, ⟨(imm + 33554432), 6, 12, 16⟩, ⟨(imm + 33554432), 1, 18, 13⟩, ⟨(imm + 33554432), 1, 19, 11⟩, ⟨(imm + 33554432), 11, 1, 0⟩] w) := by
  go_enter Try.func74, Try.ntmps74
  go_wp2
  go_ret
  exact flds_end1 (L := [⟨(imm + 33554432), 1, 20, 26⟩, ⟨cond, 4, 0, 22⟩, ⟨(imm + 33554432), 6, 12, 16⟩, ⟨(imm + 33554432), 1, 18, 13⟩, ⟨(imm + 33554432), 1, 19, 11⟩, ⟨(imm + 33554432), 11, 1, 0⟩]) rfl
end Go.Proofs.Ytplfpaffjaldoaa
