/-
  What stage 5's Same returns, and that the document's example is told.
-/
import Derived.Test.YtmhhljbhbhlefaaMemF
namespace Go.Proofs.Ytmhhljbhbhlefaa
open Go.ChangeShapes Go.WideShapes Go.ChangeAt Go.RowKit
set_option linter.unusedVariables false

set_option maxRecDepth 100000 in
set_option maxHeartbeats 8000000 in
theorem same_some (a b : Addr) (ca cb n : Nat) (L : List Mm.Rg) (w : World) (hn : Hid (L.length = n)) (hm : n ≤ 100) (ha : Hid (∀ k (hk : k < L.length), OnC w (a.add (k * 3)) (rgC L[k]))) (hb : Hid (∀ k (hk : k < L.length), OnC w (b.add (k * 3)) (rgC L[k]))) :
    Calls Try.prog 9 #[.slice (some a) n ca, .slice (some b) n cb] w fun e w' => e = .returned (.bool true) ∧ Below w.heap.size w w' := by
  go_enter Try.func9, Try.ntmps9
  go_wp2
  go_loopw [5] (fun K wr => ∃ k : Nat, K = .int .i64 (k : Int) ∧ k ≤ n ∧ ∃ d, wr = w.drewN d) (fun K _ => n - (intOf K).toNat)
  case atStart => exact ⟨0, rfl, Nat.zero_le _, 0, rfl⟩
  case round =>
    obtain ⟨k, rfl, hk, d, rfl⟩ := hrel
    by_cases hlt : k < n
    · have hlt' : (k : Int) < (n : Int) := by omega
      have hk0 : (0 : Int) ≤ (k : Int) := by omega
      have hA := ha.out k (by rw [hn.out]; exact hlt)
      have hB := hb.out k (by rw [hn.out]; exact hlt)
      obtain ⟨⟨ba, le, wt⟩, hi⟩ : ∃ i, L[k]'(by rw [hn.out]; exact hlt) = i := ⟨_, rfl⟩
      rw [hi] at hA hB
      have a0 : w.cell? (a.add (k * 3)) = some (.int .i64 ba) := by have h := hA 0 _ rfl; rw [add_zero'] at h; exact h
      have a1 : w.cell? ⟨(a.add (k * 3)).block, (a.add (k * 3)).off + 1, none⟩ = some (.int .i64 le) := hA 1 _ rfl
      have a2 : w.cell? ⟨(a.add (k * 3)).block, (a.add (k * 3)).off + 2, none⟩ = some (.bool wt) := hA 2 _ rfl
      have b0 : w.cell? (b.add (k * 3)) = some (.int .i64 ba) := by have h := hB 0 _ rfl; rw [add_zero'] at h; exact h
      have b1 : w.cell? ⟨(b.add (k * 3)).block, (b.add (k * 3)).off + 1, none⟩ = some (.int .i64 le) := hB 1 _ rfl
      have b2 : w.cell? ⟨(b.add (k * 3)).block, (b.add (k * 3)).off + 2, none⟩ = some (.bool wt) := hB 2 _ rfl
      clear hA hB hi
      go_wp2
      go_quiet (fail)
      go_wp2
      exact ⟨⟨k + 1, by simp, by omega, d + nq, rfl⟩, by simp [intOf]; omega⟩
    · have hge : ¬ (k : Int) < (n : Int) := by omega
      go_wp2
      go_ret
      exact ⟨rfl, below_drewN (Below.refl _ _) _⟩
set_option maxHeartbeats 4000000 in
theorem same_none (p q : Option Addr) (ca cb : Nat) (w : World) :
    Calls Try.prog 9 #[.slice p 0 ca, .slice q 0 cb] w fun e w' => e = .returned (.bool true) ∧ Below w.heap.size w w' := by
  go_enter Try.func9, Try.ntmps9
  go_wp2
  go_loopw [5] (fun K wr => K = .int .i64 0 ∧ wr = w) (fun K _ => 0)
  case atStart => exact ⟨rfl, rfl⟩
  case round =>
    obtain ⟨rfl, rfl⟩ := hrel
    go_wp2
    go_ret
    exact ⟨rfl, Below.refl _ _⟩
/-- slices of the same regions are the same -/
theorem same_any (va vb : Value) (L : List Mm.Rg) (w : World) (hm : L.length ≤ 100) (ha : SliceC rgC 3 w va L) (hb : SliceC rgC 3 w vb L) :
    Calls Try.prog 9 #[va, vb] w fun e w' => e = .returned (.bool true) ∧ Below w.heap.size w w' := by
  obtain ⟨p, ca, rfl, hp⟩ := ha
  obtain ⟨q, cb, rfl, hq⟩ := hb
  by_cases h0 : L.length = 0
  · rw [h0]; exact same_none p q ca cb w
  · obtain ⟨a, rfl, -⟩ := hp 0 (by omega)
    obtain ⟨b, rfl, -⟩ := hq 0 (by omega)
    refine same_some a b ca cb L.length L w (Lib.hid rfl) hm (Lib.hid fun k hk => ?_) (Lib.hid fun k hk => ?_)
    · obtain ⟨a', e, h⟩ := hp k hk
      obtain rfl := Option.some.inj e
      exact h
    · obtain ⟨a', e, h⟩ := hq k hk
      obtain rfl := Option.some.inj e
      exact h
theorem Mm.seven_wfs {i o r f : Int} (hi : i ≤ 65536) (ho : o ≤ 65536) (hr : r ≤ 65536) (hf : f ≤ 262144) : Mm.wfs (Mm.seven i o r f) := by
  intro k hk
  have h7 : k < 7 := hk
  rcases (by omega : k = 0 ∨ k = 1 ∨ k = 2 ∨ k = 3 ∨ k = 4 ∨ k = 5 ∨ k = 6) with rfl | rfl | rfl | rfl | rfl | rfl | rfl <;> simp [Mm.seven] <;> omega
set_option maxHeartbeats 8000000 in
set_option maxRecDepth 100000 in
theorem lives_any (w : World) : Calls Try.prog 12 #[] w fun e w' => e = .returned (.bool true) ∧ Below w.heap.size w w' := by
  have C0 : Hid (∀ w : World, Calls Try.prog 7 #[.agg #[.int .i64 8, .int .i64 4, .int .i64 8], .int .i64 64] w fun e w' => ∃ a c, e = .returned (.tuple #[.slice (some a) 7 c, .int .i64 0]) ∧ SliceC rgC 3 w' (.slice (some a) 7 c) (Mm.seven 8 4 8 64) ∧ Below w.heap.size w w') := Lib.hid fun w => regions_ok 8 4 8 64 w (Lib.hid (by decide))
  have C1 : Hid (∀ (w : World) (p : Option Addr) (c : Nat), SliceC rgC 3 w (.slice p 7 c) (Mm.seven 8 4 8 64) → Calls Try.prog 13 #[.slice p 7 c, .int .i64 537001984, .int .i64 4, .bool true] w fun e w' => e = .returned (.tuple #[.int .i64 2, .int .i64 0]) ∧ Below w.heap.size w w') := Lib.hid fun w p c h => find_4 p 7 c (Mm.seven 8 4 8 64) 537001984 true 2 0 w (Lib.hid rfl) (by decide) (Lib.hid h) (Lib.hid (Mm.seven_wfs (by decide) (by decide) (by decide) (by decide))) (Lib.hid (by decide)) (by decide) (Lib.hid (by decide))
  have C2 : Hid (∀ (w : World) (p : Option Addr) (c : Nat), SliceC rgC 3 w (.slice p 7 c) (Mm.seven 8 4 8 64) → Calls Try.prog 13 #[.slice p 7 c, .int .i64 537919492, .int .i64 4, .bool false] w fun e w' => e = .returned (.tuple #[.int .i64 0, .int .i64 8]) ∧ Below w.heap.size w w') := Lib.hid fun w p c h => find_4 p 7 c (Mm.seven 8 4 8 64) 537919492 false 0 8 w (Lib.hid rfl) (by decide) (Lib.hid h) (Lib.hid (Mm.seven_wfs (by decide) (by decide) (by decide) (by decide))) (Lib.hid (by decide)) (by decide) (Lib.hid (by decide))
  go_enter Try.func12, Try.ntmps12
  go_wp2_with (first
    | (go_at_call 7; refine (C0.out _).mono ?_; rintro e w1 ⟨a1, c1, rfl, hs1, hb1⟩; have HS := Lib.hid hs1; have HB := Lib.hid hb1; clear hs1 hb1)
    | (go_at_call 13; first | (refine (C2.out _ _ _ HS2.out).mono ?_; rintro e w3 ⟨rfl, hb3⟩; have HB3 := Lib.hid (HB2.out.trans (hb3.mono HB2.out.size)); clear hb3) | (refine (C1.out _ _ _ HS.out).mono ?_; rintro e w2 ⟨rfl, hb2⟩; have HS2 := Lib.hid (HS.out.kept hb2); have HB2 := Lib.hid (HB.out.trans (hb2.mono HB.out.size)); clear hb2))
    | (go_at_call 16; first | ((with_reducible refine (rail_1 _).mono ?_); rintro e w4 ⟨rfl, rfl⟩) | ((with_reducible refine (rail_0 _).mono ?_); rintro e w4 ⟨rfl, rfl⟩) | ((with_reducible refine (rail_2 _).mono ?_); rintro e w4 ⟨rfl, rfl⟩)))
  go_ret
  exact ⟨rfl, HB3.out⟩
end Go.Proofs.Ytmhhljbhbhlefaa
