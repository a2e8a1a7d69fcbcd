/-
  Law MemmapWord: for all sizes and every address, a word may be read, or written, just where each of its four bytes may, and in the same region.
  Conditions: none but those of the given row.
-/
import Derived.Test.YtmhhljbhbhlefaaRows
import Derived.Test.YtmhhljbhbhlefaaMemO
import Derived.Test.YtmhhljbhbhlefaaMemQ
import Derived.WalkKit
import Derived.ProofKit
import Derived.OpenShut
import Derived.ShutString
import Derived.ChangeOld
import Derived.Below
import Derived.LoopN
import Derived.SizedLaws
namespace Go.Proofs.Ytmhhljbhbhlefaa.memmapWord
open Go.ChangeShapes Go.WideShapes Go.ChangeAt Go.RowKit
open Go.ChangeMaps (open_string shut_string)
set_option linter.unusedVariables false

theorem own : ownKnob Try.prog.godebug = none := by kernel_rfl
theorem laidOut : laidOutB Try.prog = true := by kernel_rfl

open Go.Proofs.Ytmhhljbhbhlefaa
abbrev Reg (i o r f : Int) (L : List Mm.Rg) : Prop := ∀ w : World, Calls Try.prog 7 #[.agg #[.int .i64 i, .int .i64 o, .int .i64 r], .int .i64 f] w fun e w' => ∃ a c, e = .returned (.tuple #[.slice (some a) 7 c, .int .i64 0]) ∧ SliceC rgC 3 w' (.slice (some a) 7 c) L ∧ Below w.heap.size w w'
abbrev Fnd (L : List Mm.Rg) (a n : Int) (sw : Bool) (X E : Int) : Prop := ∀ (w : World) (p : Option Addr) (c : Nat), SliceC rgC 3 w (.slice p 7 c) L → Calls Try.prog 13 #[.slice p 7 c, .int .i64 a, .int .i64 n, .bool sw] w fun e w' => e = .returned (.tuple #[.int .i64 X, .int .i64 E]) ∧ Below w.heap.size w w'
set_option maxHeartbeats 4000000 in
set_option maxRecDepth 100000 in
theorem word_err (i o r f a E : Int) (sw : Bool) (w : World) (hE : ¬ E = 0) (C0 : Hid (∀ w : World, Calls Try.prog 7 #[.agg #[.int .i64 i, .int .i64 o, .int .i64 r], .int .i64 f] w fun e w' => e = .returned (.tuple #[.slice none 0 0, .int .i64 E]) ∧ Below w.heap.size w w')) :
    Calls Try.prog 6 #[.agg #[.int .i64 i, .int .i64 o, .int .i64 r], .int .i64 f, .int .i64 a, .bool sw] w fun e w' => e = .returned (.bool true) ∧ Below w.heap.size w w' := by
  have hEb : (E != 0) = true := by simpa using hE
  go_enter Try.func6, Try.ntmps6
  go_wp2_with (first
    | (go_at_call 7; refine (C0.out _).mono ?_; rintro e w1 ⟨rfl, hb1⟩; have HB := Lib.hid (((Below.refl _ _).alloc (Nat.le_refl _) _).trans (hb1.mono (by simp))); clear hb1)
    | (go_at_call 12; refine (lives_any _).mono ?_; rintro r w5 ⟨rfl, hb5⟩; have HB5 := Lib.hid (HB.out.trans (hb5.mono HB.out.size)); clear hb5))
  go_ret
  exact ⟨rfl, HB5.out⟩
set_option maxHeartbeats 4000000 in
set_option maxRecDepth 100000 in
theorem word_out (i o r f a : Int) (sw : Bool) (L : List Mm.Rg) (w : World) (h : a < 0 ∨ 1099511627776 < a) (C0 : Hid (Reg i o r f L)) :
    Calls Try.prog 6 #[.agg #[.int .i64 i, .int .i64 o, .int .i64 r], .int .i64 f, .int .i64 a, .bool sw] w fun e w' => e = .returned (.bool true) ∧ Below w.heap.size w w' := by
  rcases h with h | h
  all_goals (
    go_enter Try.func6, Try.ntmps6
    go_wp2_with (first
      | (go_at_call 7; refine (C0.out _).mono ?_; rintro e w1 ⟨a1, c1, rfl, -, hb1⟩; have HB := Lib.hid (((Below.refl _ _).alloc (Nat.le_refl _) _).trans (hb1.mono (by simp))); clear hb1)
      | (go_at_call 12; refine (lives_any _).mono ?_; rintro r w5 ⟨rfl, hb5⟩; have HB5 := Lib.hid (HB.out.trans (hb5.mono HB.out.size)); clear hb5))
    go_ret
    exact ⟨rfl, HB5.out⟩)
/-- whether all of so many bytes are told -/
def allB (a : Int) (G : Nat → Int) : Nat → Bool
  | 0 => a % 4 == 0
  | k + 1 => allB a G k && (G k == 0)
set_option maxHeartbeats 8000000 in
set_option maxRecDepth 100000 in
theorem word_in (i o r f a I F : Int) (N G : Nat → Int) (sw : Bool) (L : List Mm.Rg) (w : World) (h0 : 0 ≤ a) (h1 : a ≤ 1099511627776) (C0 : Hid (Reg i o r f L)) (C1 : Hid (Fnd L a 4 sw I F)) (C2 : Hid (∀ k : Nat, k < 4 → Fnd L (a + (k : Int)) 1 sw (N k) (G k)))
    (hF : Hid (F = 0 → ∀ k, k < 4 → G k = 0 ∧ N k = I)) (hA : Hid ((F == 0) = allB a G 4)) :
    Calls Try.prog 6 #[.agg #[.int .i64 i, .int .i64 o, .int .i64 r], .int .i64 f, .int .i64 a, .bool sw] w fun e w' => e = .returned (.bool true) ∧ Below w.heap.size w w' := by
  have hb0 : decide (a < 0) = false := decide_eq_false (by omega)
  have hb1 : decide (1099511627776 < a) = false := decide_eq_false (by omega)
  go_enter Try.func6, Try.ntmps6
  go_wp2_with (first
    | (go_at_call 7; refine (C0.out _).mono ?_; rintro e w1 ⟨a1, c1, rfl, hs1, hb1⟩; have HS := Lib.hid hs1; have HB := Lib.hid (((Below.refl _ _).alloc (Nat.le_refl _) _).trans (hb1.mono (by simp))); clear hs1 hb1)
    | (go_at_call 13; refine (C1.out _ _ _ HS.out).mono ?_; rintro e w2 ⟨rfl, hb2⟩; have HS2 := Lib.hid (HS.out.kept hb2); have HB2 := Lib.hid (HB.out.trans (hb2.mono HB.out.size)); clear hb2))
  go_loopw [13, 14] (fun A K W => ∃ k : Nat, K = .int .i64 (k : Int) ∧ k ≤ 4 ∧ A = .bool (allB a G k) ∧ Below w2.heap.size w2 W) (fun _ K _ => 4 - (intOf K).toNat)
  case atStart => exact ⟨0, rfl, Nat.zero_le _, rfl, Below.refl _ _⟩
  case round =>
    obtain ⟨k, rfl, hk4, rfl, hB⟩ := hrel
    by_cases hlt : k < 4
    · have hlt' : (k : Int) < 4 := by omega
      have HS3 := Lib.hid (HS2.out.kept hB)
      have C3 := Lib.hid (C2.out k hlt)
      have HW : wrap64 (a + (k : Int)) = a + (k : Int) := Mm.w64 (by omega) (by omega)
      have HF2 := Lib.hid (fun h => hF.out h k hlt)
      have HS1 : Hid (allB a G (k + 1) = (allB a G k && (G k == 0))) := Lib.hid rfl
      generalize N k = n at *
      generalize G k = g at *
      generalize allB a G k = B0 at *
      by_cases hF0 : F = 0
      · obtain ⟨rfl, rfl⟩ := HF2.out hF0
        subst hF0
        cases B0
        all_goals (
          go_wp2_with (go_at_call 13; refine (C3.out _ _ _ HS3.out).mono ?_; rintro e w4 ⟨rfl, hb4⟩; have HB4 := Lib.hid (hB.trans (hb4.mono hB.size)); clear hb4)
          exact ⟨⟨k + 1, by simp, by omega, by rw [HS1.out]; first | rfl | (simp; done) | (simp; assumption), HB4.out⟩, by simp [intOf]; omega⟩)
      · by_cases hg : g = 0
        · subst hg
          cases B0
          all_goals (
            go_wp2_with (go_at_call 13; refine (C3.out _ _ _ HS3.out).mono ?_; rintro e w4 ⟨rfl, hb4⟩; have HB4 := Lib.hid (hB.trans (hb4.mono hB.size)); clear hb4)
            exact ⟨⟨k + 1, by simp, by omega, by rw [HS1.out]; first | rfl | (simp; done) | (simp; assumption), HB4.out⟩, by simp [intOf]; omega⟩)
        · have hgb : (g == 0) = false := by simpa using hg
          cases B0
          all_goals (
            go_wp2_with (go_at_call 13; refine (C3.out _ _ _ HS3.out).mono ?_; rintro e w4 ⟨rfl, hb4⟩; have HB4 := Lib.hid (hB.trans (hb4.mono hB.size)); clear hb4)
            exact ⟨⟨k + 1, by simp, by omega, by rw [HS1.out]; first | rfl | (simp; done) | (simp; assumption), HB4.out⟩, by simp [intOf]; omega⟩)
    · obtain rfl : k = 4 := by omega
      rw [← hA.out]
      go_wp2_with (go_at_call 12; refine (lives_any _).mono ?_; rintro r w5 ⟨rfl, hb5⟩; have HB5 := Lib.hid ((HB2.out.trans (hB.mono HB2.out.size)).trans (hb5.mono (HB2.out.trans (hB.mono HB2.out.size)).size)); clear hb5)
      go_ret
      exact ⟨rfl, HB5.out⟩
theorem allB_true {a : Int} {G : Nat → Int} (h : allB a G 4 = true) : a % 4 = 0 ∧ ∀ k, k < 4 → G k = 0 := by
  simp only [allB, Bool.and_eq_true, beq_iff_eq] at h
  refine ⟨h.1.1.1.1, fun k hk => ?_⟩
  rcases (by omega : k = 0 ∨ k = 1 ∨ k = 2 ∨ k = 3) with rfl | rfl | rfl | rfl
  · exact h.1.1.1.2
  · exact h.1.1.2
  · exact h.1.2
  · exact h.2
theorem true_allB {a : Int} {G : Nat → Int} (h4 : a % 4 = 0) (hG : ∀ k, k < 4 → G k = 0) : allB a G 4 = true := by
  simp only [allB, Bool.and_eq_true, beq_iff_eq]
  exact ⟨⟨⟨⟨h4, hG 0 (by decide)⟩, hG 1 (by decide)⟩, hG 2 (by decide)⟩, hG 3 (by decide)⟩
theorem word_all (i o r f a : Int) (sw : Bool) (w : World) :
    Calls Try.prog 6 #[.agg #[.int .i64 i, .int .i64 o, .int .i64 r], .int .i64 f, .int .i64 a, .bool sw] w fun e w' => e = .returned (.bool true) ∧ Below w.heap.size w w' := by
  by_cases hE : Mm.err i o r f = 0
  · have C0 : Hid (Reg i o r f (Mm.seven i o r f)) := Lib.hid fun w => regions_ok i o r f w (Lib.hid hE)
    have ok := Mm.okay_of hE
    by_cases h : a < 0 ∨ 1099511627776 < a
    · exact word_out i o r f a sw _ w h C0
    · have h0 : 0 ≤ a := by omega
      have h1 : a ≤ 1099511627776 := by omega
      have hwf : Mm.wfs (Mm.seven i o r f) := by unfold Mm.okay at ok; exact Mm.seven_wfs (by omega) (by omega) (by omega) (by omega)
      have C1 : Fnd (Mm.seven i o r f) a 4 sw (Mm.find (Mm.seven i o r f) a 4 sw).1 (Mm.find (Mm.seven i o r f) a 4 sw).2 := fun w p c hs => find_any p 7 c _ a 4 sw w (Lib.hid rfl) (by decide) (Lib.hid hs) (Lib.hid hwf) (Lib.hid (by omega))
      have C2 : ∀ k : Nat, k < 4 → Fnd (Mm.seven i o r f) (a + (k : Int)) 1 sw (Mm.look (a + k) 1 sw (Mm.seven i o r f) 0).1 (Mm.look (a + k) 1 sw (Mm.seven i o r f) 0).2 := fun k hk w p c hs => find_1 p 7 c _ (a + (k : Int)) sw _ _ w (Lib.hid rfl) (by decide) (Lib.hid hs) (Lib.hid hwf) (Lib.hid (by omega)) (Lib.hid rfl)
      refine word_in i o r f a _ _ (fun k => (Mm.look (a + k) 1 sw (Mm.seven i o r f) 0).1) (fun k => (Mm.look (a + k) 1 sw (Mm.seven i o r f) 0).2) sw _ w h0 h1 C0 (Lib.hid C1) (Lib.hid C2) (Lib.hid fun hF k hk => (Mm.word_down ok h0 hF).2 k hk) (Lib.hid ?_)
      by_cases hF : (Mm.find (Mm.seven i o r f) a 4 sw).2 = 0
      · have hd := Mm.word_down ok h0 hF
        rw [true_allB hd.1 (fun k hk => (hd.2 k hk).1), hF]
        rfl
      · cases hb : allB a (fun k => (Mm.look (a + k) 1 sw (Mm.seven i o r f) 0).2) 4 with
        | true =>
          have ht := allB_true hb
          exact absurd (Mm.word_up ok h0 ht.1 ht.2) hF
        | false => simpa using hF
  · exact word_err i o r f a _ sw w hE (Lib.hid fun w => regions_no i o r f _ w (Lib.hid rfl) hE)
theorem walk (zi0 zo0 zr0 : Int) (a1 : Int) (a2 : Int) (a3 : Bool) (wi0 : (Lit.int .i64 zi0).wf = true) (wo0 : (Lit.int .i64 zo0).wf = true) (wr0 : (Lit.int .i64 zr0).wf = true) (w1 : (Lit.int .i64 a1).wf = true) (w2 : (Lit.int .i64 a2).wf = true) (w : World) :
    Calls Try.prog 6 #[.agg #[.int .i64 zi0, .int .i64 zo0, .int .i64 zr0], .int .i64 a1, .int .i64 a2, .bool a3] w fun e w' => e = .returned (.bool true) ∧ Below w.heap.size w w' := by
  exact word_all zi0 zo0 zr0 a1 a2 a3 w

set_option maxRecDepth 100000 in
theorem lifted (os : Os) (started : os.Started) (H : Type) (enc : TypeId × Value → H) :
    ReturnsInHanded {} Try.checked os 6 .any (Rows.memmapWordSpec.pre6 enc Try.prog Try.f6 Rows.memmapWordRow.domain false) (Rows.memmapWordSpec.post enc Try.prog Try.f6 false true false false) := by
  refine returnsInHanded_of_change (C := Try.checked) own started (by kernel_rfl) Try.func6
    (ChangeSpec.witness6 (enc := enc) (C := Try.checked) false ⟨#[], #[.agg #[.int .i64 0, .int .i64 0, .int .i64 0], .int .i64 0, .int .i64 0, .bool false], []⟩ 8 (by kernel_rfl) (by kernel_rfl) (by kernel_rfl) (by kernel_rfl)) ?_
  intro W base args ds gs before hval0 hW hcnd _
  have hval : ∀ (j : Nat) t v, Try.f6.params[j]? = some t → args[j]? = some v → Value.okWide Try.prog W .any base t v := hval0
  have hW' := hW
  obtain ⟨p, q, hA0, hV, rfl, hfz, hnd⟩ := hW
  have hA : DataW.TrodAll enc Try.prog W 0 (fun _ => true) true Try.f6.params.toList args.toList ds p := hA0
  rw [Try.params6] at hA hval
  obtain ⟨v0, vs0, d0, ds0, p0, q0, hargs, rfl, rfl, h0, r0⟩ := trodAll_cons hA
  obtain ⟨v1, vs1, d1, ds1, p1, q1, rfl, rfl, rfl, h1, r1⟩ := trodAll_cons r0
  obtain ⟨v2, vs2, d2, ds2, p2, q2, rfl, rfl, rfl, h2, r2⟩ := trodAll_cons r1
  obtain ⟨v3, vs3, d3, ds3, p3, q3, rfl, rfl, rfl, h3, r3⟩ := trodAll_cons r2
  obtain ⟨rfl, rfl, rfl⟩ := trodAll_nil r3
  obtain rfl : args = #[v0, v1, v2, v3] := by cases args; simp_all
  obtain ⟨rfl, rfl⟩ := trodVars_none hV
  have k0 := h0
  have lt0 : ∀ x ∈ p0, x.block < W.heap.size := by obtain ⟨m, hm⟩ := k0; exact DataW.trod_lt m _ _ _ hm
  obtain ⟨zi0, zo0, zr0, rfl, wi0, wo0, wr0⟩ := open_sizes (hval 0 23 v0 rfl rfl) h0
  obtain ⟨a1, rfl, rfl, rfl, w1⟩ := open_int Try.underlying3 (hval 1 3 v1 rfl rfl) h1
  obtain ⟨a2, rfl, rfl, rfl, w2⟩ := open_int Try.underlying3 (hval 2 3 v2 rfl rfl) h2
  obtain ⟨a3, rfl, rfl, rfl⟩ := open_bool Try.underlying4 (hval 3 4 v3 rfl rfl) h3
  clear hA0 hval0
  refine (walk zi0 zo0 zr0 a1 a2 a3 wi0 wo0 wr0 w1 w2 W).mono fun e W' ⟨he, bel⟩ => ?_
  subst he
  exact ⟨_, rfl, _, _, _, [], _, [], hW', trodAll_mk1 (shut_bool Try.underlying4 _), (trodAll_cons_mk (Below.trod laidOut (by kernel_rfl) (of_decide_eq_true (by kernel_rfl)) k0 bel lt0) (trodAll_cons_mk (shut_int Try.underlying3 w1) (trodAll_cons_mk (shut_int Try.underlying3 w2) (trodAll_cons_mk (shut_bool Try.underlying4 _) trodAll_mk0)))), rfl, bel.frame _, fun h => by cases h⟩

theorem over : Rows.memmapWordRow.holds Try.pinned (OpenSpec.ofChange Rows.memmapWordSpec) :=
  OpenClaim.holds_of_wide 6 Try.f6 rfl rfl rfl rfl rfl rfl rfl ⟨rfl, rfl, rfl, rfl, rfl⟩ rfl rfl rfl rfl rfl (by kernel_rfl) Try.func6 (by kernel_rfl)
    (of_decide_eq_true (by kernel_rfl)) (by unfold Func.isWrapper; first | (rw [if_pos (by decide +kernel)]; kernel_rfl) | (rw [if_neg (by decide +kernel)]; exact ⟨rfl, rfl⟩))
    (fun os started H enc _ => lifted os started H enc)

/-- the statement -/
theorem proved : Rows.MemmapWordSaid := over
#print axioms proved
end Go.Proofs.Ytmhhljbhbhlefaa.memmapWord
