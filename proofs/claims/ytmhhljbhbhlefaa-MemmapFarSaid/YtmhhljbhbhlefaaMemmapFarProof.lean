/-
  Law MemmapFar: for all sizes, every address and every bit, an address that may be written leads with one bit turned to no other region that may be written, and lies in one region alone.
  Conditions: none but those of the given row.
-/
import Derived.Test.YtmhhljbhbhlefaaRows
import Derived.Test.YtmhhljbhbhlefaaMemO
import Derived.Test.YtmhhljbhbhlefaaMemP
import Derived.WalkKit
import Derived.ProofKit
import Derived.OpenShut
import Derived.ShutString
import Derived.ChangeOld
import Derived.Below
import Derived.LoopN
import Derived.SizedLaws
namespace Go.Proofs.Ytmhhljbhbhlefaa.memmapFar
open Go.ChangeShapes Go.WideShapes Go.ChangeAt Go.RowKit
open Go.ChangeMaps (open_string shut_string)
set_option linter.unusedVariables false

theorem own : ownKnob Try.prog.godebug = none := by kernel_rfl
theorem laidOut : laidOutB Try.prog = true := by kernel_rfl

open Go.Proofs.Ytmhhljbhbhlefaa
theorem xor_eq (a b : Int) (h0 : 0 ≤ a) (h1 : a < 4294967296) (h3 : b ≤ 31) : bits .xor .i64 a (wrap64 (2 ^ b.toNat)) = ((a.toNat ^^^ 2 ^ b.toNat : Nat) : Int) := by
  have hp : (2 : Nat) ^ b.toNat ≤ 2 ^ 31 := Nat.pow_le_pow_right (by decide) (by omega)
  have hp2 : (2 : Nat) ^ b.toNat ≤ 2147483648 := hp
  have hP : ((2 ^ b.toNat : Nat) : Int) = (2 : Int) ^ b.toNat := Int.natCast_pow 2 b.toNat
  rw [← hP]
  have hlt : a.toNat ^^^ 2 ^ b.toNat < 2 ^ 32 := Nat.xor_lt_two_pow (by omega) (by omega)
  have hlt2 : a.toNat ^^^ 2 ^ b.toNat < 4294967296 := hlt
  generalize 2 ^ b.toNat = P at *
  rw [show wrap64 (P : Int) = P from Mm.w64 (by omega) (by omega)]
  show IntKind.i64.wrap ((BitVec.ofInt 64 a ^^^ BitVec.ofInt 64 (P : Int)).toNat : Int) = _
  rw [BitVec.toNat_xor, BitVec.toNat_ofInt, BitVec.toNat_ofInt]
  rw [show (a % ((2 ^ 64 : Nat) : Int)).toNat = a.toNat by rw [show ((2 ^ 64 : Nat) : Int) = 18446744073709551616 from rfl]; omega, show ((P : Int) % ((2 ^ 64 : Nat) : Int)).toNat = P by rw [show ((2 ^ 64 : Nat) : Int) = 18446744073709551616 from rfl]; omega]
  rw [IntKind.wrap_i64]
  omega
abbrev Reg (i o r f : Int) (L : List Mm.Rg) : Prop := ∀ w : World, Calls Try.prog 7 #[.agg #[.int .i64 i, .int .i64 o, .int .i64 r], .int .i64 f] w fun e w' => ∃ a c, e = .returned (.tuple #[.slice (some a) 7 c, .int .i64 0]) ∧ SliceC rgC 3 w' (.slice (some a) 7 c) L ∧ Below w.heap.size w w'
abbrev Fnd (L : List Mm.Rg) (a : Int) (X E : Int) : Prop := ∀ (w : World) (p : Option Addr) (c : Nat), SliceC rgC 3 w (.slice p 7 c) L → Calls Try.prog 13 #[.slice p 7 c, .int .i64 a, .int .i64 1, .bool true] w fun e w' => e = .returned (.tuple #[.int .i64 X, .int .i64 E]) ∧ Below w.heap.size w w'
set_option maxHeartbeats 4000000 in
set_option maxRecDepth 100000 in
theorem far_err (i o r f a b E : Int) (w : World) (hE : ¬ E = 0) (C0 : Hid (∀ w : World, Calls Try.prog 7 #[.agg #[.int .i64 i, .int .i64 o, .int .i64 r], .int .i64 f] w fun e w' => e = .returned (.tuple #[.slice none 0 0, .int .i64 E]) ∧ Below w.heap.size w w')) :
    Calls Try.prog 5 #[.agg #[.int .i64 i, .int .i64 o, .int .i64 r], .int .i64 f, .int .i64 a, .int .i64 b] w fun e w' => e = .returned (.bool true) ∧ Below w.heap.size w w' := by
  go_enter Try.func5, Try.ntmps5
  go_wp2_with (first
    | (go_at_call 7; refine (C0.out _).mono ?_; rintro e w1 ⟨rfl, hb1⟩; have HB := Lib.hid (((Below.refl _ _).alloc (Nat.le_refl _) _).trans (hb1.mono (by simp))); clear hb1)
    | (go_at_call 12; refine (lives_any _).mono ?_; rintro r w5 ⟨rfl, hb5⟩; have HB5 := Lib.hid (HB.out.trans (hb5.mono HB.out.size)); clear hb5))
  go_ret
  exact ⟨rfl, HB5.out⟩
set_option maxHeartbeats 4000000 in
set_option maxRecDepth 100000 in
theorem far_out (i o r f a b : Int) (L : List Mm.Rg) (w : World) (h : ¬ (((0 ≤ a ∧ a < 4294967296) ∧ 0 ≤ b) ∧ b ≤ 31)) (C0 : Hid (Reg i o r f L)) :
    Calls Try.prog 5 #[.agg #[.int .i64 i, .int .i64 o, .int .i64 r], .int .i64 f, .int .i64 a, .int .i64 b] w fun e w' => e = .returned (.bool true) ∧ Below w.heap.size w w' := by
  have H := Lib.hid h
  clear h
  by_cases h1 : a < 0
  · go_enter Try.func5, Try.ntmps5
    go_wp2_with (first
      | (go_at_call 7; refine (C0.out _).mono ?_; rintro e w1 ⟨a1, c1, rfl, -, hb1⟩; have HB := Lib.hid (((Below.refl _ _).alloc (Nat.le_refl _) _).trans (hb1.mono (by simp))); clear hb1)
      | (go_at_call 12; refine (lives_any _).mono ?_; rintro r w5 ⟨rfl, hb5⟩; have HB5 := Lib.hid (HB.out.trans (hb5.mono HB.out.size)); clear hb5))
    go_ret
    exact ⟨rfl, HB5.out⟩
  · by_cases h2 : 4294967296 ≤ a
    · go_enter Try.func5, Try.ntmps5
      go_wp2_with (first
        | (go_at_call 7; refine (C0.out _).mono ?_; rintro e w1 ⟨a1, c1, rfl, -, hb1⟩; have HB := Lib.hid (((Below.refl _ _).alloc (Nat.le_refl _) _).trans (hb1.mono (by simp))); clear hb1)
        | (go_at_call 12; refine (lives_any _).mono ?_; rintro r w5 ⟨rfl, hb5⟩; have HB5 := Lib.hid (HB.out.trans (hb5.mono HB.out.size)); clear hb5))
      go_ret
      exact ⟨rfl, HB5.out⟩
    · by_cases h3 : b < 0
      · go_enter Try.func5, Try.ntmps5
        go_wp2_with (first
          | (go_at_call 7; refine (C0.out _).mono ?_; rintro e w1 ⟨a1, c1, rfl, -, hb1⟩; have HB := Lib.hid (((Below.refl _ _).alloc (Nat.le_refl _) _).trans (hb1.mono (by simp))); clear hb1)
          | (go_at_call 12; refine (lives_any _).mono ?_; rintro r w5 ⟨rfl, hb5⟩; have HB5 := Lib.hid (HB.out.trans (hb5.mono HB.out.size)); clear hb5))
        go_ret
        exact ⟨rfl, HB5.out⟩
      · have h4 : 31 < b := by have := H.out; omega
        go_enter Try.func5, Try.ntmps5
        go_wp2_with (first
          | (go_at_call 7; refine (C0.out _).mono ?_; rintro e w1 ⟨a1, c1, rfl, -, hb1⟩; have HB := Lib.hid (((Below.refl _ _).alloc (Nat.le_refl _) _).trans (hb1.mono (by simp))); clear hb1)
          | (go_at_call 12; refine (lives_any _).mono ?_; rintro r w5 ⟨rfl, hb5⟩; have HB5 := Lib.hid (HB.out.trans (hb5.mono HB.out.size)); clear hb5))
        go_ret
        exact ⟨rfl, HB5.out⟩
set_option maxHeartbeats 4000000 in
set_option maxRecDepth 100000 in
theorem far_lost (i o r f a b X E : Int) (L : List Mm.Rg) (w : World) (h : ((0 ≤ a ∧ a < 4294967296) ∧ 0 ≤ b) ∧ b ≤ 31) (hE : ¬ E = 0) (C0 : Hid (Reg i o r f L)) (C1 : Hid (Fnd L a X E)) :
    Calls Try.prog 5 #[.agg #[.int .i64 i, .int .i64 o, .int .i64 r], .int .i64 f, .int .i64 a, .int .i64 b] w fun e w' => e = .returned (.bool true) ∧ Below w.heap.size w w' := by
  obtain ⟨⟨⟨h0, h1⟩, h2⟩, h3⟩ := h
  go_enter Try.func5, Try.ntmps5
  go_wp2_with (first
    | (go_at_call 7; refine (C0.out _).mono ?_; rintro e w1 ⟨a1, c1, rfl, hs1, hb1⟩; have HS := Lib.hid hs1; have HB := Lib.hid (((Below.refl _ _).alloc (Nat.le_refl _) _).trans (hb1.mono (by simp))); clear hs1 hb1)
    | (go_at_call 13; refine (C1.out _ _ _ HS.out).mono ?_; rintro e w2 ⟨rfl, hb2⟩; have HB2 := Lib.hid (HB.out.trans (hb2.mono HB.out.size)); clear hb2)
    | (go_at_call 12; refine (lives_any _).mono ?_; rintro r w5 ⟨rfl, hb5⟩; have HB5 := Lib.hid (HB2.out.trans (hb5.mono HB2.out.size)); clear hb5))
  go_ret
  exact ⟨rfl, HB5.out⟩
set_option maxHeartbeats 8000000 in
set_option maxRecDepth 100000 in
theorem far_found (i o r f a b X Y G : Int) (L : List Mm.Rg) (w : World) (h : ((0 ≤ a ∧ a < 4294967296) ∧ 0 ≤ b) ∧ b ≤ 31) (hL : Hid (L.length = 7)) (C0 : Hid (Reg i o r f L)) (C1 : Hid (Fnd L a X 0)) (C2 : Hid (Fnd L (bits .xor .i64 a (wrap64 (2 ^ b.toNat))) Y G))
    (hY : (G = 0 ∧ X = Y) ∨ ¬ G = 0) (hA : Hid (∀ k (hk : k < L.length), (k : Int) ≠ X → ¬ (L[k].base ≤ a ∧ a < wrap64 (L[k].base + L[k].len)))) :
    Calls Try.prog 5 #[.agg #[.int .i64 i, .int .i64 o, .int .i64 r], .int .i64 f, .int .i64 a, .int .i64 b] w fun e w' => e = .returned (.bool true) ∧ Below w.heap.size w w' := by
  obtain ⟨⟨⟨h0, h1⟩, h2⟩, h3⟩ := h
  have HY := Lib.hid hY
  clear hY
  go_enter Try.func5, Try.ntmps5
  rcases HY.out with ⟨rfl, rfl⟩ | hG0
  all_goals (
    go_wp2_with (first
      | (go_at_call 7; refine (C0.out _).mono ?_; rintro e w1 ⟨a1, c1, rfl, hs1, hb1⟩; have HS := Lib.hid hs1; have HB := Lib.hid (((Below.refl _ _).alloc (Nat.le_refl _) _).trans (hb1.mono (by simp))); clear hs1 hb1)
      | (go_at_call 13; first | (refine (C2.out _ _ _ HS2.out).mono ?_; rintro e w3 ⟨rfl, hb3⟩; have HS3 := Lib.hid (HS2.out.kept hb3); have HB3 := Lib.hid (HB2.out.trans (hb3.mono HB2.out.size)); clear hb3) | (refine (C1.out _ _ _ HS.out).mono ?_; rintro e w2 ⟨rfl, hb2⟩; have HS2 := Lib.hid (HS.out.kept hb2); have HB2 := Lib.hid (HB.out.trans (hb2.mono HB.out.size)); clear hb2))
      | (go_at_call 12; refine (lives_any _).mono ?_; rintro r w5 ⟨rfl, hb5⟩; have HB5 := Lib.hid (HB2.out.trans (hb5.mono HB2.out.size)); clear hb5))
    go_loopw [15] (fun K W => ∃ k : Nat, K = .int .i64 (k : Int) ∧ k ≤ 7 ∧ ∃ d, W = w3.drewN d) (fun K _ => 7 - (intOf K).toNat)
    case atStart => exact ⟨0, rfl, Nat.zero_le _, 0, rfl⟩
    case round =>
      obtain ⟨k, rfl, hk7, d, rfl⟩ := hrel
      by_cases hlt : k < 7
      · have hkL : k < L.length := by rw [hL.out]; exact hlt
        have hlt' : (k : Int) < 7 := by omega
        have hk0 : (0 : Int) ≤ (k : Int) := by omega
        have hA2 := hA.out k hkL
        rcases hx : L[k] with ⟨bs, ln, v⟩
        rw [hx] at hA2
        have hL2 := HS3.out
        obtain ⟨p', c', e', hat⟩ := hL2
        obtain ⟨ad, hpa, hOn⟩ := hat k hkL
        injection e' with ep en ec
        rw [hpa] at ep
        obtain rfl := Option.some.inj ep
        rw [hx] at hOn
        have x0 : w3.cell? (a1.add (k * 3)) = some (.int .i64 bs) := by have h0 := hOn 0 _ rfl; rw [add_zero'] at h0; exact h0
        have x1 : w3.cell? ⟨(a1.add (k * 3)).block, (a1.add (k * 3)).off + 1, none⟩ = some (.int .i64 ln) := hOn 1 _ rfl
        have HA2 := Lib.hid hA2
        clear hOn hat hpa ec en hx hA2 ep
        by_cases g0 : (k : Int) = X
        · have gb : ((k : Int) != X) = false := by simpa using g0
          clear g0
          go_wp2
          go_quiet (fail)
          go_wp2
          exact ⟨⟨k + 1, by simp, by omega, d + nq, rfl⟩, by simp [intOf]; omega⟩
        · have gb : ((k : Int) != X) = true := by simpa using g0
          have HA3 := Lib.hid (HA2.out g0)
          clear g0
          by_cases g1 : bs ≤ a
          · have gc : decide (a < wrap64 (bs + ln)) = false := decide_eq_false fun h => HA3.out ⟨g1, h⟩
            go_wp2
            go_quiet (fail)
            go_wp2
            exact ⟨⟨k + 1, by simp, by omega, d + nq, rfl⟩, by simp [intOf]; omega⟩
          · have gc : decide (bs ≤ a) = false := decide_eq_false g1
            go_wp2
            go_quiet (fail)
            go_wp2
            exact ⟨⟨k + 1, by simp, by omega, d + nq, rfl⟩, by simp [intOf]; omega⟩
      · obtain rfl : k = 7 := by omega
        go_wp2_with (go_at_call 12; refine (lives_any _).mono ?_; rintro r w5 ⟨rfl, hb5⟩; have HB5 := Lib.hid ((below_drewN HB3.out d).trans (hb5.mono (below_drewN HB3.out d).size)); clear hb5)
        go_ret
        exact ⟨rfl, HB5.out⟩)
theorem far_all (i o r f a b : Int) (w : World) :
    Calls Try.prog 5 #[.agg #[.int .i64 i, .int .i64 o, .int .i64 r], .int .i64 f, .int .i64 a, .int .i64 b] w fun e w' => e = .returned (.bool true) ∧ Below w.heap.size w w' := by
  by_cases hE : Mm.err i o r f = 0
  · have C0 : Hid (Reg i o r f (Mm.seven i o r f)) := Lib.hid fun w => regions_ok i o r f w (Lib.hid hE)
    have ok := Mm.okay_of hE
    by_cases h : ((0 ≤ a ∧ a < 4294967296) ∧ 0 ≤ b) ∧ b ≤ 31
    · have hwf : Mm.wfs (Mm.seven i o r f) := by unfold Mm.okay at ok; exact Mm.seven_wfs (by omega) (by omega) (by omega) (by omega)
      have F : ∀ t, t ≤ 9223372036854775807 → Fnd (Mm.seven i o r f) t (Mm.look t 1 true (Mm.seven i o r f) 0).1 (Mm.look t 1 true (Mm.seven i o r f) 0).2 := fun t ht w p c hs => find_1 p 7 c _ t true _ _ w (Lib.hid rfl) (by decide) (Lib.hid hs) (Lib.hid hwf) (Lib.hid ht) (Lib.hid rfl)
      rcases hX : Mm.look a 1 true (Mm.seven i o r f) 0 with ⟨X, E⟩
      have C1 := F a (by omega)
      rw [hX] at C1
      by_cases hE1 : E = 0
      · subst hE1
        have ex := xor_eq a b h.1.1.1 h.1.1.2 h.2
        have hlt : a.toNat ^^^ 2 ^ b.toNat < 2 ^ 32 := Nat.xor_lt_two_pow (by omega) (Nat.pow_lt_pow_right (by decide) (by omega))
        have hlt2 : a.toNat ^^^ 2 ^ b.toNat < 4294967296 := hlt
        rcases hY : Mm.look (bits .xor .i64 a (wrap64 (2 ^ b.toNat))) 1 true (Mm.seven i o r f) 0 with ⟨Y, G⟩
        have C2 := F (bits .xor .i64 a (wrap64 (2 ^ b.toNat))) (by rw [ex]; omega)
        rw [hY] at C2
        obtain ⟨j, hj, hXj, hh, hw⟩ := Mm.look_ok hX rfl
        refine far_found i o r f a b X Y G _ w h (Lib.hid rfl) C0 (Lib.hid C1) (Lib.hid C2) ?_ (Lib.hid ?_)
        · by_cases hG : G = 0
          · left
            subst hG
            obtain ⟨k, hk, hYk, hh2, hw2⟩ := Mm.look_ok hY rfl
            rw [ex] at hh2
            have : j = k := Mm.far ok (by omega) hj hk (hw rfl) (hw2 rfl) (by rw [show ((a.toNat : Nat) : Int) = a by omega]; exact hh) hh2
            exact ⟨rfl, by omega⟩
          · right; exact hG
        · intro k hk hne hin
          have hb := Mm.has_one hh
          apply hne
          have hwr : wrap64 ((Mm.seven i o r f)[k].base + (Mm.seven i o r f)[k].len) = (Mm.seven i o r f)[k].base + (Mm.seven i o r f)[k].len := by
            have h7 : k < 7 := hk
            unfold Mm.okay at ok
            rcases (by omega : k = 0 ∨ k = 1 ∨ k = 2 ∨ k = 3 ∨ k = 4 ∨ k = 5 ∨ k = 6) with rfl | rfl | rfl | rfl | rfl | rfl | rfl <;> (apply Mm.w64 <;> simp [Mm.seven] <;> omega)
          rw [hwr] at hin
          have : j = k := Mm.apart ok hj hk hb.1 hb.2 hin.1 hin.2
          omega
      · exact far_lost i o r f a b X E _ w h hE1 C0 (Lib.hid C1)
    · exact far_out i o r f a b _ w h C0
  · exact far_err i o r f a b _ w hE (Lib.hid fun w => regions_no i o r f _ w (Lib.hid rfl) hE)
theorem walk (zi0 zo0 zr0 : Int) (a1 : Int) (a2 : Int) (a3 : Int) (wi0 : (Lit.int .i64 zi0).wf = true) (wo0 : (Lit.int .i64 zo0).wf = true) (wr0 : (Lit.int .i64 zr0).wf = true) (w1 : (Lit.int .i64 a1).wf = true) (w2 : (Lit.int .i64 a2).wf = true) (w3 : (Lit.int .i64 a3).wf = true) (w : World) :
    Calls Try.prog 5 #[.agg #[.int .i64 zi0, .int .i64 zo0, .int .i64 zr0], .int .i64 a1, .int .i64 a2, .int .i64 a3] w fun e w' => e = .returned (.bool true) ∧ Below w.heap.size w w' := by
  exact far_all zi0 zo0 zr0 a1 a2 a3 w

set_option maxRecDepth 100000 in
theorem lifted (os : Os) (started : os.Started) (H : Type) (enc : TypeId × Value → H) :
    ReturnsInHanded {} Try.checked os 5 .any (Rows.memmapFarSpec.pre6 enc Try.prog Try.f5 Rows.memmapFarRow.domain false) (Rows.memmapFarSpec.post enc Try.prog Try.f5 false true false false) := by
  refine returnsInHanded_of_change (C := Try.checked) own started (by kernel_rfl) Try.func5
    (ChangeSpec.witness6 (enc := enc) (C := Try.checked) false ⟨#[], #[.agg #[.int .i64 0, .int .i64 0, .int .i64 0], .int .i64 0, .int .i64 0, .int .i64 0], []⟩ 8 (by kernel_rfl) (by kernel_rfl) (by kernel_rfl) (by kernel_rfl)) ?_
  intro W base args ds gs before hval0 hW hcnd _
  have hval : ∀ (j : Nat) t v, Try.f5.params[j]? = some t → args[j]? = some v → Value.okWide Try.prog W .any base t v := hval0
  have hW' := hW
  obtain ⟨p, q, hA0, hV, rfl, hfz, hnd⟩ := hW
  have hA : DataW.TrodAll enc Try.prog W 0 (fun _ => true) true Try.f5.params.toList args.toList ds p := hA0
  rw [Try.params5] at hA hval
  obtain ⟨v0, vs0, d0, ds0, p0, q0, hargs, rfl, rfl, h0, r0⟩ := trodAll_cons hA
  obtain ⟨v1, vs1, d1, ds1, p1, q1, rfl, rfl, rfl, h1, r1⟩ := trodAll_cons r0
  obtain ⟨v2, vs2, d2, ds2, p2, q2, rfl, rfl, rfl, h2, r2⟩ := trodAll_cons r1
  obtain ⟨v3, vs3, d3, ds3, p3, q3, rfl, rfl, rfl, h3, r3⟩ := trodAll_cons r2
  obtain ⟨rfl, rfl, rfl⟩ := trodAll_nil r3
  obtain rfl : args = #[v0, v1, v2, v3] := by cases args; simp_all
  obtain ⟨rfl, rfl⟩ := trodVars_none hV
  have k0 := h0
  have lt0 : ∀ x ∈ p0, x.block < W.heap.size := by obtain ⟨m, hm⟩ := k0; exact DataW.trod_lt m _ _ _ hm
  obtain ⟨zi0, zo0, zr0, rfl, wi0, wo0, wr0⟩ := open_sizes (hval 0 23 v0 rfl rfl) h0
  obtain ⟨a1, rfl, rfl, rfl, w1⟩ := open_int Try.underlying3 (hval 1 3 v1 rfl rfl) h1
  obtain ⟨a2, rfl, rfl, rfl, w2⟩ := open_int Try.underlying3 (hval 2 3 v2 rfl rfl) h2
  obtain ⟨a3, rfl, rfl, rfl, w3⟩ := open_int Try.underlying3 (hval 3 3 v3 rfl rfl) h3
  clear hA0 hval0
  refine (walk zi0 zo0 zr0 a1 a2 a3 wi0 wo0 wr0 w1 w2 w3 W).mono fun e W' ⟨he, bel⟩ => ?_
  subst he
  exact ⟨_, rfl, _, _, _, [], _, [], hW', trodAll_mk1 (shut_bool Try.underlying4 _), (trodAll_cons_mk (Below.trod laidOut (by kernel_rfl) (of_decide_eq_true (by kernel_rfl)) k0 bel lt0) (trodAll_cons_mk (shut_int Try.underlying3 w1) (trodAll_cons_mk (shut_int Try.underlying3 w2) (trodAll_cons_mk (shut_int Try.underlying3 w3) trodAll_mk0)))), rfl, bel.frame _, fun h => by cases h⟩

theorem over : Rows.memmapFarRow.holds Try.pinned (OpenSpec.ofChange Rows.memmapFarSpec) :=
  OpenClaim.holds_of_wide 5 Try.f5 rfl rfl rfl rfl rfl rfl rfl ⟨rfl, rfl, rfl, rfl, rfl⟩ rfl rfl rfl rfl rfl (by kernel_rfl) Try.func5 (by kernel_rfl)
    (of_decide_eq_true (by kernel_rfl)) (by unfold Func.isWrapper; first | (rw [if_pos (by decide +kernel)]; kernel_rfl) | (rw [if_neg (by decide +kernel)]; exact ⟨rfl, rfl⟩))
    (fun os started H enc _ => lifted os started H enc)

/-- the statement -/
theorem proved : Rows.MemmapFarSaid := over
#print axioms proved
end Go.Proofs.Ytmhhljbhbhlefaa.memmapFar
