/-
  Law MemmapFinds: for all regions and every access, the program's Find tells what the document's does, where the list is short and its numbers are small.
  Conditions: none but those of the given row.
-/
import Derived.Test.YtmhhljbhbhlefaaRows
import Derived.Test.YtmhhljbhbhlefaaMemO
import Derived.WalkKit
import Derived.ProofKit
import Derived.OpenShut
import Derived.ShutString
import Derived.ChangeOld
import Derived.Below
import Derived.LoopN
import Derived.SizedLaws
namespace Go.Proofs.Ytmhhljbhbhlefaa.memmapFinds
open Go.ChangeShapes Go.WideShapes Go.ChangeAt Go.RowKit
open Go.ChangeMaps (open_string shut_string)
set_option linter.unusedVariables false

theorem own : ownKnob Try.prog.godebug = none := by kernel_rfl
theorem laidOut : laidOutB Try.prog = true := by kernel_rfl

set_option maxHeartbeats 4000000 in
set_option maxRecDepth 100000 in
theorem finds_long (p : Option Addr) (c n : Nat) (a nn : Int) (sw : Bool) (w : World) (h : (100 : Int) < (n : Int)) :
    Calls Try.prog 4 #[.slice p n c, .int .i64 a, .int .i64 nn, .bool sw] w fun e w' => e = .returned (.bool true) ∧ Below w.heap.size w w' := by
  go_enter Try.func4, Try.ntmps4
  go_wp2_with (go_at_call 12; refine (lives_any _).mono ?_; rintro r w5 ⟨rfl, hb5⟩)
  go_ret
  exact ⟨rfl, hb5⟩
set_option maxHeartbeats 8000000 in
set_option maxRecDepth 100000 in
theorem finds_short (p : Option Addr) (c n : Nat) (L : List Mm.Rg) (a nn : Int) (sw : Bool) (w : World) (hn : Hid (L.length = n)) (hm : n ≤ 100) (hS : Hid (SliceC rgC 3 w (.slice p n c) L)) (hW : Hid (Mm.wfs L)) (ha : Hid (a ≤ 9223372036854775807)) :
    Calls Try.prog 4 #[.slice p n c, .int .i64 a, .int .i64 nn, .bool sw] w fun e w' => e = .returned (.bool true) ∧ Below w.heap.size w w' := by
  have C1 : Hid (∀ w : World, SliceC rgC 3 w (.slice p n c) L → Calls Try.prog 13 #[.slice p n c, .int .i64 a, .int .i64 nn, .bool sw] w fun e w' => e = .returned (.tuple #[.int .i64 (Mm.find L a nn sw).1, .int .i64 (Mm.find L a nn sw).2]) ∧ Below w.heap.size w w') := Lib.hid fun w h => find_any p n c L a nn sw w hn hm (Lib.hid h) hW ha
  have C2 : Hid (∀ w : World, SliceC rgC 3 w (.slice p n c) L → (∀ k (hk : k < L.length), 0 ≤ L[k].base) → Calls Try.prog 14 #[.slice p n c, .int .i64 a, .int .i64 nn, .bool sw] w fun e w' => e = .returned (.tuple #[.int .i64 (Mm.find L a nn sw).1, .int .i64 (Mm.find L a nn sw).2]) ∧ Below w.heap.size w w') := Lib.hid fun w h g => rfind_any p n c L a nn sw w hn hm (Lib.hid h) hW ha (Lib.hid g)
  generalize (Mm.find L a nn sw).1 = X at C1 C2
  generalize (Mm.find L a nn sw).2 = E at C1 C2
  have hmI : ¬ (100 : Int) < (n : Int) := by omega
  go_enter Try.func4, Try.ntmps4
  go_wp2
  go_loopw [9] (fun K W => ∃ k : Nat, K = .int .i64 (k : Int) ∧ k ≤ n ∧ Hid (∀ j (hj : j < L.length), j < k → 0 ≤ L[j].base) ∧ W = w) (fun K _ => n - (intOf K).toNat)
  case atStart => exact ⟨0, rfl, Nat.zero_le _, Lib.hid fun j _ hj => absurd hj (Nat.not_lt_zero _), rfl⟩
  case round =>
    obtain ⟨k, rfl, hkn, HK, rfl⟩ := hrel
    by_cases hlt : k < n
    · have hkL : k < L.length := by rw [hn.out]; exact hlt
      have hlt' : (k : Int) < (n : Int) := by omega
      have hk0 : (0 : Int) ≤ (k : Int) := by omega
      rcases hx : L[k] with ⟨b, l, v⟩
      have hL2 := hS.out
      obtain ⟨p', c', e', hat⟩ := hL2
      obtain ⟨ad, hpa, hOn⟩ := hat k hkL
      injection e' with ep en ec
      rw [hpa] at ep
      subst ep
      rw [hx] at hOn
      have x0 : wr.cell? (ad.add (k * 3)) = some (.int .i64 b) := by have h0 := hOn 0 _ rfl; rw [add_zero'] at h0; exact h0
      have x1 : wr.cell? ⟨(ad.add (k * 3)).block, (ad.add (k * 3)).off + 1, none⟩ = some (.int .i64 l) := hOn 1 _ rfl
      have HX := Lib.hid hx
      clear hOn hat hpa ec en hx
      by_cases g0 : b < 0
      · go_wp2_with (go_at_call 12; refine (lives_any _).mono ?_; rintro r w5 ⟨rfl, hb5⟩)
        go_ret
        exact ⟨rfl, hb5⟩
      · by_cases g1 : 1099511627776 < b
        · go_wp2_with (go_at_call 12; refine (lives_any _).mono ?_; rintro r w5 ⟨rfl, hb5⟩)
          go_ret
          exact ⟨rfl, hb5⟩
        · by_cases g2 : 1099511627776 < l
          · go_wp2_with (go_at_call 12; refine (lives_any _).mono ?_; rintro r w5 ⟨rfl, hb5⟩)
            go_ret
            exact ⟨rfl, hb5⟩
          · have HK2 : Hid (∀ j (hj : j < L.length), j < k + 1 → 0 ≤ L[j].base) := Lib.hid fun j hj hjk => by
              by_cases hjk' : j < k
              · exact HK.out j hj hjk'
              · obtain rfl : j = k := by omega
                rw [HX.out]
                show 0 ≤ b
                omega
            clear HK
            go_wp2
            exact ⟨⟨k + 1, by simp, by omega, HK2, by first | rfl | trivial⟩, by simp [intOf]; omega⟩
    · have hge : ¬ (k : Int) < (n : Int) := by omega
      have HP : Hid (∀ j (hj : j < L.length), 0 ≤ L[j].base) := Lib.hid fun j hj => HK.out j hj (by have := hn.out; omega)
      clear HK
      go_wp2_with (first
        | (go_at_call 13; refine (C1.out _ hS.out).mono ?_; rintro e w1 ⟨rfl, hb1⟩; have HS1 := Lib.hid (hS.out.kept hb1); have HB1 := Lib.hid hb1; clear hb1)
        | (go_at_call 14; refine (C2.out _ HS1.out HP.out).mono ?_; rintro e w2 ⟨rfl, hb2⟩; have HB2 := Lib.hid (HB1.out.trans (hb2.mono HB1.out.size)); clear hb2)
        | (go_at_call 12; refine (lives_any _).mono ?_; rintro r w5 ⟨rfl, hb5⟩; have HB3 := Lib.hid (HB2.out.trans (hb5.mono HB2.out.size)); clear hb5))
      go_ret
      exact ⟨rfl, HB3.out⟩
theorem walk (p0v : Option Addr) (c0v : Nat) (L0 : List Mm.Rg) (a1 : Int) (a2 : Int) (a3 : Bool) (w1 : (Lit.int .i64 a1).wf = true) (w2 : (Lit.int .i64 a2).wf = true) (w : World) (s0 : SliceC rgC 3 w (.slice p0v L0.length c0v) L0) (f0 : Mm.wfs L0) :
    Calls Try.prog 4 #[.slice p0v L0.length c0v, .int .i64 a1, .int .i64 a2, .bool a3] w fun e w' => e = .returned (.bool true) ∧ Below w.heap.size w w' := by
  by_cases h : L0.length ≤ 100
  · exact finds_short p0v c0v L0.length L0 a1 a2 a3 w (Lib.hid rfl) h (Lib.hid s0) (Lib.hid f0) (Lib.hid (Mm.bd w1).2)
  · exact finds_long p0v c0v L0.length a1 a2 a3 w (by omega)

set_option maxRecDepth 100000 in
theorem lifted (os : Os) (started : os.Started) (H : Type) (enc : TypeId × Value → H) :
    ReturnsInHanded {} Try.checked os 4 .any (Rows.memmapFindsSpec.pre6 enc Try.prog Try.f4 Rows.memmapFindsRow.domain false) (Rows.memmapFindsSpec.post enc Try.prog Try.f4 false true false false) := by
  refine returnsInHanded_of_change (C := Try.checked) own started (by kernel_rfl) Try.func4
    (ChangeSpec.witness6 (enc := enc) (C := Try.checked) false ⟨#[], #[.slice none 0 0, .int .i64 0, .int .i64 0, .bool false], []⟩ 8 (by kernel_rfl) (by kernel_rfl) (by kernel_rfl) (by kernel_rfl)) ?_
  intro W base args ds gs before hval0 hW hcnd _
  have hval : ∀ (j : Nat) t v, Try.f4.params[j]? = some t → args[j]? = some v → Value.okWide Try.prog W .any base t v := hval0
  have hW' := hW
  obtain ⟨p, q, hA0, hV, rfl, hfz, hnd⟩ := hW
  have hA : DataW.TrodAll enc Try.prog W 0 (fun _ => true) true Try.f4.params.toList args.toList ds p := hA0
  rw [Try.params4] at hA hval
  obtain ⟨v0, vs0, d0, ds0, p0, q0, hargs, rfl, rfl, h0, r0⟩ := trodAll_cons hA
  obtain ⟨v1, vs1, d1, ds1, p1, q1, rfl, rfl, rfl, h1, r1⟩ := trodAll_cons r0
  obtain ⟨v2, vs2, d2, ds2, p2, q2, rfl, rfl, rfl, h2, r2⟩ := trodAll_cons r1
  obtain ⟨v3, vs3, d3, ds3, p3, q3, rfl, rfl, rfl, h3, r3⟩ := trodAll_cons r2
  obtain ⟨rfl, rfl, rfl⟩ := trodAll_nil r3
  obtain rfl : args = #[v0, v1, v2, v3] := by cases args; simp_all
  obtain ⟨rfl, rfl⟩ := trodVars_none hV
  have k0 := h0
  have lt0 : ∀ x ∈ p0, x.block < W.heap.size := by obtain ⟨m, hm⟩ := k0; exact DataW.trod_lt m _ _ _ hm
  obtain ⟨L0, hL0, f0⟩ := open_regs (hval 0 24 v0 rfl rfl) h0
  have s0 := hL0
  obtain ⟨p0v, c0v, rfl, -⟩ := hL0
  obtain ⟨a1, rfl, rfl, rfl, w1⟩ := open_int Try.underlying3 (hval 1 3 v1 rfl rfl) h1
  obtain ⟨a2, rfl, rfl, rfl, w2⟩ := open_int Try.underlying3 (hval 2 3 v2 rfl rfl) h2
  obtain ⟨a3, rfl, rfl, rfl⟩ := open_bool Try.underlying4 (hval 3 4 v3 rfl rfl) h3
  clear hA0 hval0
  refine (walk p0v c0v L0 a1 a2 a3 w1 w2 W s0 f0).mono fun e W' ⟨he, bel⟩ => ?_
  subst he
  exact ⟨_, rfl, _, _, _, [], _, [], hW', trodAll_mk1 (shut_bool Try.underlying4 _), (trodAll_cons_mk (Below.trod laidOut (by kernel_rfl) (of_decide_eq_true (by kernel_rfl)) k0 bel lt0) (trodAll_cons_mk (shut_int Try.underlying3 w1) (trodAll_cons_mk (shut_int Try.underlying3 w2) (trodAll_cons_mk (shut_bool Try.underlying4 _) trodAll_mk0)))), rfl, bel.frame _, fun h => by cases h⟩

theorem over : Rows.memmapFindsRow.holds Try.pinned (OpenSpec.ofChange Rows.memmapFindsSpec) :=
  OpenClaim.holds_of_wide 4 Try.f4 rfl rfl rfl rfl rfl rfl rfl ⟨rfl, rfl, rfl, rfl, rfl⟩ rfl rfl rfl rfl rfl (by kernel_rfl) Try.func4 (by kernel_rfl)
    (of_decide_eq_true (by kernel_rfl)) (by unfold Func.isWrapper; first | (rw [if_pos (by decide +kernel)]; kernel_rfl) | (rw [if_neg (by decide +kernel)]; exact ⟨rfl, rfl⟩))
    (fun os started H enc _ => lifted os started H enc)

/-- the statement -/
theorem proved : Rows.MemmapFindsSaid := over
#print axioms proved
end Go.Proofs.Ytmhhljbhbhlefaa.memmapFinds
