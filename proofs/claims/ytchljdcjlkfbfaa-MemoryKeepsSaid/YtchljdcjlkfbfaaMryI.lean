/-
  The document's side of layer 7: what its Load returns.
-/
import Derived.Test.YtchljdcjlkfbfaaMryH
namespace Go.Proofs.Ytchljdcjlkfbfaa
open Go.ChangeShapes Go.WideShapes Go.ChangeAt Go.RowKit
set_option linter.unusedVariables false

set_option maxHeartbeats 8000000 in
set_option maxRecDepth 100000 in
theorem rload_no (s : My.St) (p : Option Addr) (n c : Nat) (a nn E : Int) (w : World) (hg : Hid (My.good s)) (hr : Hid ((Lit.int .i64 s.r).wf = true)) (ha : Hid (a ≤ 9223372036854775807)) (hE : Hid (My.fe s a nn false = E)) (h0 : ¬ E = 0) :
    Calls Try.prog 20 #[.agg #[.int .i64 s.i, .int .i64 s.o, .int .i64 s.r, .string s.fl, .string s.inp], .slice p n c, .int .i64 a, .int .i64 nn] w fun e w' => e = .returned (.tuple #[.int .i64 0, .int .i64 E]) ∧ Below w.heap.size w w' := by
  have F : Hid (∀ w : World, Calls Try.prog 21 #[.agg #[.int .i64 s.i, .int .i64 s.o, .int .i64 s.r, .string s.fl, .string s.inp], .int .i64 a, .int .i64 nn, .bool false] w fun e w' => e = .returned (.int .i64 E) ∧ Below w.heap.size w w') := Lib.hid fun w => by
    have h := rfe_any s a nn false w hg hr ha
    rw [hE.out] at h
    exact h
  generalize s.i = i at *
  generalize s.o = o at *
  generalize s.r = r at *
  generalize s.fl = fl at *
  generalize s.inp = inp at *
  go_enter Try.func20, Try.ntmps20
  go_wp2_with (go_at_call 21; refine (F.out _).mono ?_; rintro e w1 ⟨rfl, hb1⟩; have HB := Lib.hid (((Below.refl _ _).alloc (Nat.le_refl _) _).trans (hb1.mono (by simp))); clear hb1)
  exact bodyPost_ret (v := .tuple #[.int .i64 0, .int .i64 E]) (by simp [results, Try.results20, go_sem]) rfl ⟨rfl, HB.out⟩
set_option maxHeartbeats 8000000 in
set_option maxRecDepth 100000 in
theorem rload_ok (s : My.St) (p : Option Addr) (n c : Nat) (L : List My.Step) (a : Int) (m : Nat) (w : World) (hn : Hid (L.length = n)) (hm : n ≤ 100) (hL : Hid (SliceC stC 4 w (.slice p n c) L)) (hW : Hid (My.wfL L)) (hg : Hid (My.good s)) (hr : Hid ((Lit.int .i64 s.r).wf = true)) (ha0 : 0 ≤ a) (ha1 : a ≤ 539230208) (hm4 : m ≤ 4) (hE : Hid (My.fe s a (m : Nat) false = 0)) :
    Calls Try.prog 20 #[.agg #[.int .i64 s.i, .int .i64 s.o, .int .i64 s.r, .string s.fl, .string s.inp], .slice p n c, .int .i64 a, .int .i64 (m : Nat)] w fun e w' => e = .returned (.tuple #[.int .i64 (My.hi (My.after s L) a m m), .int .i64 0]) ∧ Below w.heap.size w w' := by
  have F : Hid (∀ w : World, Calls Try.prog 21 #[.agg #[.int .i64 s.i, .int .i64 s.o, .int .i64 s.r, .string s.fl, .string s.inp], .int .i64 a, .int .i64 (m : Nat), .bool false] w fun e w' => e = .returned (.int .i64 0) ∧ Below w.heap.size w w') := Lib.hid fun w => by
    have h := rfe_any s a (m : Nat) false w hg hr (Lib.hid (by omega))
    rw [hE.out] at h
    exact h
  have B : Hid (∀ (b : Int) (w' : World), Below w.heap.size w w' → 0 ≤ b → b ≤ 600000000 → Calls Try.prog 23 #[.agg #[.int .i64 s.i, .int .i64 s.o, .int .i64 s.r, .string s.fl, .string s.inp], .slice p n c, .int .i64 b] w' fun e w'' => e = .returned (.int .i64 ((My.after s L b).toNat : Int)) ∧ Below w'.heap.size w' w'') := Lib.hid fun b w' hb h0 h1 => rbyte_any s p n c L b w' hn hm (Lib.hid (hL.out.kept hb)) hW hg hr h0 h1
  have S := Lib.hid (st_new w s.i s.o s.r s.fl s.inp 25)
  obtain ⟨R, hR⟩ : ∃ R, My.hi (My.after s L) a m m = R := ⟨_, rfl⟩
  rw [hR]
  have HR := Lib.hid hR
  clear hR
  generalize s.i = i at *
  generalize s.o = o at *
  generalize s.r = r at *
  generalize s.fl = fl at *
  generalize s.inp = inp at *
  generalize My.after s L = M at *
  go_enter Try.func20, Try.ntmps20
  go_wp2_with (go_at_call 21; refine (F.out _).mono ?_; rintro e w1 ⟨rfl, hb1⟩; have HS := Lib.hid (S.out.kept hb1); have HB := Lib.hid (((Below.refl _ _).alloc (Nat.le_refl _) _).trans (hb1.mono (by simp))); clear hb1)
  go_loopw [11, 12] (fun V K W => ∃ d : Nat, V = .int .i64 (My.hi M a m d) ∧ K = .int .i64 ((m : Int) - 1 - (d : Int)) ∧ d ≤ m ∧ Below w.heap.size w W ∧ StAt W w.heap.size i o r fl inp) (fun V K _ => (intOf K + 1).toNat)
  case atStart => exact ⟨0, rfl, by simp, Nat.zero_le _, HB.out, HS.out⟩
  case round =>
    obtain ⟨d, rfl, rfl, hdm, hB, hS⟩ := hrel
    by_cases hlt : d < m
    · have hK : 0 ≤ (m : Int) - 1 - (d : Int) := by omega
      obtain ⟨x0, x1, x2, x3, x4⟩ := hS
      have HS2 := Lib.hid (show StAt wr w.heap.size i o r fl inp from ⟨x0, x1, x2, x3, x4⟩)
      have hv := My.hi_bd M a m d (by omega)
      have HX : Hid (My.hi M a m (d + 1) = 256 * My.hi M a m d + ((M (a + ((m : Int) - 1 - (d : Int)))).toNat : Int)) := Lib.hid (by show 256 * My.hi M a m d + _ = _; congr 4; omega)
      have hv2 := My.hi_bd M a m (d + 1) (by omega)
      have hbt := (M (a + ((m : Int) - 1 - (d : Int)))).toNat_lt
      rw [HX.out] at hv2
      have C := Lib.hid (B.out (a + ((m : Int) - 1 - (d : Int))) wr hB (by omega) (by omega))
      generalize (M (a + ((m : Int) - 1 - (d : Int)))).toNat = bt at *
      generalize My.hi M a m d = v at *
      have hw0 : wrap64 (a + ((m : Int) - 1 - (d : Int))) = a + ((m : Int) - 1 - (d : Int)) := by unfold wrap64; omega
      have hw1 : wrap64 (256 * v) = 256 * v := by unfold wrap64; omega
      have hw2 : wrap64 (256 * v + (bt : Int)) = 256 * v + (bt : Int) := by unfold wrap64; omega
      have hw3 : wrap64 ((m : Int) - 1 - (d : Int) - 1) = (m : Int) - 1 - (d : Int) - 1 := by unfold wrap64; omega
      have HB0 := Lib.hid hB
      clear hB
      generalize hkk : (m : Int) - 1 - (d : Int) = kk at *
      have HKK := Lib.hid hkk
      clear hkk
      go_wp2_with (go_at_call 23; refine C.out.mono ?_; rintro e w2 ⟨rfl, hb2⟩; have HB2 := Lib.hid (HB0.out.trans (hb2.mono HB0.out.size)); have HS3 := Lib.hid (HS2.out.kept hb2); clear hb2)
      refine ⟨⟨d + 1, by rw [HX.out], ?_, by omega, HB2.out, HS3.out⟩, ?_⟩
      · have := HKK.out; congr 1; omega
      · have := HKK.out; simp [intOf]; omega
    · obtain rfl : d = m := by omega
      have hK : ¬ 0 ≤ (d : Int) - 1 - (d : Int) := by omega
      rw [HR.out]
      go_wp2
      exact bodyPost_ret (v := .tuple #[.int .i64 R, .int .i64 0]) (by simp [results, Try.results20, go_sem]) rfl ⟨rfl, hB⟩
theorem rload_any (s : My.St) (p : Option Addr) (n c : Nat) (L : List My.Step) (a nn : Int) (w : World) (hn : Hid (L.length = n)) (hm : n ≤ 100) (hL : Hid (SliceC stC 4 w (.slice p n c) L)) (hW : Hid (My.wfL L)) (hg : Hid (My.good s)) (hr : Hid ((Lit.int .i64 s.r).wf = true)) (ha : Hid (a ≤ 9223372036854775807)) :
    Calls Try.prog 20 #[.agg #[.int .i64 s.i, .int .i64 s.o, .int .i64 s.r, .string s.fl, .string s.inp], .slice p n c, .int .i64 a, .int .i64 nn] w fun e w' => e = .returned (.tuple #[.int .i64 (My.load s (My.after s L) a nn).1, .int .i64 (My.load s (My.after s L) a nn).2]) ∧ Below w.heap.size w w' := by
  by_cases h0 : My.fe s a nn false = 0
  · obtain ⟨k, o, m, hk, hF, ha', rfl, h4, ho, -, hp, hq⟩ := My.found hg.out h0
    have h := rload_ok s p n c L a m w hn hm hL hW hg hr hp hq (by omega) (Lib.hid h0)
    unfold My.load
    rw [if_pos h0]
    have e : My.hi (My.after s L) a m m = My.num (My.after s L) a (m : Nat) := by
      rcases h4 with rfl | rfl
      · exact My.hi_1 _ _
      · exact My.hi_4 _ _
    rw [e] at h
    exact h
  · have h := rload_no s p n c a nn _ w hg hr ha (Lib.hid rfl) h0
    unfold My.load
    rw [if_neg h0]
    exact h
end Go.Proofs.Ytchljdcjlkfbfaa
