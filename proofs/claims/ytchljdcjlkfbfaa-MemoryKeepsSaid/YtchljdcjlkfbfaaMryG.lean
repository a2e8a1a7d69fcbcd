/-
  The document's side of layer 7: what its New, find and byteAt return.
-/
import Derived.Deep.RegionHeld3
import Derived.Test.YtchljdcjlkfbfaaMryF
import Derived.Test.YtchljdcjlkfbfaaMryM
namespace Go.Proofs.Ytchljdcjlkfbfaa
open Go.ChangeShapes Go.WideShapes Go.ChangeAt Go.RowKit
set_option linter.unusedVariables false

/-- a start in five cells -/
abbrev StAt (W : World) (b : Nat) (i o r : Int) (fl inp : ByteArray) : Prop := W.cell? ⟨b, 0, none⟩ = some (.int .i64 i) ∧ W.cell? ⟨b, 1, none⟩ = some (.int .i64 o) ∧ W.cell? ⟨b, 2, none⟩ = some (.int .i64 r) ∧ W.cell? ⟨b, 3, none⟩ = some (.string fl) ∧ W.cell? ⟨b, 4, none⟩ = some (.string inp)
theorem StAt.kept {W w' : World} {b : Nat} {i o r : Int} {fl inp : ByteArray} (h : StAt W b i o r fl inp) (hb : Below W.heap.size W w') : StAt w' b i o r fl inp := by
  have hlt : b < W.heap.size := cell_lt h.1
  obtain ⟨h0, h1, h2, h3, h4⟩ := h
  refine ⟨?_, ?_, ?_, ?_, ?_⟩ <;> (rw [hb.cell (by exact hlt)]; assumption)
theorem st_new (w : World) (i o r : Int) (fl inp : ByteArray) (t : TypeId) : StAt (w.alloc (.cells #[.int .i64 i, .int .i64 o, .int .i64 r, .string fl, .string inp] t)) w.heap.size i o r fl inp := by
  refine ⟨?_, ?_, ?_, ?_, ?_⟩ <;> simp [go_sem]
theorem run_byte {P : Program} (w : World) (t : TypeId) (s : ByteArray) (i : Int) (k : Nat) (b : UInt8) (h : P.underlying t = some .string) (hk : (k : Int) = i) (hb : s.data.toList[k]? = some b) :
    (Instr.index t (.string s) (.int .i64 i)).run P w = .ok (.int .u8 b.toNat) w := by
  subst hk
  have hl : k < s.data.toList.length := (List.getElem?_eq_some_iff.1 hb).1
  have hl2 : k < s.size := by rw [Array.length_toList] at hl; exact hl
  rw [run_index_string w t s .i64 k h, dif_pos ⟨by omega, by omega⟩]
  have e : s.data.toList[k] = b := by rw [List.getElem?_eq_getElem hl] at hb; exact Option.some.inj hb
  have e2 : s[(k : Int).toNat]'(by rw [Int.toNat_natCast]; exact hl2) = b := by
    simp only [Int.toNat_natCast]
    exact e
  rw [e2]
theorem My.err_no {s : My.St} {E : Int} (h : My.merr s = E) (h0 : ¬ E = 0) : My.err s = E := by unfold My.err; rw [h, if_neg h0]
set_option maxHeartbeats 4000000 in
set_option maxRecDepth 100000 in
theorem rnew_any (s : My.St) (w : World) (hr : Hid ((Lit.int .i64 s.r).wf = true)) :
    Calls Try.prog 9 #[.agg #[.int .i64 s.i, .int .i64 s.o, .int .i64 s.r, .string s.fl, .string s.inp]] w fun e w' => e = .returned (.int .i64 (My.err s)) ∧ Below w.heap.size w w' := by
  have C : Hid (∀ w : World, Calls Try.prog 19 #[.agg #[.int .i64 s.i, .int .i64 s.o, .int .i64 s.r], .int .i64 (s.fl.size : Nat)] w fun e w' => e = .returned (.int .i64 (My.merr s)) ∧ Below w.heap.size w w') := Lib.hid fun w => rcheck_any s.i s.o s.r (s.fl.size : Nat) w hr.out
  obtain ⟨E, hE⟩ : ∃ E, My.merr s = E := ⟨_, rfl⟩
  rw [hE] at C
  have S := Lib.hid (st_new w s.i s.o s.r s.fl s.inp 25)
  by_cases h0 : E = 0
  · by_cases h1 : ((s.inp.size : Int) != s.i) = true
    · have e : Hid (My.err s = 2) := Lib.hid (by unfold My.err; rw [hE, if_pos h0, if_neg (by simpa using h1)])
      rw [e.out]
      subst h0
      clear hE e hr
      generalize s.i = i at *
      generalize s.o = o at *
      generalize s.r = r at *
      generalize s.fl = fl at *
      generalize s.inp = inp at *
      go_enter Try.func9, Try.ntmps9
      go_wp2_with (go_at_call 19; refine (C.out _).mono ?_; rintro e w1 ⟨rfl, hb1⟩; obtain ⟨x0, x1, x2, x3, x4⟩ := S.out.kept hb1; have HB := Lib.hid (((Below.refl _ _).alloc (Nat.le_refl _) _).trans (hb1.mono (by simp))); clear hb1)
      go_ret
      exact ⟨rfl, HB.out⟩
    · have e : Hid (My.err s = 0) := Lib.hid (by unfold My.err; rw [hE, if_pos h0, if_pos (by simpa using h1)])
      rw [e.out]
      subst h0
      have h2 : ((s.inp.size : Int) != s.i) = false := by simpa using h1
      clear hE e hr h1
      generalize s.i = i at *
      generalize s.o = o at *
      generalize s.r = r at *
      generalize s.fl = fl at *
      generalize s.inp = inp at *
      go_enter Try.func9, Try.ntmps9
      go_wp2_with (go_at_call 19; refine (C.out _).mono ?_; rintro e w1 ⟨rfl, hb1⟩; obtain ⟨x0, x1, x2, x3, x4⟩ := S.out.kept hb1; have HB := Lib.hid (((Below.refl _ _).alloc (Nat.le_refl _) _).trans (hb1.mono (by simp))); clear hb1)
      go_ret
      exact ⟨rfl, HB.out⟩
  · rw [My.err_no hE h0]
    clear hE hr
    generalize s.i = i at *
    generalize s.o = o at *
    generalize s.r = r at *
    generalize s.fl = fl at *
    generalize s.inp = inp at *
    go_enter Try.func9, Try.ntmps9
    go_wp2_with (go_at_call 19; refine (C.out _).mono ?_; rintro e w1 ⟨rfl, hb1⟩; obtain ⟨x0, x1, x2, x3, x4⟩ := S.out.kept hb1; have HB := Lib.hid (((Below.refl _ _).alloc (Nat.le_refl _) _).trans (hb1.mono (by simp))); clear hb1)
    go_ret
    exact ⟨rfl, HB.out⟩
theorem My.wfs7 {s : My.St} (h : My.good s) : Mm.wfs (My.sev s) := fun k hk => by
  have hb := My.bs_bd h k hk
  rw [My.bs_at s k hk, My.ln_at h k hk]
  omega
theorem My.pos7 {s : My.St} (h : My.good s) : ∀ k (hk : k < (My.sev s).length), 0 ≤ (My.sev s)[k].base := fun k hk => by
  have hb := My.bs_bd h k hk
  rw [My.bs_at s k hk]
  omega
set_option maxHeartbeats 4000000 in
set_option maxRecDepth 100000 in
theorem rfe_any (s : My.St) (a n : Int) (sw : Bool) (w : World) (hg : Hid (My.good s)) (hr : Hid ((Lit.int .i64 s.r).wf = true)) (ha : Hid (a ≤ 9223372036854775807)) :
    Calls Try.prog 21 #[.agg #[.int .i64 s.i, .int .i64 s.o, .int .i64 s.r, .string s.fl, .string s.inp], .int .i64 a, .int .i64 n, .bool sw] w fun e w' => e = .returned (.int .i64 (My.fe s a n sw)) ∧ Below w.heap.size w w' := by
  have C : Hid (∀ w : World, Calls Try.prog 22 #[.agg #[.int .i64 s.i, .int .i64 s.o, .int .i64 s.r], .int .i64 (s.fl.size : Nat)] w fun e w' => ∃ a c, e = .returned (.tuple #[.slice (some a) 7 c, .int .i64 0]) ∧ SliceC rgC 3 w' (.slice (some a) 7 c) (My.sev s) ∧ Below w.heap.size w w') := Lib.hid fun w => rregions_ok s.i s.o s.r (s.fl.size : Nat) w (Lib.hid hg.out.1) hr
  obtain ⟨X, hX⟩ : ∃ X, (Mm.find (My.sev s) a n sw).1 = X := ⟨_, rfl⟩
  obtain ⟨E, hE⟩ : ∃ E, My.fe s a n sw = E := ⟨_, rfl⟩
  have F : Hid (∀ (w : World) (p : Addr) (c : Nat), SliceC rgC 3 w (.slice (some p) 7 c) (My.sev s) → Calls Try.prog 28 #[.slice (some p) 7 c, .int .i64 a, .int .i64 n, .bool sw] w fun e w' => e = .returned (.tuple #[.int .i64 X, .int .i64 E]) ∧ Below w.heap.size w w') := Lib.hid fun w p c h => by
    have h2 := rfind_any (some p) 7 c (My.sev s) a n sw w (Lib.hid rfl) (by omega) (Lib.hid h) (Lib.hid (My.wfs7 hg.out)) ha (Lib.hid (My.pos7 hg.out))
    have e : (Mm.find (My.sev s) a n sw).2 = E := hE
    rw [hX, e] at h2
    exact h2
  rw [hE]
  clear hX hE
  have S := Lib.hid (st_new w s.i s.o s.r s.fl s.inp 25)
  generalize s.i = i at *
  generalize s.o = o at *
  generalize s.r = r at *
  generalize s.fl = fl at *
  generalize s.inp = inp at *
  go_enter Try.func21, Try.ntmps21
  go_wp2_with (first
    | (go_at_call 22; refine (C.out _).mono ?_; rintro e w1 ⟨a1, c1, rfl, hs1, hb1⟩; have HS := Lib.hid hs1; have HB := Lib.hid (((Below.refl _ _).alloc (Nat.le_refl _) _).trans (hb1.mono (by simp))); clear hb1 hs1)
    | (go_at_call 28; refine (F.out _ _ _ HS.out).mono ?_; rintro e w2 ⟨rfl, hb2⟩; have HB2 := Lib.hid (HB.out.trans (hb2.mono HB.out.size)); clear hb2))
  go_ret
  exact ⟨rfl, HB2.out⟩
end Go.Proofs.Ytchljdcjlkfbfaa
