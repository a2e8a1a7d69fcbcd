/-
  Law MemoryKeeps: what is stored is loaded; a byte that lies elsewhere is as it was.
  Conditions: none but those of the given row.
-/
import Derived.Test.YtchljdcjlkfbfaaRows
import Derived.Test.YtchljdcjlkfbfaaMryN
import Derived.WalkKit
import Derived.ProofKit
import Derived.OpenShut
import Derived.ShutString
import Derived.ChangeOld
import Derived.Below
import Derived.LoopN
import Derived.SizedLaws
namespace Go.Proofs.Ytchljdcjlkfbfaa.memoryKeeps
open Go.ChangeShapes Go.WideShapes Go.ChangeAt Go.RowKit
open Go.ChangeMaps (open_string shut_string)
set_option linter.unusedVariables false

theorem own : ownKnob Try.prog.godebug = none := by kernel_rfl
theorem laidOut : laidOutB Try.prog = true := by kernel_rfl

set_option linter.unusedSimpArgs false
theorem sbox_kept' {W w' : World} {b : Nat} {k a n v : Int} (h : SBox W b k a n v) {B : Nat} (hb : Below B W w') (hB : b < B) : SBox w' b k a n v := by
  obtain ⟨h0, h1, h2, h3⟩ := h
  refine ⟨?_, ?_, ?_, ?_⟩ <;> (rw [hb.cell (by exact hB)]; assumption)
theorem sx_new (w : World) (o : Obj) (k a n v : Int) (t : TypeId) : SBox ((w.alloc o).alloc (.cells #[.int .i64 k, .int .i64 a, .int .i64 n, .int .i64 v] t)) (w.heap.size + 1) k a n v := by
  refine ⟨?_, ?_, ?_, ?_⟩ <;> simp [go_sem]
theorem and_255 (n : Int) : bits .and .i64 n 255 = n % 256 := by
  show IntKind.i64.wrap ((BitVec.ofInt 64 n &&& BitVec.ofInt 64 255).toNat : Int) = _
  rw [BitVec.toNat_and, Wd.ofInt_toNat, Wd.ofInt_toNat]
  have e : ((255 : Int) % 18446744073709551616).toNat = 2 ^ 8 - 1 := by decide
  rw [e, Nat.and_two_pow_sub_one_eq_mod, Wd.i64_small _ (by omega)]
  omega
theorem My.look_rd {a n : Int} : ∀ {L : List Mm.Rg} {k : Int}, (Mm.look a n true L k).2 = 0 → (Mm.look a n false L k).2 = 0 := by
  intro L
  induction L with
  | nil => intro k h; exact h
  | cons g L ih =>
    intro k h
    unfold Mm.look at h ⊢
    split at h
    · rename_i hh
      rw [if_pos hh]
      rfl
    · rename_i hh
      rw [if_neg hh]
      exact ih h
theorem My.fe_rd {s : My.St} {a n : Int} (h : My.fe s a n true = 0) : My.fe s a n false = 0 := by
  unfold My.fe Mm.find at h ⊢
  split at h
  · cases h
  · rename_i h1
    rw [if_neg h1]
    split at h
    · cases h
    · rename_i h2
      rw [if_neg h2]
      exact My.look_rd h
theorem My.load_2 (s : My.St) (M : Int → UInt8) (a n : Int) : (My.load s M a n).2 = My.fe s a n false := by
  unfold My.load
  split
  · rename_i h; exact h.symm
  · rfl
theorem My.byte_rd {s : My.St} (hg : My.good s) {a : Int} (h : My.fe s a 4 true = 0) {j : Nat} (hj : j < 4) : My.fe s (a + (j : Nat)) 1 false = 0 := by
  have h0 : 0 ≤ a := by obtain ⟨k, o, m, hk, hF, ha, hn, h4, ho, hw, hp, hq⟩ := My.found hg h; exact hp
  have h2 := ((Mm.word_down (My.okay hg) h0 (My.fe_rd h)).2 j hj).1
  unfold My.fe Mm.find
  rw [if_neg (by omega), if_neg (by simp)]
  exact h2
theorem My.four_one (b : UInt8) : Wd.four b 0 0 0 = (b.toNat : Int) := by
  unfold Wd.four
  show ((b.toNat : Int) + 256 * (0 : Nat) + 65536 * (0 : Nat) + 16777216 * (0 : Nat)) = _
  omega
theorem My.wb_n (v : Int) (j : Nat) (hj : j < 4) : ((My.wb v j).toNat : Int) = Wd.wrap v / 256 ^ j % 256 := by
  have h := Wd.wrap_bd v
  have e : ∀ n : Nat, n < 256 → (UInt8.ofNat n).toNat = n := fun n hn => by rw [UInt8.toNat_ofNat']; exact Nat.mod_eq_of_lt hn
  rcases (by omega : j = 0 ∨ j = 1 ∨ j = 2 ∨ j = 3) with rfl | rfl | rfl | rfl
  · show ((UInt8.ofNat (Wd.wrap v % 256).toNat).toNat : Int) = _
    rw [e _ (by omega)]; omega
  · show ((UInt8.ofNat (Wd.wrap v / 256 % 256).toNat).toNat : Int) = _
    rw [e _ (by omega)]; omega
  · show ((UInt8.ofNat (Wd.wrap v / 65536 % 256).toNat).toNat : Int) = Wd.wrap v / 65536 % 256
    rw [e _ (by omega)]; omega
  · show ((UInt8.ofNat (Wd.wrap v / 16777216).toNat).toNat : Int) = Wd.wrap v / 16777216 % 256
    rw [e _ (by omega)]; omega
theorem My.keep_out {s : My.St} {M : Int → UInt8} {xa xn xv b : Int} (hr : ¬ (xa ≤ b ∧ b < xa + xn)) : My.load s (My.put M xa xn xv) b 1 = My.load s M b 1 := by
  unfold My.load My.num
  rw [if_pos rfl, if_pos rfl]
  unfold My.put
  rw [if_neg hr]
theorem My.keep_1 {s : My.St} {M : Int → UInt8} {xa xv : Int} (h : My.fe s xa 1 true = 0) : My.load s (My.put M xa 1 xv) xa 1 = (Wd.wrap xv % 256, 0) := by
  unfold My.load My.num
  rw [if_pos (My.fe_rd h), if_pos rfl, My.four_one]
  unfold My.put
  rw [if_pos (by omega), show (xa - xa).toNat = 0 by omega, My.wb_n _ 0 (by decide)]
  congr 1
  omega
theorem My.put_at (M : Int → UInt8) (xa xv : Int) (j : Nat) (hj : j < 4) : My.put M xa 4 xv (xa + (j : Nat)) = My.wb xv j := by
  unfold My.put
  rw [if_pos (by omega), show (xa + (j : Nat) - xa).toNat = j by omega]
theorem My.keep_4 {s : My.St} {M : Int → UInt8} {xa xv : Int} (h : My.fe s xa 4 true = 0) : My.load s (My.put M xa 4 xv) xa 4 = (Wd.wrap xv, 0) := by
  unfold My.load My.num
  rw [if_pos (My.fe_rd h), if_neg (by decide)]
  have e0 := My.put_at M xa xv 0 (by decide)
  have e1 := My.put_at M xa xv 1 (by decide)
  have e2 := My.put_at M xa xv 2 (by decide)
  have e3 := My.put_at M xa xv 3 (by decide)
  rw [show xa + ((0 : Nat) : Int) = xa by omega] at e0
  rw [show xa + ((1 : Nat) : Int) = xa + 1 by omega] at e1
  rw [show xa + ((2 : Nat) : Int) = xa + 2 by omega] at e2
  rw [show xa + ((3 : Nat) : Int) = xa + 3 by omega] at e3
  rw [e0, e1, e2, e3]
  exact congrArg (·, (0 : Int)) (Wd.four_back xv)
theorem My.keep_b {s : My.St} (hg : My.good s) {M : Int → UInt8} {xa xv : Int} (h : My.fe s xa 4 true = 0) {j : Nat} (hj : j < 4) : My.load s (My.put M xa 4 xv) (xa + (j : Nat)) 1 = (Wd.wrap xv / 256 ^ j % 256, 0) := by
  unfold My.load My.num
  rw [if_pos (My.byte_rd hg h hj), if_pos rfl, My.four_one, My.put_at M xa xv j hj, My.wb_n xv j hj]
set_option maxHeartbeats 8000000 in set_option maxRecDepth 100000 in
theorem walk (s0 : My.St) (p1v : Option Addr) (c1v : Nat) (L1 : List My.Step) (x2 : My.Step) (a3 : Int) (wr0 : (Lit.int .i64 s0.r).wf = true) (wx2 : -9223372036854775808 ≤ x2.a ∧ x2.a ≤ 9223372036854775807) (w3 : (Lit.int .i64 a3).wf = true) (w : World) (t1 : SliceC stC 4 w (.slice p1v L1.length c1v) L1) (f1 : My.wfL L1) (k1c : L1.length ≤ c1v) :
    Calls Try.prog 5 #[.agg #[.int .i64 s0.i, .int .i64 s0.o, .int .i64 s0.r, .string s0.fl, .string s0.inp], .slice p1v L1.length c1v, .agg #[.int .i64 x2.kind, .int .i64 x2.a, .int .i64 x2.n, .int .i64 x2.v], .int .i64 a3] w fun e w' => e = .returned (.bool true) ∧ Below w.heap.size w w' := by
  have LV : Hid (∀ w : World, Calls Try.prog 7 #[] w fun e w' => e = .returned (.bool true) ∧ Below w.heap.size w w') := Lib.hid lives_any
  have TS := Lib.hid t1
  have FS := Lib.hid f1
  obtain ⟨kd, xa, xn, xv⟩ := x2
  dsimp only at wx2 ⊢
  have WX := Lib.hid wx2
  have hbb := Mm.bd w3
  have WB := Lib.hid hbb
  clear t1 f1 wr0 wx2 hbb w3
  obtain ⟨n, hn⟩ : ∃ n, L1.length = n := ⟨_, rfl⟩
  have HNL := Lib.hid hn
  rw [hn] at TS k1c ⊢
  clear hn
  have SX := Lib.hid (sx_new w (.cells #[.int .i64 s0.i, .int .i64 s0.o, .int .i64 s0.r, .string s0.fl, .string s0.inp] 25) kd xa xn xv 44)
  have S0 := SX.out
  obtain ⟨y0, y1, y2, y3⟩ := S0
  by_cases h60 : 60 < n
  · have h60' : (60 : Int) < (n : Int) := by omega
    generalize s0.i = i at *
    generalize s0.o = o at *
    generalize s0.r = r at *
    generalize s0.fl = fl at *
    generalize s0.inp = inp at *
    go_enter Try.func5, Try.ntmps5
    go_wp2_with (go_at_call 7; refine (LV.out _).mono ?_; rintro e w9 ⟨rfl, hb9⟩; have HB := Lib.hid ((((Below.refl w.heap.size w).alloc (Nat.le_refl _) _).alloc (by simp) _).trans (hb9.mono (by simp; omega))); clear hb9)
    go_ret
    exact ⟨rfl, HB.out⟩
  · have h60' : ¬ (60 : Int) < (n : Int) := by omega
    by_cases hg : My.good s0
    · have NB : Hid (∀ w : World, Calls Try.prog 8 #[.agg #[.int .i64 s0.i, .int .i64 s0.o, .int .i64 s0.r], .string s0.fl, .string s0.inp] w fun e w' => ∃ l : My.Loc, e = .returned (.tuple #[.pointer (some ⟨l.p, 0, none⟩), .int .i64 0]) ∧ (MemAt w' l s0 (My.first s0) ∧ (∀ b, l.own b → w.heap.size ≤ b) ∧ Below w.heap.size w w')) := Lib.hid fun w => new_ok s0 w (Lib.hid hg)
      have PL : Hid (∀ (l : My.Loc) (w' : World), Below w.heap.size w w' → (∀ b, l.own b → w.heap.size ≤ b) → MemAt w' l s0 (My.first s0) → Calls Try.prog 10 #[.pointer (some ⟨l.p, 0, none⟩), .slice p1v n c1v] w' fun e w'' => ∃ v, e = .returned v ∧ SliceC ansC 2 w'' v (My.answers s0 L1 n) ∧ MemAt w'' l s0 (My.after s0 L1) ∧ Rest l.own w' w'') := Lib.hid fun l w' hb ho hm => play_any l s0 p1v n c1v L1 w' HNL (by omega) (Lib.hid fun w'' hr => TS.out.kept (hb.trans (hr.below hb.size ho))) FS (Lib.hid hg) (Lib.hid hm)
      generalize My.answers s0 L1 n = AN at *
      generalize My.first s0 = M0 at *
      generalize My.after s0 L1 = M1 at *
      obtain ⟨M2, hM2⟩ : ∃ M2, (if My.fe s0 xa xn true = 0 then My.put M1 xa xn xv else M1) = M2 := ⟨_, rfl⟩
      have STO : Hid (∀ (l : My.Loc) (w' : World), MemAt w' l s0 M1 → Calls Try.prog 16 #[.pointer (some ⟨l.p, 0, none⟩), .int .i64 xa, .int .i64 xn, .int .i64 xv] w' fun e w'' => e = .returned (.int .i64 (My.fe s0 xa xn true)) ∧ MemAt w'' l s0 M2 ∧ Rest l.own w' w'') := Lib.hid fun l w' hm => by
        have h := store_any l s0 M1 xa xn xv w' hm hg WX.out.2
        rw [hM2] at h
        exact h
      have LD1 : Hid (∀ (l : My.Loc) (w' : World), MemAt w' l s0 M1 → Calls Try.prog 15 #[.pointer (some ⟨l.p, 0, none⟩), .int .i64 a3, .int .i64 1] w' fun e w'' => e = .returned (.tuple #[.int .i64 (My.load s0 M1 a3 1).1, .int .i64 (My.fe s0 a3 1 false)]) ∧ Below w'.heap.size w' w'') := Lib.hid fun l w' hm => by
        have h := load_any l s0 M1 a3 1 w' hm hg WB.out.2
        rw [My.load_2] at h
        exact h
      have LD2 : Hid (∀ (l : My.Loc) (w' : World), MemAt w' l s0 M2 → Calls Try.prog 15 #[.pointer (some ⟨l.p, 0, none⟩), .int .i64 a3, .int .i64 1] w' fun e w'' => e = .returned (.tuple #[.int .i64 (My.load s0 M2 a3 1).1, .int .i64 (My.fe s0 a3 1 false)]) ∧ Below w'.heap.size w' w'') := Lib.hid fun l w' hm => by
        have h := load_any l s0 M2 a3 1 w' hm hg WB.out.2
        rw [My.load_2] at h
        exact h
      have LD3 : Hid (∀ (l : My.Loc) (w' : World), MemAt w' l s0 M2 → Calls Try.prog 15 #[.pointer (some ⟨l.p, 0, none⟩), .int .i64 xa, .int .i64 xn] w' fun e w'' => e = .returned (.tuple #[.int .i64 (My.load s0 M2 xa xn).1, .int .i64 (My.load s0 M2 xa xn).2]) ∧ Below w'.heap.size w' w'') := Lib.hid fun l w' hm => load_any l s0 M2 xa xn w' hm hg WX.out.2
      generalize hF : My.fe s0 a3 1 false = F at *
      have HF := Lib.hid hF
      clear hF
      by_cases hG : My.fe s0 xa xn true = 0
      · have hx := My.found hg hG
        obtain ⟨k, o', m, -, -, -, hxm, h4, -, -, hp, hq⟩ := hx
        rw [if_pos hG] at hM2
        rw [hG] at STO
        have hb63 := WB.out.2
        rcases (by omega : xn = 1 ∨ xn = 4) with rfl | rfl
        · have e3 := My.keep_1 (M := M1) (xv := xv) hG
          rw [hM2] at e3
          rw [e3] at LD3
          dsimp only at LD3
          obtain ⟨V, hV⟩ : ∃ V, Wd.wrap xv % 256 = V := ⟨_, rfl⟩
          have hV0 : ¬ V < 0 := by omega
          have hv : (V != bits .and .i64 xv 255) = false := by
            rw [and_255, ← hV]
            have h : Wd.wrap xv % 256 = xv % 256 := by unfold Wd.wrap; omega
            rw [h]; simp
          by_cases c1 : xa ≤ a3
          · by_cases c2 : wrap64 (a3 - xa) < 1
            · have hj : a3 = xa := by unfold wrap64 at c2; omega
              subst hj
              obtain rfl : F = 0 := by rw [← HF.out]; exact My.fe_rd hG
              rw [e3] at LD2
              rw [hV] at LD2 LD3
              dsimp only at LD2
              have hw : wrap64 (a3 - a3) = 0 := by unfold wrap64; omega
              have hfin : (V == bits .and .i64 V 255) = true := by rw [and_255]; simp; omega
              clear e3 hV hM2 hG hp hq hxm h4
              generalize s0.i = i at *
              generalize s0.o = o at *
              generalize s0.r = r at *
              generalize s0.fl = fl at *
              generalize s0.inp = inp at *
              go_enter Try.func5, Try.ntmps5
              go_wp2_with (first | (go_at_call 8; refine (NB.out _).mono ?_; rintro e w1 ⟨l, rfl, hm1, ho1, hb1⟩; have HO := Lib.hid (fun b (h : l.own b) => (by have h1 := ho1 b h; simp at h1; omega : w.heap.size + 2 ≤ b)); have HT := Lib.hid (SX.out.kept hb1); clear y0 y1 y2 y3; have ys := HT.out; obtain ⟨y0, y1, y2, y3⟩ := ys; have HM0 := Lib.hid hm1; have HB := Lib.hid ((((Below.refl w.heap.size w).alloc (Nat.le_refl _) _).alloc (by simp) _).trans (hb1.mono (by simp; omega))); clear hb1 hm1 ho1) | (go_at_call 10; refine (PL.out l _ HB.out (fun b hb => by have := HO.out b hb; omega) HM0.out).mono ?_; rintro e w4 ⟨va, rfl, -, hm4, hr4⟩; replace HT := Lib.hid (sbox_kept' HT.out (hr4.below (B := w.heap.size + 2) (by have := cell_lt HT.out.1; exact this) HO.out) (Nat.lt_succ_self _)); clear y0 y1 y2 y3; have ys := HT.out; obtain ⟨y0, y1, y2, y3⟩ := ys; have HM1 := Lib.hid hm4; replace HB := Lib.hid (HB.out.trans (hr4.below HB.out.size (fun b hb => by have := HO.out b hb; omega))); clear hm4 hr4 HM0) | (go_at_call 15; first | ((with_reducible refine (LD1.out l _ HM1.out).mono ?_); rintro e w5 ⟨rfl, hb5⟩; replace HM1 := Lib.hid (HM1.out.kept hb5); replace HT := Lib.hid (HT.out.kept hb5); clear y0 y1 y2 y3; have ys := HT.out; obtain ⟨y0, y1, y2, y3⟩ := ys; replace HB := Lib.hid (HB.out.trans (hb5.mono HB.out.size)); clear hb5) | ((with_reducible refine (LD2.out l _ HM2.out).mono ?_); rintro e w5 ⟨rfl, hb5⟩; replace HM2 := Lib.hid (HM2.out.kept hb5); replace HT := Lib.hid (HT.out.kept hb5); clear y0 y1 y2 y3; have ys := HT.out; obtain ⟨y0, y1, y2, y3⟩ := ys; replace HB := Lib.hid (HB.out.trans (hb5.mono HB.out.size)); clear hb5) | ((with_reducible refine (LD3.out l _ HM2.out).mono ?_); rintro e w5 ⟨rfl, hb5⟩; replace HM2 := Lib.hid (HM2.out.kept hb5); replace HT := Lib.hid (HT.out.kept hb5); clear y0 y1 y2 y3; have ys := HT.out; obtain ⟨y0, y1, y2, y3⟩ := ys; replace HB := Lib.hid (HB.out.trans (hb5.mono HB.out.size)); clear hb5)) | (go_at_call 16; refine (STO.out l _ HM1.out).mono ?_; rintro e w4 ⟨rfl, hm4, hr4⟩; replace HT := Lib.hid (sbox_kept' HT.out (hr4.below (B := w.heap.size + 2) (by have := cell_lt HT.out.1; exact this) HO.out) (Nat.lt_succ_self _)); clear y0 y1 y2 y3; have ys := HT.out; obtain ⟨y0, y1, y2, y3⟩ := ys; have HM2 := Lib.hid hm4; replace HB := Lib.hid (HB.out.trans (hr4.below HB.out.size (fun b hb => by have := HO.out b hb; omega))); clear hm4 hr4 HM1) | (go_at_call 7; refine (LV.out _).mono ?_; rintro e w9 ⟨rfl, hb9⟩; replace HB := Lib.hid (HB.out.trans (hb9.mono HB.out.size)); clear hb9))
              go_ret
              exact ⟨rfl, HB.out⟩
            · have e2 := My.keep_out (s := s0) (M := M1) (xa := xa) (xn := 1) (xv := xv) (b := a3) (by unfold wrap64 at c2; omega)
              rw [hM2] at e2
              rw [e2] at LD2
              rw [hV] at LD3
              generalize (My.load s0 M1 a3 1).1 = W1 at *
              clear e2 e3 hV hM2 hG hp hq hxm h4
              generalize s0.i = i at *
              generalize s0.o = o at *
              generalize s0.r = r at *
              generalize s0.fl = fl at *
              generalize s0.inp = inp at *
              go_enter Try.func5, Try.ntmps5
              go_wp2_with (first | (go_at_call 8; refine (NB.out _).mono ?_; rintro e w1 ⟨l, rfl, hm1, ho1, hb1⟩; have HO := Lib.hid (fun b (h : l.own b) => (by have h1 := ho1 b h; simp at h1; omega : w.heap.size + 2 ≤ b)); have HT := Lib.hid (SX.out.kept hb1); clear y0 y1 y2 y3; have ys := HT.out; obtain ⟨y0, y1, y2, y3⟩ := ys; have HM0 := Lib.hid hm1; have HB := Lib.hid ((((Below.refl w.heap.size w).alloc (Nat.le_refl _) _).alloc (by simp) _).trans (hb1.mono (by simp; omega))); clear hb1 hm1 ho1) | (go_at_call 10; refine (PL.out l _ HB.out (fun b hb => by have := HO.out b hb; omega) HM0.out).mono ?_; rintro e w4 ⟨va, rfl, -, hm4, hr4⟩; replace HT := Lib.hid (sbox_kept' HT.out (hr4.below (B := w.heap.size + 2) (by have := cell_lt HT.out.1; exact this) HO.out) (Nat.lt_succ_self _)); clear y0 y1 y2 y3; have ys := HT.out; obtain ⟨y0, y1, y2, y3⟩ := ys; have HM1 := Lib.hid hm4; replace HB := Lib.hid (HB.out.trans (hr4.below HB.out.size (fun b hb => by have := HO.out b hb; omega))); clear hm4 hr4 HM0) | (go_at_call 15; first | ((with_reducible refine (LD1.out l _ HM1.out).mono ?_); rintro e w5 ⟨rfl, hb5⟩; replace HM1 := Lib.hid (HM1.out.kept hb5); replace HT := Lib.hid (HT.out.kept hb5); clear y0 y1 y2 y3; have ys := HT.out; obtain ⟨y0, y1, y2, y3⟩ := ys; replace HB := Lib.hid (HB.out.trans (hb5.mono HB.out.size)); clear hb5) | ((with_reducible refine (LD2.out l _ HM2.out).mono ?_); rintro e w5 ⟨rfl, hb5⟩; replace HM2 := Lib.hid (HM2.out.kept hb5); replace HT := Lib.hid (HT.out.kept hb5); clear y0 y1 y2 y3; have ys := HT.out; obtain ⟨y0, y1, y2, y3⟩ := ys; replace HB := Lib.hid (HB.out.trans (hb5.mono HB.out.size)); clear hb5) | ((with_reducible refine (LD3.out l _ HM2.out).mono ?_); rintro e w5 ⟨rfl, hb5⟩; replace HM2 := Lib.hid (HM2.out.kept hb5); replace HT := Lib.hid (HT.out.kept hb5); clear y0 y1 y2 y3; have ys := HT.out; obtain ⟨y0, y1, y2, y3⟩ := ys; replace HB := Lib.hid (HB.out.trans (hb5.mono HB.out.size)); clear hb5)) | (go_at_call 16; refine (STO.out l _ HM1.out).mono ?_; rintro e w4 ⟨rfl, hm4, hr4⟩; replace HT := Lib.hid (sbox_kept' HT.out (hr4.below (B := w.heap.size + 2) (by have := cell_lt HT.out.1; exact this) HO.out) (Nat.lt_succ_self _)); clear y0 y1 y2 y3; have ys := HT.out; obtain ⟨y0, y1, y2, y3⟩ := ys; have HM2 := Lib.hid hm4; replace HB := Lib.hid (HB.out.trans (hr4.below HB.out.size (fun b hb => by have := HO.out b hb; omega))); clear hm4 hr4 HM1) | (go_at_call 7; refine (LV.out _).mono ?_; rintro e w9 ⟨rfl, hb9⟩; replace HB := Lib.hid (HB.out.trans (hb9.mono HB.out.size)); clear hb9))
              go_ret
              exact ⟨rfl, HB.out⟩
          · have e2 := My.keep_out (s := s0) (M := M1) (xa := xa) (xn := 1) (xv := xv) (b := a3) (by omega)
            rw [hM2] at e2
            rw [e2] at LD2
            rw [hV] at LD3
            generalize (My.load s0 M1 a3 1).1 = W1 at *
            clear e2 e3 hV hM2 hG hp hq hxm h4
            generalize s0.i = i at *
            generalize s0.o = o at *
            generalize s0.r = r at *
            generalize s0.fl = fl at *
            generalize s0.inp = inp at *
            go_enter Try.func5, Try.ntmps5
            go_wp2_with (first | (go_at_call 8; refine (NB.out _).mono ?_; rintro e w1 ⟨l, rfl, hm1, ho1, hb1⟩; have HO := Lib.hid (fun b (h : l.own b) => (by have h1 := ho1 b h; simp at h1; omega : w.heap.size + 2 ≤ b)); have HT := Lib.hid (SX.out.kept hb1); clear y0 y1 y2 y3; have ys := HT.out; obtain ⟨y0, y1, y2, y3⟩ := ys; have HM0 := Lib.hid hm1; have HB := Lib.hid ((((Below.refl w.heap.size w).alloc (Nat.le_refl _) _).alloc (by simp) _).trans (hb1.mono (by simp; omega))); clear hb1 hm1 ho1) | (go_at_call 10; refine (PL.out l _ HB.out (fun b hb => by have := HO.out b hb; omega) HM0.out).mono ?_; rintro e w4 ⟨va, rfl, -, hm4, hr4⟩; replace HT := Lib.hid (sbox_kept' HT.out (hr4.below (B := w.heap.size + 2) (by have := cell_lt HT.out.1; exact this) HO.out) (Nat.lt_succ_self _)); clear y0 y1 y2 y3; have ys := HT.out; obtain ⟨y0, y1, y2, y3⟩ := ys; have HM1 := Lib.hid hm4; replace HB := Lib.hid (HB.out.trans (hr4.below HB.out.size (fun b hb => by have := HO.out b hb; omega))); clear hm4 hr4 HM0) | (go_at_call 15; first | ((with_reducible refine (LD1.out l _ HM1.out).mono ?_); rintro e w5 ⟨rfl, hb5⟩; replace HM1 := Lib.hid (HM1.out.kept hb5); replace HT := Lib.hid (HT.out.kept hb5); clear y0 y1 y2 y3; have ys := HT.out; obtain ⟨y0, y1, y2, y3⟩ := ys; replace HB := Lib.hid (HB.out.trans (hb5.mono HB.out.size)); clear hb5) | ((with_reducible refine (LD2.out l _ HM2.out).mono ?_); rintro e w5 ⟨rfl, hb5⟩; replace HM2 := Lib.hid (HM2.out.kept hb5); replace HT := Lib.hid (HT.out.kept hb5); clear y0 y1 y2 y3; have ys := HT.out; obtain ⟨y0, y1, y2, y3⟩ := ys; replace HB := Lib.hid (HB.out.trans (hb5.mono HB.out.size)); clear hb5) | ((with_reducible refine (LD3.out l _ HM2.out).mono ?_); rintro e w5 ⟨rfl, hb5⟩; replace HM2 := Lib.hid (HM2.out.kept hb5); replace HT := Lib.hid (HT.out.kept hb5); clear y0 y1 y2 y3; have ys := HT.out; obtain ⟨y0, y1, y2, y3⟩ := ys; replace HB := Lib.hid (HB.out.trans (hb5.mono HB.out.size)); clear hb5)) | (go_at_call 16; refine (STO.out l _ HM1.out).mono ?_; rintro e w4 ⟨rfl, hm4, hr4⟩; replace HT := Lib.hid (sbox_kept' HT.out (hr4.below (B := w.heap.size + 2) (by have := cell_lt HT.out.1; exact this) HO.out) (Nat.lt_succ_self _)); clear y0 y1 y2 y3; have ys := HT.out; obtain ⟨y0, y1, y2, y3⟩ := ys; have HM2 := Lib.hid hm4; replace HB := Lib.hid (HB.out.trans (hr4.below HB.out.size (fun b hb => by have := HO.out b hb; omega))); clear hm4 hr4 HM1) | (go_at_call 7; refine (LV.out _).mono ?_; rintro e w9 ⟨rfl, hb9⟩; replace HB := Lib.hid (HB.out.trans (hb9.mono HB.out.size)); clear hb9))
            go_ret
            exact ⟨rfl, HB.out⟩
        · have e3 := My.keep_4 (M := M1) (xv := xv) hG
          rw [hM2] at e3
          rw [e3] at LD3
          dsimp only at LD3
          obtain ⟨V, hV⟩ : ∃ V, Wd.wrap xv = V := ⟨_, rfl⟩
          have hV0 : ¬ V < 0 := by have := Wd.wrap_bd xv; omega
          have hV1 : V < 4294967296 := by have := Wd.wrap_bd xv; omega
          have hv : (V != bits .and .i64 xv 4294967295) = false := by
            rw [Wd.and_ones, hV]; simp
          by_cases c1 : xa ≤ a3
          · by_cases c2 : wrap64 (a3 - xa) < 4
            · have hj4 : a3 = xa + ((0 : Nat) : Int) ∨ a3 = xa + ((1 : Nat) : Int) ∨ a3 = xa + ((2 : Nat) : Int) ∨ a3 = xa + ((3 : Nat) : Int) := by unfold wrap64 at c2; omega
              rw [hV] at LD3
              rcases hj4 with hj | hj | hj | hj
              · have e2 := My.keep_b hg (M := M1) (xv := xv) hG (j := 0) (by decide)
                rw [hM2, ← hj] at e2
                rw [e2, hV] at LD2
                dsimp only at LD2
                have hw : wrap64 (a3 - xa) = 0 := by unfold wrap64; omega
                obtain ⟨N1, hN⟩ : ∃ N1, V / 256 ^ 0 % 256 = N1 := ⟨_, rfl⟩
                rw [hN] at LD2
                have hfin : (N1 == bits .and .i64 (V) 255) = true := by rw [and_255, ← hN]; simp
                clear e2 e3 hV hM2 hG hp hq hxm h4 hN hj
                generalize s0.i = i at *
                generalize s0.o = o at *
                generalize s0.r = r at *
                generalize s0.fl = fl at *
                generalize s0.inp = inp at *
                go_enter Try.func5, Try.ntmps5
                go_wp2_with (first | (go_at_call 8; refine (NB.out _).mono ?_; rintro e w1 ⟨l, rfl, hm1, ho1, hb1⟩; have HO := Lib.hid (fun b (h : l.own b) => (by have h1 := ho1 b h; simp at h1; omega : w.heap.size + 2 ≤ b)); have HT := Lib.hid (SX.out.kept hb1); clear y0 y1 y2 y3; have ys := HT.out; obtain ⟨y0, y1, y2, y3⟩ := ys; have HM0 := Lib.hid hm1; have HB := Lib.hid ((((Below.refl w.heap.size w).alloc (Nat.le_refl _) _).alloc (by simp) _).trans (hb1.mono (by simp; omega))); clear hb1 hm1 ho1) | (go_at_call 10; refine (PL.out l _ HB.out (fun b hb => by have := HO.out b hb; omega) HM0.out).mono ?_; rintro e w4 ⟨va, rfl, -, hm4, hr4⟩; replace HT := Lib.hid (sbox_kept' HT.out (hr4.below (B := w.heap.size + 2) (by have := cell_lt HT.out.1; exact this) HO.out) (Nat.lt_succ_self _)); clear y0 y1 y2 y3; have ys := HT.out; obtain ⟨y0, y1, y2, y3⟩ := ys; have HM1 := Lib.hid hm4; replace HB := Lib.hid (HB.out.trans (hr4.below HB.out.size (fun b hb => by have := HO.out b hb; omega))); clear hm4 hr4 HM0) | (go_at_call 15; first | ((with_reducible refine (LD1.out l _ HM1.out).mono ?_); rintro e w5 ⟨rfl, hb5⟩; replace HM1 := Lib.hid (HM1.out.kept hb5); replace HT := Lib.hid (HT.out.kept hb5); clear y0 y1 y2 y3; have ys := HT.out; obtain ⟨y0, y1, y2, y3⟩ := ys; replace HB := Lib.hid (HB.out.trans (hb5.mono HB.out.size)); clear hb5) | ((with_reducible refine (LD2.out l _ HM2.out).mono ?_); rintro e w5 ⟨rfl, hb5⟩; replace HM2 := Lib.hid (HM2.out.kept hb5); replace HT := Lib.hid (HT.out.kept hb5); clear y0 y1 y2 y3; have ys := HT.out; obtain ⟨y0, y1, y2, y3⟩ := ys; replace HB := Lib.hid (HB.out.trans (hb5.mono HB.out.size)); clear hb5) | ((with_reducible refine (LD3.out l _ HM2.out).mono ?_); rintro e w5 ⟨rfl, hb5⟩; replace HM2 := Lib.hid (HM2.out.kept hb5); replace HT := Lib.hid (HT.out.kept hb5); clear y0 y1 y2 y3; have ys := HT.out; obtain ⟨y0, y1, y2, y3⟩ := ys; replace HB := Lib.hid (HB.out.trans (hb5.mono HB.out.size)); clear hb5)) | (go_at_call 16; refine (STO.out l _ HM1.out).mono ?_; rintro e w4 ⟨rfl, hm4, hr4⟩; replace HT := Lib.hid (sbox_kept' HT.out (hr4.below (B := w.heap.size + 2) (by have := cell_lt HT.out.1; exact this) HO.out) (Nat.lt_succ_self _)); clear y0 y1 y2 y3; have ys := HT.out; obtain ⟨y0, y1, y2, y3⟩ := ys; have HM2 := Lib.hid hm4; replace HB := Lib.hid (HB.out.trans (hr4.below HB.out.size (fun b hb => by have := HO.out b hb; omega))); clear hm4 hr4 HM1) | (go_at_call 7; refine (LV.out _).mono ?_; rintro e w9 ⟨rfl, hb9⟩; replace HB := Lib.hid (HB.out.trans (hb9.mono HB.out.size)); clear hb9))
                go_ret
                exact ⟨rfl, HB.out⟩
              · have e2 := My.keep_b hg (M := M1) (xv := xv) hG (j := 1) (by decide)
                rw [hM2, ← hj] at e2
                rw [e2, hV] at LD2
                dsimp only at LD2
                have hw : wrap64 (a3 - xa) = 1 := by unfold wrap64; omega
                obtain ⟨N1, hN⟩ : ∃ N1, V / 256 ^ 1 % 256 = N1 := ⟨_, rfl⟩
                rw [hN] at LD2
                have hfin : (N1 == bits .and .i64 (V / 256) 255) = true := by rw [and_255, ← hN]; simp
                clear e2 e3 hV hM2 hG hp hq hxm h4 hN hj
                generalize s0.i = i at *
                generalize s0.o = o at *
                generalize s0.r = r at *
                generalize s0.fl = fl at *
                generalize s0.inp = inp at *
                go_enter Try.func5, Try.ntmps5
                go_wp2_with (first | (go_at_call 8; refine (NB.out _).mono ?_; rintro e w1 ⟨l, rfl, hm1, ho1, hb1⟩; have HO := Lib.hid (fun b (h : l.own b) => (by have h1 := ho1 b h; simp at h1; omega : w.heap.size + 2 ≤ b)); have HT := Lib.hid (SX.out.kept hb1); clear y0 y1 y2 y3; have ys := HT.out; obtain ⟨y0, y1, y2, y3⟩ := ys; have HM0 := Lib.hid hm1; have HB := Lib.hid ((((Below.refl w.heap.size w).alloc (Nat.le_refl _) _).alloc (by simp) _).trans (hb1.mono (by simp; omega))); clear hb1 hm1 ho1) | (go_at_call 10; refine (PL.out l _ HB.out (fun b hb => by have := HO.out b hb; omega) HM0.out).mono ?_; rintro e w4 ⟨va, rfl, -, hm4, hr4⟩; replace HT := Lib.hid (sbox_kept' HT.out (hr4.below (B := w.heap.size + 2) (by have := cell_lt HT.out.1; exact this) HO.out) (Nat.lt_succ_self _)); clear y0 y1 y2 y3; have ys := HT.out; obtain ⟨y0, y1, y2, y3⟩ := ys; have HM1 := Lib.hid hm4; replace HB := Lib.hid (HB.out.trans (hr4.below HB.out.size (fun b hb => by have := HO.out b hb; omega))); clear hm4 hr4 HM0) | (go_at_call 15; first | ((with_reducible refine (LD1.out l _ HM1.out).mono ?_); rintro e w5 ⟨rfl, hb5⟩; replace HM1 := Lib.hid (HM1.out.kept hb5); replace HT := Lib.hid (HT.out.kept hb5); clear y0 y1 y2 y3; have ys := HT.out; obtain ⟨y0, y1, y2, y3⟩ := ys; replace HB := Lib.hid (HB.out.trans (hb5.mono HB.out.size)); clear hb5) | ((with_reducible refine (LD2.out l _ HM2.out).mono ?_); rintro e w5 ⟨rfl, hb5⟩; replace HM2 := Lib.hid (HM2.out.kept hb5); replace HT := Lib.hid (HT.out.kept hb5); clear y0 y1 y2 y3; have ys := HT.out; obtain ⟨y0, y1, y2, y3⟩ := ys; replace HB := Lib.hid (HB.out.trans (hb5.mono HB.out.size)); clear hb5) | ((with_reducible refine (LD3.out l _ HM2.out).mono ?_); rintro e w5 ⟨rfl, hb5⟩; replace HM2 := Lib.hid (HM2.out.kept hb5); replace HT := Lib.hid (HT.out.kept hb5); clear y0 y1 y2 y3; have ys := HT.out; obtain ⟨y0, y1, y2, y3⟩ := ys; replace HB := Lib.hid (HB.out.trans (hb5.mono HB.out.size)); clear hb5)) | (go_at_call 16; refine (STO.out l _ HM1.out).mono ?_; rintro e w4 ⟨rfl, hm4, hr4⟩; replace HT := Lib.hid (sbox_kept' HT.out (hr4.below (B := w.heap.size + 2) (by have := cell_lt HT.out.1; exact this) HO.out) (Nat.lt_succ_self _)); clear y0 y1 y2 y3; have ys := HT.out; obtain ⟨y0, y1, y2, y3⟩ := ys; have HM2 := Lib.hid hm4; replace HB := Lib.hid (HB.out.trans (hr4.below HB.out.size (fun b hb => by have := HO.out b hb; omega))); clear hm4 hr4 HM1) | (go_at_call 7; refine (LV.out _).mono ?_; rintro e w9 ⟨rfl, hb9⟩; replace HB := Lib.hid (HB.out.trans (hb9.mono HB.out.size)); clear hb9))
                go_ret
                exact ⟨rfl, HB.out⟩
              · have e2 := My.keep_b hg (M := M1) (xv := xv) hG (j := 2) (by decide)
                rw [hM2, ← hj] at e2
                rw [e2, hV] at LD2
                dsimp only at LD2
                have hw : wrap64 (a3 - xa) = 2 := by unfold wrap64; omega
                obtain ⟨N1, hN⟩ : ∃ N1, V / 256 ^ 2 % 256 = N1 := ⟨_, rfl⟩
                rw [hN] at LD2
                have hfin : (N1 == bits .and .i64 (V / 65536) 255) = true := by rw [and_255, ← hN]; simp
                clear e2 e3 hV hM2 hG hp hq hxm h4 hN hj
                generalize s0.i = i at *
                generalize s0.o = o at *
                generalize s0.r = r at *
                generalize s0.fl = fl at *
                generalize s0.inp = inp at *
                go_enter Try.func5, Try.ntmps5
                go_wp2_with (first | (go_at_call 8; refine (NB.out _).mono ?_; rintro e w1 ⟨l, rfl, hm1, ho1, hb1⟩; have HO := Lib.hid (fun b (h : l.own b) => (by have h1 := ho1 b h; simp at h1; omega : w.heap.size + 2 ≤ b)); have HT := Lib.hid (SX.out.kept hb1); clear y0 y1 y2 y3; have ys := HT.out; obtain ⟨y0, y1, y2, y3⟩ := ys; have HM0 := Lib.hid hm1; have HB := Lib.hid ((((Below.refl w.heap.size w).alloc (Nat.le_refl _) _).alloc (by simp) _).trans (hb1.mono (by simp; omega))); clear hb1 hm1 ho1) | (go_at_call 10; refine (PL.out l _ HB.out (fun b hb => by have := HO.out b hb; omega) HM0.out).mono ?_; rintro e w4 ⟨va, rfl, -, hm4, hr4⟩; replace HT := Lib.hid (sbox_kept' HT.out (hr4.below (B := w.heap.size + 2) (by have := cell_lt HT.out.1; exact this) HO.out) (Nat.lt_succ_self _)); clear y0 y1 y2 y3; have ys := HT.out; obtain ⟨y0, y1, y2, y3⟩ := ys; have HM1 := Lib.hid hm4; replace HB := Lib.hid (HB.out.trans (hr4.below HB.out.size (fun b hb => by have := HO.out b hb; omega))); clear hm4 hr4 HM0) | (go_at_call 15; first | ((with_reducible refine (LD1.out l _ HM1.out).mono ?_); rintro e w5 ⟨rfl, hb5⟩; replace HM1 := Lib.hid (HM1.out.kept hb5); replace HT := Lib.hid (HT.out.kept hb5); clear y0 y1 y2 y3; have ys := HT.out; obtain ⟨y0, y1, y2, y3⟩ := ys; replace HB := Lib.hid (HB.out.trans (hb5.mono HB.out.size)); clear hb5) | ((with_reducible refine (LD2.out l _ HM2.out).mono ?_); rintro e w5 ⟨rfl, hb5⟩; replace HM2 := Lib.hid (HM2.out.kept hb5); replace HT := Lib.hid (HT.out.kept hb5); clear y0 y1 y2 y3; have ys := HT.out; obtain ⟨y0, y1, y2, y3⟩ := ys; replace HB := Lib.hid (HB.out.trans (hb5.mono HB.out.size)); clear hb5) | ((with_reducible refine (LD3.out l _ HM2.out).mono ?_); rintro e w5 ⟨rfl, hb5⟩; replace HM2 := Lib.hid (HM2.out.kept hb5); replace HT := Lib.hid (HT.out.kept hb5); clear y0 y1 y2 y3; have ys := HT.out; obtain ⟨y0, y1, y2, y3⟩ := ys; replace HB := Lib.hid (HB.out.trans (hb5.mono HB.out.size)); clear hb5)) | (go_at_call 16; refine (STO.out l _ HM1.out).mono ?_; rintro e w4 ⟨rfl, hm4, hr4⟩; replace HT := Lib.hid (sbox_kept' HT.out (hr4.below (B := w.heap.size + 2) (by have := cell_lt HT.out.1; exact this) HO.out) (Nat.lt_succ_self _)); clear y0 y1 y2 y3; have ys := HT.out; obtain ⟨y0, y1, y2, y3⟩ := ys; have HM2 := Lib.hid hm4; replace HB := Lib.hid (HB.out.trans (hr4.below HB.out.size (fun b hb => by have := HO.out b hb; omega))); clear hm4 hr4 HM1) | (go_at_call 7; refine (LV.out _).mono ?_; rintro e w9 ⟨rfl, hb9⟩; replace HB := Lib.hid (HB.out.trans (hb9.mono HB.out.size)); clear hb9))
                go_ret
                exact ⟨rfl, HB.out⟩
              · have e2 := My.keep_b hg (M := M1) (xv := xv) hG (j := 3) (by decide)
                rw [hM2, ← hj] at e2
                rw [e2, hV] at LD2
                dsimp only at LD2
                have hw : wrap64 (a3 - xa) = 3 := by unfold wrap64; omega
                obtain ⟨N1, hN⟩ : ∃ N1, V / 256 ^ 3 % 256 = N1 := ⟨_, rfl⟩
                rw [hN] at LD2
                have hfin : (N1 == bits .and .i64 (V / 16777216) 255) = true := by rw [and_255, ← hN]; simp
                clear e2 e3 hV hM2 hG hp hq hxm h4 hN hj
                generalize s0.i = i at *
                generalize s0.o = o at *
                generalize s0.r = r at *
                generalize s0.fl = fl at *
                generalize s0.inp = inp at *
                go_enter Try.func5, Try.ntmps5
                go_wp2_with (first | (go_at_call 8; refine (NB.out _).mono ?_; rintro e w1 ⟨l, rfl, hm1, ho1, hb1⟩; have HO := Lib.hid (fun b (h : l.own b) => (by have h1 := ho1 b h; simp at h1; omega : w.heap.size + 2 ≤ b)); have HT := Lib.hid (SX.out.kept hb1); clear y0 y1 y2 y3; have ys := HT.out; obtain ⟨y0, y1, y2, y3⟩ := ys; have HM0 := Lib.hid hm1; have HB := Lib.hid ((((Below.refl w.heap.size w).alloc (Nat.le_refl _) _).alloc (by simp) _).trans (hb1.mono (by simp; omega))); clear hb1 hm1 ho1) | (go_at_call 10; refine (PL.out l _ HB.out (fun b hb => by have := HO.out b hb; omega) HM0.out).mono ?_; rintro e w4 ⟨va, rfl, -, hm4, hr4⟩; replace HT := Lib.hid (sbox_kept' HT.out (hr4.below (B := w.heap.size + 2) (by have := cell_lt HT.out.1; exact this) HO.out) (Nat.lt_succ_self _)); clear y0 y1 y2 y3; have ys := HT.out; obtain ⟨y0, y1, y2, y3⟩ := ys; have HM1 := Lib.hid hm4; replace HB := Lib.hid (HB.out.trans (hr4.below HB.out.size (fun b hb => by have := HO.out b hb; omega))); clear hm4 hr4 HM0) | (go_at_call 15; first | ((with_reducible refine (LD1.out l _ HM1.out).mono ?_); rintro e w5 ⟨rfl, hb5⟩; replace HM1 := Lib.hid (HM1.out.kept hb5); replace HT := Lib.hid (HT.out.kept hb5); clear y0 y1 y2 y3; have ys := HT.out; obtain ⟨y0, y1, y2, y3⟩ := ys; replace HB := Lib.hid (HB.out.trans (hb5.mono HB.out.size)); clear hb5) | ((with_reducible refine (LD2.out l _ HM2.out).mono ?_); rintro e w5 ⟨rfl, hb5⟩; replace HM2 := Lib.hid (HM2.out.kept hb5); replace HT := Lib.hid (HT.out.kept hb5); clear y0 y1 y2 y3; have ys := HT.out; obtain ⟨y0, y1, y2, y3⟩ := ys; replace HB := Lib.hid (HB.out.trans (hb5.mono HB.out.size)); clear hb5) | ((with_reducible refine (LD3.out l _ HM2.out).mono ?_); rintro e w5 ⟨rfl, hb5⟩; replace HM2 := Lib.hid (HM2.out.kept hb5); replace HT := Lib.hid (HT.out.kept hb5); clear y0 y1 y2 y3; have ys := HT.out; obtain ⟨y0, y1, y2, y3⟩ := ys; replace HB := Lib.hid (HB.out.trans (hb5.mono HB.out.size)); clear hb5)) | (go_at_call 16; refine (STO.out l _ HM1.out).mono ?_; rintro e w4 ⟨rfl, hm4, hr4⟩; replace HT := Lib.hid (sbox_kept' HT.out (hr4.below (B := w.heap.size + 2) (by have := cell_lt HT.out.1; exact this) HO.out) (Nat.lt_succ_self _)); clear y0 y1 y2 y3; have ys := HT.out; obtain ⟨y0, y1, y2, y3⟩ := ys; have HM2 := Lib.hid hm4; replace HB := Lib.hid (HB.out.trans (hr4.below HB.out.size (fun b hb => by have := HO.out b hb; omega))); clear hm4 hr4 HM1) | (go_at_call 7; refine (LV.out _).mono ?_; rintro e w9 ⟨rfl, hb9⟩; replace HB := Lib.hid (HB.out.trans (hb9.mono HB.out.size)); clear hb9))
                go_ret
                exact ⟨rfl, HB.out⟩
            · have e2 := My.keep_out (s := s0) (M := M1) (xa := xa) (xn := 4) (xv := xv) (b := a3) (by unfold wrap64 at c2; omega)
              rw [hM2] at e2
              rw [e2] at LD2
              rw [hV] at LD3
              generalize (My.load s0 M1 a3 1).1 = W1 at *
              clear e2 e3 hV hM2 hG hp hq hxm h4
              generalize s0.i = i at *
              generalize s0.o = o at *
              generalize s0.r = r at *
              generalize s0.fl = fl at *
              generalize s0.inp = inp at *
              go_enter Try.func5, Try.ntmps5
              go_wp2_with (first | (go_at_call 8; refine (NB.out _).mono ?_; rintro e w1 ⟨l, rfl, hm1, ho1, hb1⟩; have HO := Lib.hid (fun b (h : l.own b) => (by have h1 := ho1 b h; simp at h1; omega : w.heap.size + 2 ≤ b)); have HT := Lib.hid (SX.out.kept hb1); clear y0 y1 y2 y3; have ys := HT.out; obtain ⟨y0, y1, y2, y3⟩ := ys; have HM0 := Lib.hid hm1; have HB := Lib.hid ((((Below.refl w.heap.size w).alloc (Nat.le_refl _) _).alloc (by simp) _).trans (hb1.mono (by simp; omega))); clear hb1 hm1 ho1) | (go_at_call 10; refine (PL.out l _ HB.out (fun b hb => by have := HO.out b hb; omega) HM0.out).mono ?_; rintro e w4 ⟨va, rfl, -, hm4, hr4⟩; replace HT := Lib.hid (sbox_kept' HT.out (hr4.below (B := w.heap.size + 2) (by have := cell_lt HT.out.1; exact this) HO.out) (Nat.lt_succ_self _)); clear y0 y1 y2 y3; have ys := HT.out; obtain ⟨y0, y1, y2, y3⟩ := ys; have HM1 := Lib.hid hm4; replace HB := Lib.hid (HB.out.trans (hr4.below HB.out.size (fun b hb => by have := HO.out b hb; omega))); clear hm4 hr4 HM0) | (go_at_call 15; first | ((with_reducible refine (LD1.out l _ HM1.out).mono ?_); rintro e w5 ⟨rfl, hb5⟩; replace HM1 := Lib.hid (HM1.out.kept hb5); replace HT := Lib.hid (HT.out.kept hb5); clear y0 y1 y2 y3; have ys := HT.out; obtain ⟨y0, y1, y2, y3⟩ := ys; replace HB := Lib.hid (HB.out.trans (hb5.mono HB.out.size)); clear hb5) | ((with_reducible refine (LD2.out l _ HM2.out).mono ?_); rintro e w5 ⟨rfl, hb5⟩; replace HM2 := Lib.hid (HM2.out.kept hb5); replace HT := Lib.hid (HT.out.kept hb5); clear y0 y1 y2 y3; have ys := HT.out; obtain ⟨y0, y1, y2, y3⟩ := ys; replace HB := Lib.hid (HB.out.trans (hb5.mono HB.out.size)); clear hb5) | ((with_reducible refine (LD3.out l _ HM2.out).mono ?_); rintro e w5 ⟨rfl, hb5⟩; replace HM2 := Lib.hid (HM2.out.kept hb5); replace HT := Lib.hid (HT.out.kept hb5); clear y0 y1 y2 y3; have ys := HT.out; obtain ⟨y0, y1, y2, y3⟩ := ys; replace HB := Lib.hid (HB.out.trans (hb5.mono HB.out.size)); clear hb5)) | (go_at_call 16; refine (STO.out l _ HM1.out).mono ?_; rintro e w4 ⟨rfl, hm4, hr4⟩; replace HT := Lib.hid (sbox_kept' HT.out (hr4.below (B := w.heap.size + 2) (by have := cell_lt HT.out.1; exact this) HO.out) (Nat.lt_succ_self _)); clear y0 y1 y2 y3; have ys := HT.out; obtain ⟨y0, y1, y2, y3⟩ := ys; have HM2 := Lib.hid hm4; replace HB := Lib.hid (HB.out.trans (hr4.below HB.out.size (fun b hb => by have := HO.out b hb; omega))); clear hm4 hr4 HM1) | (go_at_call 7; refine (LV.out _).mono ?_; rintro e w9 ⟨rfl, hb9⟩; replace HB := Lib.hid (HB.out.trans (hb9.mono HB.out.size)); clear hb9))
              go_ret
              exact ⟨rfl, HB.out⟩
          · have e2 := My.keep_out (s := s0) (M := M1) (xa := xa) (xn := 4) (xv := xv) (b := a3) (by omega)
            rw [hM2] at e2
            rw [e2] at LD2
            rw [hV] at LD3
            generalize (My.load s0 M1 a3 1).1 = W1 at *
            clear e2 e3 hV hM2 hG hp hq hxm h4
            generalize s0.i = i at *
            generalize s0.o = o at *
            generalize s0.r = r at *
            generalize s0.fl = fl at *
            generalize s0.inp = inp at *
            go_enter Try.func5, Try.ntmps5
            go_wp2_with (first | (go_at_call 8; refine (NB.out _).mono ?_; rintro e w1 ⟨l, rfl, hm1, ho1, hb1⟩; have HO := Lib.hid (fun b (h : l.own b) => (by have h1 := ho1 b h; simp at h1; omega : w.heap.size + 2 ≤ b)); have HT := Lib.hid (SX.out.kept hb1); clear y0 y1 y2 y3; have ys := HT.out; obtain ⟨y0, y1, y2, y3⟩ := ys; have HM0 := Lib.hid hm1; have HB := Lib.hid ((((Below.refl w.heap.size w).alloc (Nat.le_refl _) _).alloc (by simp) _).trans (hb1.mono (by simp; omega))); clear hb1 hm1 ho1) | (go_at_call 10; refine (PL.out l _ HB.out (fun b hb => by have := HO.out b hb; omega) HM0.out).mono ?_; rintro e w4 ⟨va, rfl, -, hm4, hr4⟩; replace HT := Lib.hid (sbox_kept' HT.out (hr4.below (B := w.heap.size + 2) (by have := cell_lt HT.out.1; exact this) HO.out) (Nat.lt_succ_self _)); clear y0 y1 y2 y3; have ys := HT.out; obtain ⟨y0, y1, y2, y3⟩ := ys; have HM1 := Lib.hid hm4; replace HB := Lib.hid (HB.out.trans (hr4.below HB.out.size (fun b hb => by have := HO.out b hb; omega))); clear hm4 hr4 HM0) | (go_at_call 15; first | ((with_reducible refine (LD1.out l _ HM1.out).mono ?_); rintro e w5 ⟨rfl, hb5⟩; replace HM1 := Lib.hid (HM1.out.kept hb5); replace HT := Lib.hid (HT.out.kept hb5); clear y0 y1 y2 y3; have ys := HT.out; obtain ⟨y0, y1, y2, y3⟩ := ys; replace HB := Lib.hid (HB.out.trans (hb5.mono HB.out.size)); clear hb5) | ((with_reducible refine (LD2.out l _ HM2.out).mono ?_); rintro e w5 ⟨rfl, hb5⟩; replace HM2 := Lib.hid (HM2.out.kept hb5); replace HT := Lib.hid (HT.out.kept hb5); clear y0 y1 y2 y3; have ys := HT.out; obtain ⟨y0, y1, y2, y3⟩ := ys; replace HB := Lib.hid (HB.out.trans (hb5.mono HB.out.size)); clear hb5) | ((with_reducible refine (LD3.out l _ HM2.out).mono ?_); rintro e w5 ⟨rfl, hb5⟩; replace HM2 := Lib.hid (HM2.out.kept hb5); replace HT := Lib.hid (HT.out.kept hb5); clear y0 y1 y2 y3; have ys := HT.out; obtain ⟨y0, y1, y2, y3⟩ := ys; replace HB := Lib.hid (HB.out.trans (hb5.mono HB.out.size)); clear hb5)) | (go_at_call 16; refine (STO.out l _ HM1.out).mono ?_; rintro e w4 ⟨rfl, hm4, hr4⟩; replace HT := Lib.hid (sbox_kept' HT.out (hr4.below (B := w.heap.size + 2) (by have := cell_lt HT.out.1; exact this) HO.out) (Nat.lt_succ_self _)); clear y0 y1 y2 y3; have ys := HT.out; obtain ⟨y0, y1, y2, y3⟩ := ys; have HM2 := Lib.hid hm4; replace HB := Lib.hid (HB.out.trans (hr4.below HB.out.size (fun b hb => by have := HO.out b hb; omega))); clear hm4 hr4 HM1) | (go_at_call 7; refine (LV.out _).mono ?_; rintro e w9 ⟨rfl, hb9⟩; replace HB := Lib.hid (HB.out.trans (hb9.mono HB.out.size)); clear hb9))
            go_ret
            exact ⟨rfl, HB.out⟩
      · rw [if_neg hG] at hM2
        subst hM2
        generalize My.fe s0 xa xn true = G at *
        have hGb : (G == 0) = false := by simpa using hG
        generalize (My.load s0 M1 a3 1).1 = W1 at *
        generalize (My.load s0 M1 xa xn).1 = V at *
        generalize (My.load s0 M1 xa xn).2 = I at *
        generalize s0.i = i at *
        generalize s0.o = o at *
        generalize s0.r = r at *
        generalize s0.fl = fl at *
        generalize s0.inp = inp at *
        go_enter Try.func5, Try.ntmps5
        go_wp2_with (first | (go_at_call 8; refine (NB.out _).mono ?_; rintro e w1 ⟨l, rfl, hm1, ho1, hb1⟩; have HO := Lib.hid (fun b (h : l.own b) => (by have h1 := ho1 b h; simp at h1; omega : w.heap.size + 2 ≤ b)); have HT := Lib.hid (SX.out.kept hb1); clear y0 y1 y2 y3; have ys := HT.out; obtain ⟨y0, y1, y2, y3⟩ := ys; have HM0 := Lib.hid hm1; have HB := Lib.hid ((((Below.refl w.heap.size w).alloc (Nat.le_refl _) _).alloc (by simp) _).trans (hb1.mono (by simp; omega))); clear hb1 hm1 ho1) | (go_at_call 10; refine (PL.out l _ HB.out (fun b hb => by have := HO.out b hb; omega) HM0.out).mono ?_; rintro e w4 ⟨va, rfl, -, hm4, hr4⟩; replace HT := Lib.hid (sbox_kept' HT.out (hr4.below (B := w.heap.size + 2) (by have := cell_lt HT.out.1; exact this) HO.out) (Nat.lt_succ_self _)); clear y0 y1 y2 y3; have ys := HT.out; obtain ⟨y0, y1, y2, y3⟩ := ys; have HM1 := Lib.hid hm4; replace HB := Lib.hid (HB.out.trans (hr4.below HB.out.size (fun b hb => by have := HO.out b hb; omega))); clear hm4 hr4 HM0) | (go_at_call 15; first | ((with_reducible refine (LD1.out l _ HM1.out).mono ?_); rintro e w5 ⟨rfl, hb5⟩; replace HM1 := Lib.hid (HM1.out.kept hb5); replace HT := Lib.hid (HT.out.kept hb5); clear y0 y1 y2 y3; have ys := HT.out; obtain ⟨y0, y1, y2, y3⟩ := ys; replace HB := Lib.hid (HB.out.trans (hb5.mono HB.out.size)); clear hb5) | ((with_reducible refine (LD2.out l _ HM2.out).mono ?_); rintro e w5 ⟨rfl, hb5⟩; replace HM2 := Lib.hid (HM2.out.kept hb5); replace HT := Lib.hid (HT.out.kept hb5); clear y0 y1 y2 y3; have ys := HT.out; obtain ⟨y0, y1, y2, y3⟩ := ys; replace HB := Lib.hid (HB.out.trans (hb5.mono HB.out.size)); clear hb5) | ((with_reducible refine (LD3.out l _ HM2.out).mono ?_); rintro e w5 ⟨rfl, hb5⟩; replace HM2 := Lib.hid (HM2.out.kept hb5); replace HT := Lib.hid (HT.out.kept hb5); clear y0 y1 y2 y3; have ys := HT.out; obtain ⟨y0, y1, y2, y3⟩ := ys; replace HB := Lib.hid (HB.out.trans (hb5.mono HB.out.size)); clear hb5)) | (go_at_call 16; refine (STO.out l _ HM1.out).mono ?_; rintro e w4 ⟨rfl, hm4, hr4⟩; replace HT := Lib.hid (sbox_kept' HT.out (hr4.below (B := w.heap.size + 2) (by have := cell_lt HT.out.1; exact this) HO.out) (Nat.lt_succ_self _)); clear y0 y1 y2 y3; have ys := HT.out; obtain ⟨y0, y1, y2, y3⟩ := ys; have HM2 := Lib.hid hm4; replace HB := Lib.hid (HB.out.trans (hr4.below HB.out.size (fun b hb => by have := HO.out b hb; omega))); clear hm4 hr4 HM1) | (go_at_call 7; refine (LV.out _).mono ?_; rintro e w9 ⟨rfl, hb9⟩; replace HB := Lib.hid (HB.out.trans (hb9.mono HB.out.size)); clear hb9))
        go_ret
        exact ⟨rfl, HB.out⟩
    · have hE : ¬ My.err s0 = 0 := fun h => hg (My.err_0.1 h)
      have NB : Hid (∀ w : World, Calls Try.prog 8 #[.agg #[.int .i64 s0.i, .int .i64 s0.o, .int .i64 s0.r], .string s0.fl, .string s0.inp] w fun e w' => e = .returned (.tuple #[.pointer none, .int .i64 (My.err s0)]) ∧ Below w.heap.size w w') := Lib.hid fun w => new_bad s0 w hg
      generalize My.err s0 = E at *
      have hEb : (E != 0) = true := by simpa using hE
      clear hg
      generalize s0.i = i at *
      generalize s0.o = o at *
      generalize s0.r = r at *
      generalize s0.fl = fl at *
      generalize s0.inp = inp at *
      go_enter Try.func5, Try.ntmps5
      go_wp2_with (first | (go_at_call 8; refine (NB.out _).mono ?_; rintro e w1 ⟨rfl, hb1⟩; have HB := Lib.hid ((((Below.refl w.heap.size w).alloc (Nat.le_refl _) _).alloc (by simp) _).trans (hb1.mono (by simp; omega))); clear hb1) | (go_at_call 7; refine (LV.out _).mono ?_; rintro e w9 ⟨rfl, hb9⟩; replace HB := Lib.hid (HB.out.trans (hb9.mono HB.out.size)); clear hb9))
      go_ret
      exact ⟨rfl, HB.out⟩

set_option maxRecDepth 100000 in
theorem lifted (os : Os) (started : os.Started) (H : Type) (enc : TypeId × Value → H) :
    ReturnsInHanded {} Try.checked os 5 .any (Rows.memoryKeepsSpec.pre6 enc Try.prog Try.f5 Rows.memoryKeepsRow.domain false) (Rows.memoryKeepsSpec.post enc Try.prog Try.f5 false true false false) := by
  refine returnsInHanded_of_change (C := Try.checked) own started (by kernel_rfl) Try.func5
    (ChangeSpec.witness6 (enc := enc) (C := Try.checked) false ⟨#[], #[.agg #[.int .i64 0, .int .i64 0, .int .i64 0, .string ByteArray.empty, .string ByteArray.empty], .slice none 0 0, .agg #[.int .i64 0, .int .i64 0, .int .i64 0, .int .i64 0], .int .i64 0], []⟩ 8 (by kernel_rfl) (by kernel_rfl) (by kernel_rfl) (by kernel_rfl)) ?_
  intro W base args ds gs before hval0 hW hcnd _
  have hval : ∀ (j : Nat) t v, Try.f5.params[j]? = some t → args[j]? = some v → Value.okWide Try.prog W .any base t v := hval0
  have hW' := hW
  obtain ⟨p, q, hA0, hV, rfl, hfz, hnd⟩ := hW
  have hA : DataW.TrodAll enc Try.prog W 0 (fun _ => true) true Try.f5.params.toList args.toList ds p := hA0
  rw [Try.params5] at hA hval
  obtain ⟨v0, vs0, d0, ds0, p0, q0, hargs, rfl, rfl, h0, r0⟩ := trodAll_cons hA
  obtain ⟨v1, vs1, d1, ds1, p1, q1, rfl, rfl, rfl, h1, r1⟩ := trodAll_cons r0
  obtain ⟨v2, vs2, d2, ds2, p2, q2, rfl, rfl, rfl, h2, r2⟩ := trodAll_cons r1
  obtain ⟨v3, vs3, d3, ds3, p3, q3, rfl, rfl, rfl, h3, r3⟩ := trodAll_cons r2
  obtain ⟨rfl, rfl, rfl⟩ := trodAll_nil r3
  obtain rfl : args = #[v0, v1, v2, v3] := by cases args; simp_all
  obtain ⟨rfl, rfl⟩ := trodVars_none hV
  have k0 := h0
  have lt0 : ∀ x ∈ p0, x.block < W.heap.size := by obtain ⟨m, hm⟩ := k0; exact DataW.trod_lt m _ _ _ hm
  obtain ⟨s0, rfl, wr0⟩ := open_start (hval 0 25 v0 rfl rfl) h0
  have k1 := h1
  have lt1 : ∀ x ∈ p1, x.block < W.heap.size := by obtain ⟨m, hm⟩ := k1; exact DataW.trod_lt m _ _ _ hm
  obtain ⟨L1, p1v, c1v, rfl, t1, f1, k1c⟩ := open_steps (hval 1 26 v1 rfl rfl) h1
  have k2 := h2
  have lt2 : ∀ x ∈ p2, x.block < W.heap.size := by obtain ⟨m, hm⟩ := k2; exact DataW.trod_lt m _ _ _ hm
  obtain ⟨x2, rfl, wx2⟩ := open_step (hval 2 44 v2 rfl rfl) h2
  obtain ⟨a3, rfl, rfl, rfl, w3⟩ := open_int Try.underlying3 (hval 3 3 v3 rfl rfl) h3
  clear hA0 hval0
  refine (walk s0 p1v c1v L1 x2 a3 wr0 wx2 w3 W t1 f1 k1c).mono fun e W' ⟨he, bel⟩ => ?_
  subst he
  exact ⟨_, rfl, _, _, _, [], _, [], hW', trodAll_mk1 (shut_bool Try.underlying4 _), (trodAll_cons_mk (Below.trod laidOut (by kernel_rfl) (of_decide_eq_true (by kernel_rfl)) k0 bel lt0) (trodAll_cons_mk (Below.trod laidOut (by kernel_rfl) (of_decide_eq_true (by kernel_rfl)) k1 bel lt1) (trodAll_cons_mk (Below.trod laidOut (by kernel_rfl) (of_decide_eq_true (by kernel_rfl)) k2 bel lt2) (trodAll_cons_mk (shut_int Try.underlying3 w3) trodAll_mk0)))), rfl, bel.frame _, fun h => by cases h⟩

theorem over : Rows.memoryKeepsRow.holds Try.pinned (OpenSpec.ofChange Rows.memoryKeepsSpec) :=
  OpenClaim.holds_of_wide 5 Try.f5 rfl rfl rfl rfl rfl rfl rfl ⟨rfl, rfl, rfl, rfl, rfl⟩ rfl rfl rfl rfl rfl (by kernel_rfl) Try.func5 (by kernel_rfl)
    (of_decide_eq_true (by kernel_rfl)) (by unfold Func.isWrapper; first | (rw [if_pos (by decide +kernel)]; kernel_rfl) | (rw [if_neg (by decide +kernel)]; exact ⟨rfl, rfl⟩))
    (fun os started H enc _ => lifted os started H enc)

/-- the statement -/
theorem proved : Rows.MemoryKeepsSaid := over
#print axioms proved
end Go.Proofs.Ytchljdcjlkfbfaa.memoryKeeps
