/-
  The document's side of layer 7: what its byteAt returns.
-/
import Derived.Test.YtchljdcjlkfbfaaMryG
namespace Go.Proofs.Ytchljdcjlkfbfaa
open Go.ChangeShapes Go.WideShapes Go.ChangeAt Go.RowKit
set_option linter.unusedVariables false

def stC (x : My.Step) : List Value := [.int .i64 x.kind, .int .i64 x.a, .int .i64 x.n, .int .i64 x.v]
theorem stC_len (x : My.Step) : (stC x).length = 4 := rfl
theorem sbox {w w1 : World} {t : TypeId} {k a n v : Int} (hb : Below (w.alloc (.cells #[.int .i64 k, .int .i64 a, .int .i64 n, .int .i64 v] t)).heap.size (w.alloc (.cells #[.int .i64 k, .int .i64 a, .int .i64 n, .int .i64 v] t)) w1) :
    w1.cell? ⟨w.heap.size, 0, none⟩ = some (.int .i64 k) ∧ w1.cell? ⟨w.heap.size, 1, none⟩ = some (.int .i64 a) ∧ w1.cell? ⟨w.heap.size, 2, none⟩ = some (.int .i64 n) ∧ w1.cell? ⟨w.heap.size, 3, none⟩ = some (.int .i64 v) := by
  refine ⟨?_, ?_, ?_, ?_⟩ <;> (rw [hb.cell (by simp)]; simp [go_sem])
abbrev SBox (W : World) (b : Nat) (k a n v : Int) : Prop := W.cell? ⟨b, 0, none⟩ = some (.int .i64 k) ∧ W.cell? ⟨b, 1, none⟩ = some (.int .i64 a) ∧ W.cell? ⟨b, 2, none⟩ = some (.int .i64 n) ∧ W.cell? ⟨b, 3, none⟩ = some (.int .i64 v)
theorem SBox.kept {W w' : World} {b : Nat} {k a n v : Int} (h : SBox W b k a n v) (hb : Below W.heap.size W w') : SBox w' b k a n v := by
  have hlt : b < W.heap.size := cell_lt h.1
  obtain ⟨h0, h1, h2, h3⟩ := h
  refine ⟨?_, ?_, ?_, ?_⟩ <;> (rw [hb.cell (by exact hlt)]; assumption)
theorem sb_step {W wx w' : World} {b : Nat} {k a n v : Int} (h : Below W.heap.size W wx ∧ SBox wx b k a n v) (hb : Below wx.heap.size wx w') : Below W.heap.size W w' ∧ SBox w' b k a n v :=
  ⟨h.1.trans (hb.mono h.1.size), h.2.kept hb⟩
/-- steps as a machine has them -/
def My.wfL (L : List My.Step) : Prop := ∀ x ∈ L, -9223372036854775808 ≤ x.a ∧ x.a ≤ 9223372036854775807
theorem My.does_k {s : My.St} {M : Int → UInt8} {x : My.Step} {b : Int} (h : x.kind = 0) : My.does s M x b = M b := by unfold My.does; rw [if_neg (fun g => g.1 h)]
theorem My.does_f {s : My.St} {M : Int → UInt8} {x : My.Step} {b : Int} (h : ¬ My.fe s x.a x.n true = 0) : My.does s M x b = M b := by unfold My.does; rw [if_neg (fun g => h g.2)]
theorem My.does_a {s : My.St} {M : Int → UInt8} {x : My.Step} {b : Int} (h : ¬ x.a ≤ b) : My.does s M x b = M b := by
  unfold My.does
  split
  · unfold My.put; rw [if_neg (fun g => h g.1)]
  · rfl
theorem My.does_n {s : My.St} (hg : My.good s) {M : Int → UInt8} {x : My.Step} {b : Int} (h0 : 0 ≤ b) (h1 : b ≤ 600000000) (h : ¬ wrap64 (b - x.a) < x.n) : My.does s M x b = M b := by
  by_cases hf : My.fe s x.a x.n true = 0
  · obtain ⟨k, o, m, hk, hF, ha, hn, h4, ho, -, hp, hq⟩ := My.found hg hf
    unfold My.does
    split
    · unfold My.put
      rw [if_neg]
      rintro ⟨g1, g2⟩
      apply h
      unfold wrap64
      omega
    · rfl
  · exact My.does_f hf
theorem My.does_y {s : My.St} (hg : My.good s) {M : Int → UInt8} {x : My.Step} {b : Int} (hk : ¬ x.kind = 0) (h0 : x.a ≤ b) (h1 : b ≤ 600000000) (h : wrap64 (b - x.a) < x.n) (hf : My.fe s x.a x.n true = 0) :
    ∃ j : Nat, j < 4 ∧ wrap64 (b - x.a) = (j : Nat) ∧ My.does s M x b = My.wb x.v j := by
  obtain ⟨k, o, m, hk7, hF, ha, hn, h4, ho, -, hp, hq⟩ := My.found hg hf
  have e : wrap64 (b - x.a) = b - x.a := by unfold wrap64; omega
  rw [e] at h ⊢
  refine ⟨(b - x.a).toNat, by omega, by omega, ?_⟩
  unfold My.does My.put
  rw [if_pos ⟨hk, hf⟩, if_pos (by omega)]
theorem My.wb_in (v : Int) (j : Nat) (h : j < 4) : (Wd.bytes v).data.toList[j]? = some (My.wb v j) := My.wb_get v j h
theorem byte64 (b : UInt8) : wrap64 (b.toNat : Int) = (b.toNat : Int) := by have := b.toNat_lt; unfold wrap64; omega
theorem My.first_fl {s : My.St} {a : Int} (h0 : 0 ≤ a) (h : a < (s.fl.size : Nat)) : s.fl.data.toList[a.toNat]? = some (My.first s a) := by
  unfold My.first
  rw [if_pos h, List.getD_eq_getElem?_getD, List.getElem?_eq_getElem (by rw [My.bl]; omega)]
  rfl
theorem My.first_in {s : My.St} {a : Int} (h : ¬ a < (s.fl.size : Nat)) (h1 : 536936448 ≤ a) (h2 : a < 536936448 + (s.inp.size : Nat)) : s.inp.data.toList[(a - 536936448).toNat]? = some (My.first s a) := by
  unfold My.first
  rw [if_neg h, if_pos ⟨h1, h2⟩, List.getD_eq_getElem?_getD, List.getElem?_eq_getElem (by rw [My.bl]; omega)]
  rfl
theorem My.first_no {s : My.St} {a : Int} (h : ¬ a < (s.fl.size : Nat)) (h1 : ¬ (536936448 ≤ a ∧ a < 536936448 + (s.inp.size : Nat))) : My.first s a = 0 := by
  unfold My.first
  rw [if_neg h, if_neg h1]
set_option maxHeartbeats 8000000 in
set_option maxRecDepth 100000 in
theorem rbyte_any (s : My.St) (p : Option Addr) (n c : Nat) (L : List My.Step) (a : Int) (w : World) (hn : Hid (L.length = n)) (hm : n ≤ 100) (hL : Hid (SliceC stC 4 w (.slice p n c) L)) (hW : Hid (My.wfL L)) (hg : Hid (My.good s)) (hr : Hid ((Lit.int .i64 s.r).wf = true)) (ha0 : 0 ≤ a) (ha1 : a ≤ 600000000) :
    Calls Try.prog 23 #[.agg #[.int .i64 s.i, .int .i64 s.o, .int .i64 s.r, .string s.fl, .string s.inp], .slice p n c, .int .i64 a] w fun e w' => e = .returned (.int .i64 ((My.after s L a).toNat : Int)) ∧ Below w.heap.size w w' := by
  obtain ⟨R, hR⟩ : ∃ R, My.after s L a = R := ⟨_, rfl⟩
  rw [hR]
  have HR := Lib.hid hR
  clear hR
  have S := Lib.hid (st_new w s.i s.o s.r s.fl s.inp 25)
  have F : Hid (∀ (A N : Int) (w : World), A ≤ 9223372036854775807 → Calls Try.prog 21 #[.agg #[.int .i64 s.i, .int .i64 s.o, .int .i64 s.r, .string s.fl, .string s.inp], .int .i64 A, .int .i64 N, .bool true] w fun e w' => e = .returned (.int .i64 (My.fe s A N true)) ∧ Below w.heap.size w w') := Lib.hid fun A N w hA => rfe_any s A N true w hg hr (Lib.hid hA)
  have I1 : Hid (a < (s.fl.size : Nat) → My.first s a = R → ∀ w : World, (Instr.index 9 (.string s.fl) (.int .i64 a)).run Try.prog w = .ok (.int .u8 R.toNat) w) := Lib.hid fun h e w => run_byte w _ s.fl a a.toNat R Try.underlying9 (by omega) (by rw [← e]; exact My.first_fl ha0 h)
  have I2 : Hid (¬ a < (s.fl.size : Nat) → 536936448 ≤ a → a < 536936448 + (s.inp.size : Nat) → My.first s a = R → ∀ w : World, (Instr.index 9 (.string s.inp) (.int .i64 (a - 536936448))).run Try.prog w = .ok (.int .u8 R.toNat) w) := Lib.hid fun h h1 h2 e w => run_byte w _ s.inp _ (a - 536936448).toNat R Try.underlying9 (by omega) (by rw [← e]; exact My.first_in h h1 h2)
  have I3 : Hid (¬ a < (s.fl.size : Nat) → ¬ (536936448 ≤ a ∧ a < 536936448 + (s.inp.size : Nat)) → My.first s a = R → R = 0) := Lib.hid fun h h1 e => by rw [← e]; exact My.first_no h h1
  have hz : s.inp.size ≤ 65536 := by have ok := My.okay hg.out; have h2 := hg.out.2; unfold Mm.okay at ok; omega
  generalize s.i = i at *
  generalize s.o = o at *
  generalize s.r = r at *
  generalize s.fl = fl at *
  generalize s.inp = inp at *
  have hbR := byte64 R
  go_enter Try.func23, Try.ntmps23
  go_wp2
  go_loopw [7] (fun K W => ∃ k : Nat, K = .int .i64 ((k : Int) - 1) ∧ k ≤ n ∧ Hid (My.after s (L.take k) a = R) ∧ Below w.heap.size w W ∧ StAt W w.heap.size i o r fl inp) (fun K _ => (intOf K + 1).toNat)
  case atStart => exact ⟨n, by simp, Nat.le_refl _, Lib.hid (by rw [← hn.out, List.take_length]; exact HR.out), (Below.refl _ _).alloc (Nat.le_refl _) _, S.out⟩
  case round =>
    obtain ⟨k, rfl, hkn, HK, hB, hS⟩ := hrel
    cases k with
    | zero =>
      obtain ⟨x0, x1, x2, x3, x4⟩ := hS
      have HK0 : Hid (My.first s a = R) := Lib.hid HK.out
      have hneg : ¬ (0 : Int) ≤ ((0 : Nat) : Int) - 1 := by omega
      rw [show ((0 : Nat) : Int) - 1 = -1 by omega]
      by_cases h1 : a < (fl.size : Nat)
      · have hi := I1.out h1 HK0.out
        clear HK
        go_wp2
        go_ret
        exact ⟨rfl, hB⟩
      · by_cases h2 : 536936448 ≤ a
        · have hw : wrap64 (536936448 + (inp.size : Int)) = 536936448 + (inp.size : Int) := by unfold wrap64; omega
          by_cases h3 : a < 536936448 + (inp.size : Nat)
          · have hi := I2.out (by omega) h2 h3 HK0.out
            have h2' : ¬ a < 536936448 := by omega
            clear HK
            go_wp2
            go_ret
            exact ⟨rfl, hB⟩
          · have hR0 := I3.out (by omega) (by omega) HK0.out
            subst hR0
            clear HK
            go_wp2
            go_ret
            exact ⟨rfl, hB⟩
        · have hR0 := I3.out (by omega) (by omega) HK0.out
          subst hR0
          clear HK
          go_wp2
          go_ret
          exact ⟨rfl, hB⟩
    | succ k =>
      have hkL : k < L.length := by rw [hn.out]; omega
      rw [show ((k + 1 : Nat) : Int) - 1 = (k : Int) by omega]
      have hk0 : (0 : Int) ≤ (k : Int) := by omega
      have hkn' : (k : Int) < (n : Int) := by omega
      have HK1 := Lib.hid (HK.out.symm.trans (congrFun (My.after_snoc s L k hkL) a))
      have hA := hW.out L[k] (List.getElem_mem hkL)
      have hL2 := hL.out
      obtain ⟨p', c', e', hat⟩ := hL2
      obtain ⟨ad, hpa, hOn0⟩ := hat k hkL
      injection e' with ep en ec
      rw [hpa] at ep
      subst ep
      have hOn := hOn0.kept hB
      have D1 : Hid (L[k].kind = 0 → My.after s (L.take k) a = R) := Lib.hid fun h => by rw [HK1.out]; exact (My.does_k h).symm
      have D2 : Hid (¬ L[k].a ≤ a → My.after s (L.take k) a = R) := Lib.hid fun h => by rw [HK1.out]; exact (My.does_a h).symm
      have D3 : Hid (¬ wrap64 (a - L[k].a) < L[k].n → My.after s (L.take k) a = R) := Lib.hid fun h => by rw [HK1.out]; exact (My.does_n hg.out ha0 ha1 h).symm
      have D4 : Hid (¬ My.fe s L[k].a L[k].n true = 0 → My.after s (L.take k) a = R) := Lib.hid fun h => by rw [HK1.out]; exact (My.does_f h).symm
      have D5 : Hid (¬ L[k].kind = 0 → L[k].a ≤ a → wrap64 (a - L[k].a) < L[k].n → My.fe s L[k].a L[k].n true = 0 → ∀ w : World, (Instr.index 9 (.string (Wd.bytes L[k].v)) (.int .i64 (wrap64 (a - L[k].a)))).run Try.prog w = .ok (.int .u8 R.toNat) w) := Lib.hid fun h1 h2 h3 h4 w => by
        obtain ⟨j, hj, e1, e2⟩ := My.does_y hg.out (M := My.after s (L.take k)) h1 h2 ha1 h3 h4
        exact run_byte w _ _ _ j R Try.underlying9 e1.symm (by rw [HK1.out, e2]; exact My.wb_get _ j hj)
      rcases hx : L[k] with ⟨kd, xa, xn, xv⟩
      rw [hx] at hOn hA D1 D2 D3 D4 D5
      simp only at hA D1 D2 D3 D4 D5
      have z0 : wr.cell? (ad.add (k * 4)) = some (.int .i64 kd) := by have h0 := hOn 0 _ rfl; rw [add_zero'] at h0; exact h0
      have z1 : wr.cell? ⟨(ad.add (k * 4)).block, (ad.add (k * 4)).off + 1, none⟩ = some (.int .i64 xa) := hOn 1 _ rfl
      have z2 : wr.cell? ⟨(ad.add (k * 4)).block, (ad.add (k * 4)).off + 2, none⟩ = some (.int .i64 xn) := hOn 2 _ rfl
      have z3 : wr.cell? ⟨(ad.add (k * 4)).block, (ad.add (k * 4)).off + 3, none⟩ = some (.int .i64 xv) := hOn 3 _ rfl
      have HA := Lib.hid hA.2
      have HB0 := Lib.hid hB
      have HS1 : Hid (StAt (wr.alloc (.cells #[.int .i64 kd, .int .i64 xa, .int .i64 xn, .int .i64 xv] 44)) w.heap.size i o r fl inp) := Lib.hid (hS.kept ((Below.refl _ _).alloc (Nat.le_refl _) _))
      have HB1 : Hid (Below w.heap.size w (wr.alloc (.cells #[.int .i64 kd, .int .i64 xa, .int .i64 xn, .int .i64 xv] 44))) := Lib.hid (hB.alloc hB.size _)
      obtain ⟨x0, x1, x2, x3, x4⟩ := HS1.out
      clear hOn hOn0 hat hpa ec en hx hA HK HK1 hS hB
      by_cases h1 : kd = 0
      · have HN := Lib.hid (D1.out h1)
        subst h1
        clear D1 D2 D3 D4 D5
        go_wp2
        exact ⟨⟨k, by simp, by omega, HN, HB1.out, HS1.out⟩, by first | (simp [intOf]; done) | (simp [intOf]; omega)⟩
      · have hb : (kd != 0) = true := by simpa using h1
        by_cases h2 : xa ≤ a
        · by_cases h3 : wrap64 (a - xa) < xn
          · obtain ⟨E, hE⟩ : ∃ E, My.fe s xa xn true = E := ⟨_, rfl⟩
            have FE : Hid (∀ w : World, Calls Try.prog 21 #[.agg #[.int .i64 i, .int .i64 o, .int .i64 r, .string fl, .string inp], .int .i64 xa, .int .i64 xn, .bool true] w fun e w' => e = .returned (.int .i64 E) ∧ Below w.heap.size w w') := Lib.hid fun w => by
              have h := F.out xa xn w HA.out
              rw [hE] at h
              exact h
            rw [hE] at D4 D5
            clear hE
            by_cases h4 : E = 0
            · have hi := D5.out h1 h2 h3 h4
              subst h4
              clear D1 D2 D3 D4 D5
              go_wp2_with (go_at_call 21; refine (FE.out _).mono ?_; rintro e w1 ⟨rfl, hb1⟩; have y := sbox hb1; obtain ⟨y0, y1, y2, y3⟩ := y; have HB := Lib.hid ((HB0.out.alloc HB0.out.size _).trans (hb1.mono (by have := HB0.out.size; simp; omega))); have HS := Lib.hid (HS1.out.kept hb1); clear hb1)
              have hSB : SBox w1 wr.heap.size kd xa xn xv := ⟨y0, y1, y2, y3⟩
              have hi2 : ∀ w : World, (Instr.index 9 (.string (Wd.bytes xv)) (.int .i64 (IntKind.i64.wrap (a - xa)))).run Try.prog w = .ok (.int .u8 R.toNat) w := fun w => by
                have e : IntKind.i64.wrap (a - xa) = wrap64 (a - xa) := by rw [IntKind.wrap_i64]; unfold wrap64; rfl
                rw [e]; exact hi w
              have hbR2 : IntKind.i64.wrap (R.toNat : Int) = (R.toNat : Int) := by have := R.toNat_lt; rw [IntKind.wrap_i64]; omega
              clear y0 y1 y2 y3 x0 x1 x2 x3 x4 z0 z1 z2 z3
              go_region_held3 (fun wx => Below w1.heap.size w1 wx ∧ SBox wx wr.heap.size kd xa xn xv)
                (first | assumption | exact ⟨(Below.refl _ _).drew, hSB⟩ | exact sb_step (by assumption) (by assumption))
                (first | (go_at_call 29; refine (rbytes_any _ _).mono ?_; rintro e w2 ⟨rfl, hb2⟩))
              all_goals
                rename_i hH
                go_wp2
                go_ret
                exact ⟨rfl, HB.out.trans (hH.1.mono HB.out.size)⟩
            · have HN := Lib.hid (D4.out h4)
              have hE : (E == 0) = false := by simpa using h4
              clear D1 D2 D3 D4 D5
              go_wp2_with (go_at_call 21; refine (FE.out _).mono ?_; rintro e w1 ⟨rfl, hb1⟩; have y := sbox hb1; obtain ⟨y0, y1, y2, y3⟩ := y; have HB := Lib.hid ((HB0.out.alloc HB0.out.size _).trans (hb1.mono (by have := HB0.out.size; simp; omega))); have HS := Lib.hid (HS1.out.kept hb1); clear hb1)
              exact ⟨⟨k, by simp, by omega, HN, HB.out, HS.out⟩, by first | (simp [intOf]; done) | (simp [intOf]; omega)⟩
          · have HN := Lib.hid (D3.out h3)
            clear D1 D2 D3 D4 D5
            go_wp2
            exact ⟨⟨k, by simp, by omega, HN, HB1.out, HS1.out⟩, by first | (simp [intOf]; done) | (simp [intOf]; omega)⟩
        · have HN := Lib.hid (D2.out h2)
          clear D1 D2 D3 D4 D5
          go_wp2
          exact ⟨⟨k, by simp, by omega, HN, HB1.out, HS1.out⟩, by first | (simp [intOf]; done) | (simp [intOf]; omega)⟩
end Go.Proofs.Ytchljdcjlkfbfaa
