/-
  Package image: what read and Build return, and the document's Build.
-/
import Derived.Test.YtncbgfcmekaniaaImageD
namespace Go.Proofs.Ytncbgfcmekaniaa
open Go.ChangeShapes Go.WideShapes Go.ChangeAt Go.RowKit
set_option linter.unusedVariables false
set_option linter.unusedSimpArgs false

theorem at_lit (s : ByteArray) (k : Int) (j : Nat) (A : Int) (w : World) (hkj : (j : Int) = k) (hs : 64 ≤ s.size) (hk : j = 1 ∨ j = 2 ∨ j = 7 ∨ j = 8 ∨ j = 9 ∨ j = 10) (h : Hid (Im.at s j = A)) :
    Calls Try.prog 26 #[.string s, .int .i64 k] w fun e w' => e = .returned (.int .i64 A) ∧ w = w' := by
  have := at_any s j w hs hk
  rw [h.out, hkj] at this
  exact this
theorem rat_lit (s : ByteArray) (k : Int) (j : Nat) (A : Int) (w : World) (hkj : (j : Int) = k) (hs : 64 ≤ s.size) (hk : j = 1 ∨ j = 3 ∨ j = 7 ∨ j = 8 ∨ j = 9 ∨ j = 10) (h : Hid (Im.at s j = A)) :
    Calls Try.prog 18 #[.string s, .int .i64 k] w fun e w' => e = .returned (.int .i64 A) ∧ Below w.heap.size w w' := by
  have := rat_any s j w hs hk
  rw [h.out, hkj] at this
  exact this
theorem ret_hd {a b : Im.Hd} (h : a = b) : Ending.returned (.agg #[.int .i64 a.r, .int .i64 a.h, .int .i64 a.i, .int .i64 a.o, .int .i64 a.l, .int .i64 a.m]) = .returned (.agg #[.int .i64 b.r, .int .i64 b.h, .int .i64 b.i, .int .i64 b.o, .int .i64 b.l, .int .i64 b.m]) := by rw [h]
set_option maxHeartbeats 8000000 in
set_option maxRecDepth 100000 in
theorem read_any (s : ByteArray) (w : World) (hs : Hid (64 ≤ s.size)) :
    Calls Try.prog 17 #[.string s] w fun e w' => e = .returned (.agg #[.int .i64 (Im.read s 2).r, .int .i64 (Im.read s 2).h, .int .i64 (Im.read s 2).i, .int .i64 (Im.read s 2).o, .int .i64 (Im.read s 2).l, .int .i64 (Im.read s 2).m]) ∧ Below w.heap.size w w' := by
  obtain ⟨A1, h1⟩ : ∃ A, Im.at s 1 = A := ⟨_, rfl⟩
  obtain ⟨A2, h2⟩ : ∃ A, Im.at s 2 = A := ⟨_, rfl⟩
  obtain ⟨A7, h7⟩ : ∃ A, Im.at s 7 = A := ⟨_, rfl⟩
  obtain ⟨A8, h8⟩ : ∃ A, Im.at s 8 = A := ⟨_, rfl⟩
  obtain ⟨A9, h9⟩ : ∃ A, Im.at s 9 = A := ⟨_, rfl⟩
  obtain ⟨A10, h10⟩ : ∃ A, Im.at s 10 = A := ⟨_, rfl⟩
  have hE : Im.read s 2 = ⟨A1 - 1, A2 - 1, A7, A8, A9, A10⟩ := by unfold Im.read; rw [h1, h2, h7, h8, h9, h10]
  rw [hE]
  obtain ⟨b1, c1⟩ := Im.at_bd s 1
  obtain ⟨b2, c2⟩ := Im.at_bd s 2
  rw [h1] at b1 c1
  rw [h2] at b2 c2
  have H1 := Lib.hid h1
  have H2 := Lib.hid h2
  have H7 := Lib.hid h7
  have H8 := Lib.hid h8
  have H9 := Lib.hid h9
  have H10 := Lib.hid h10
  clear h1 h2 h7 h8 h9 h10 hE
  go_enter Try.func17, Try.ntmps17
  go_wp2_with (go_at_call 26; first
    | (with_reducible refine (at_lit s 1 1 A1 _ (by decide) hs.out (by decide) H1).mono ?_; rintro e w1 ⟨rfl, rfl⟩)
    | (with_reducible refine (at_lit s 2 2 A2 _ (by decide) hs.out (by decide) H2).mono ?_; rintro e w1 ⟨rfl, rfl⟩)
    | (with_reducible refine (at_lit s 7 7 A7 _ (by decide) hs.out (by decide) H7).mono ?_; rintro e w1 ⟨rfl, rfl⟩)
    | (with_reducible refine (at_lit s 8 8 A8 _ (by decide) hs.out (by decide) H8).mono ?_; rintro e w1 ⟨rfl, rfl⟩)
    | (with_reducible refine (at_lit s 9 9 A9 _ (by decide) hs.out (by decide) H9).mono ?_; rintro e w1 ⟨rfl, rfl⟩)
    | (with_reducible refine (at_lit s 10 10 A10 _ (by decide) hs.out (by decide) H10).mono ?_; rintro e w1 ⟨rfl, rfl⟩))
  exact bodyPost_ret (v := .agg #[.int .i64 (A1 - 1), .int .i64 (A2 - 1), .int .i64 A7, .int .i64 A8, .int .i64 A9, .int .i64 A10]) (by simp [results, Try.results17, go_sem]) rfl ⟨rfl, by go_grown⟩
theorem own_any (r h i o l m : Int) (w : World) :
    Calls Try.prog 8 #[.agg #[.int .i64 r, .int .i64 h, .int .i64 i, .int .i64 o, .int .i64 l, .int .i64 m]] w fun e w' => e = .returned (.agg #[.int .i64 r, .int .i64 h, .int .i64 i, .int .i64 o, .int .i64 l, .int .i64 m]) ∧ Below w.heap.size w w' := by
  go_enter Try.func8, Try.ntmps8
  go_wp2
  exact bodyPost_ret (v := .agg #[.int .i64 r, .int .i64 h, .int .i64 i, .int .i64 o, .int .i64 l, .int .i64 m]) (by simp [results, Try.results8, go_sem]) rfl ⟨rfl, by go_grown⟩
theorem icheck_lit (r h i o l m n E : Int) (w : World) (he : Hid (Im.err ⟨r, h, i, o, l, m⟩ n = E)) :
    Calls Try.prog 12 #[.agg #[.int .i64 r, .int .i64 h, .int .i64 i, .int .i64 o, .int .i64 l, .int .i64 m], .int .i64 n] w fun e w' => e = .returned (.int .i64 E) ∧ Below w.heap.size w w' := by
  have := icheck_any r h i o l m n w
  rw [he.out] at this
  exact this
theorem Im.bds {r h i o l m n : Int} (he : Im.err ⟨r, h, i, o, l, m⟩ n = 0) : (r ≤ 1000000 ∧ 0 ≤ r) ∧ (h ≤ 1000000 ∧ 0 ≤ h) := by
  obtain ⟨h0, m0, m1, hr, hh⟩ := Im.err_ok he
  have hb := Im.mm_ok h0
  unfold Im.start at hr hh
  rw [decide_eq_true_eq] at hr hh
  dsimp only at hr hh
  omega
theorem front_lit (r h i o l m : Int) (R : ByteArray) (w : World) (hb : Hid ((r ≤ 1000000 ∧ 0 ≤ r) ∧ (h ≤ 1000000 ∧ 0 ≤ h))) (hR : Hid (Im.F ⟨r, h, i, o, l, m⟩ = R)) :
    Calls Try.prog 13 #[.agg #[.int .i64 r, .int .i64 h, .int .i64 i, .int .i64 o, .int .i64 l, .int .i64 m]] w fun e w' => e = .returned (.string R) ∧ Below w.heap.size w w' := by
  have := front_any r h i o l m w hb
  rw [hR.out] at this
  exact this
theorem words_lit (r h i o l m : Int) (R : ByteArray) (w : World) (hb : Hid ((r ≤ 1000000 ∧ 0 ≤ r) ∧ (h ≤ 1000000 ∧ 0 ≤ h))) (hR : Hid (Im.F ⟨r, h, i, o, l, m⟩ = R)) :
    Calls Try.prog 16 #[.agg #[.int .i64 r, .int .i64 h, .int .i64 i, .int .i64 o, .int .i64 l, .int .i64 m]] w fun e w' => e = .returned (.string R) ∧ Below w.heap.size w w' := by
  have := words_any r h i o l m w hb.out
  rw [hR.out] at this
  exact this
set_option maxHeartbeats 8000000 in
set_option maxRecDepth 100000 in
theorem build_any (r h i o l m : Int) (c : ByteArray) (w : World) (hc : c.size ≤ 600000) :
    Calls Try.prog 7 #[.agg #[.int .i64 r, .int .i64 h, .int .i64 i, .int .i64 o, .int .i64 l, .int .i64 m], .string c] w fun e w' => e = .returned (.tuple #[.string (Im.build ⟨r, h, i, o, l, m⟩ c).1, .int .i64 (Im.build ⟨r, h, i, o, l, m⟩ c).2]) ∧ Below w.heap.size w w' := by
  obtain ⟨E, hE⟩ : ∃ E, Im.err ⟨r, h, i, o, l, m⟩ (64 + c.size : Nat) = E := ⟨_, rfl⟩
  have hcast : ((64 + c.size : Nat) : Int) = 64 + (c.size : Int) := by omega
  have HE : Hid (Im.err ⟨r, h, i, o, l, m⟩ (64 + (c.size : Int)) = E) := Lib.hid (by rw [← hcast]; exact hE)
  by_cases hz : E = 0
  · obtain ⟨R, hR⟩ : ∃ R, Im.F ⟨r, h, i, o, l, m⟩ = R := ⟨_, rfl⟩
    have hres : Im.build ⟨r, h, i, o, l, m⟩ c = (R ++ c, 0) := by unfold Im.build; rw [if_pos (by rw [hE]; exact hz), hR]
    have hsz : R.size = 64 := by rw [← hR]; exact Im.F_size _
    have hcat : ¬ 9223372036854775807 < R.size + c.size := by omega
    rw [hres]
    subst hz
    have HR := Lib.hid hR
    have HBD := Lib.hid (Im.bds HE.out)
    clear hres hE hcast hR hsz
    go_enter Try.func7, Try.ntmps7
    go_wp2_with (first
      | (go_at_call 12; refine (icheck_lit _ _ _ _ _ _ _ _ _ HE).mono ?_; rintro e w1 ⟨rfl, hb1⟩; have HC := Lib.hid ((Im.HdAt.new w r h i o l m 30).kept hb1); obtain ⟨c0, c1, c2, c3, c4, c5⟩ := HC.out; have HB := Lib.hid (((Below.refl w.heap.size w).alloc (Nat.le_refl _) _).trans (hb1.mono (by simp))); clear hb1)
      | (go_at_call 13; refine (front_lit _ _ _ _ _ _ _ _ HBD HR).mono ?_; rintro e w2 ⟨rfl, hb2⟩; have HB2 := Lib.hid (below_on HB.out hb2 HB.out.size); clear hb2))
    go_ret2
    exact ⟨rfl, HB2.out⟩
  · have hres : Im.build ⟨r, h, i, o, l, m⟩ c = (⟨#[]⟩, E) := by unfold Im.build; rw [hE, if_neg hz]
    rw [hres]
    clear hres hE hcast
    go_enter Try.func7, Try.ntmps7
    go_wp2_with (go_at_call 12; refine (icheck_lit _ _ _ _ _ _ _ _ _ HE).mono ?_; rintro e w1 ⟨rfl, hb1⟩; have HB := Lib.hid (((Below.refl w.heap.size w).alloc (Nat.le_refl _) _).trans (hb1.mono (by simp))); clear hb1)
    go_ret2
    exact ⟨rfl, HB.out⟩
theorem rcheck_lit (i o r f E : Int) (w : World) (wr : (Lit.int .i64 r).wf = true) (h : Hid (Mm.err i o r f = E)) :
    Calls Try.prog 14 #[.agg #[.int .i64 i, .int .i64 o, .int .i64 r], .int .i64 f] w fun e w' => e = .returned (.int .i64 E) ∧ Below w.heap.size w w' := by
  have := rcheck_any i o r f w wr
  rw [h.out] at this
  exact this
set_option maxHeartbeats 8000000 in
set_option maxRecDepth 100000 in
theorem rbuild_any (r h i o l m : Int) (c : ByteArray) (w : World) (hc : c.size ≤ 600000) (wl : Hid ((Lit.int .i64 l).wf = true)) :
    Calls Try.prog 9 #[.agg #[.int .i64 r, .int .i64 h, .int .i64 i, .int .i64 o, .int .i64 l, .int .i64 m], .string c] w fun e w' => e = .returned (.tuple #[.string (Im.build ⟨r, h, i, o, l, m⟩ c).1, .int .i64 (Im.build ⟨r, h, i, o, l, m⟩ c).2]) ∧ Below w.heap.size w w' := by
  have hcast : ((64 + c.size : Nat) : Int) = 64 + (c.size : Int) := by omega
  obtain ⟨n, hn⟩ : ∃ n, 64 + (c.size : Int) = n := ⟨_, rfl⟩
  obtain ⟨E, hE⟩ : ∃ E, Mm.err i o l n = E := ⟨_, rfl⟩
  have HM : Hid (Mm.err i o l (64 + (c.size : Int)) = E) := Lib.hid (by rw [hn]; exact hE)
  clear hE hn n
  by_cases hz : E = 0
  · subst hz
    by_cases hm0 : m < 0
    · have hres : Im.build ⟨r, h, i, o, l, m⟩ c = (⟨#[]⟩, 2) := by unfold Im.build; rw [hcast, Im.err_arg (x := ⟨r, h, i, o, l, m⟩) HM.out (fun g => by have := g.1; dsimp only at this; omega), if_neg (by decide)]
      rw [hres]
      clear hres hcast
      go_enter Try.func9, Try.ntmps9
      go_wp2_with (first | (go_at_call 14; refine (rcheck_lit _ _ _ _ _ _ wl.out HM).mono ?_; rintro e w1 ⟨rfl, hb1⟩; have HC := Lib.hid ((Im.HdAt.new w r h i o l m 25).kept hb1); obtain ⟨c0, c1, c2, c3, c4, c5⟩ := HC.out; have HB := Lib.hid (((Below.refl w.heap.size w).alloc (Nat.le_refl _) _).trans (hb1.mono (by simp))); clear hb1) | (go_at_call 15; refine (place_any _ _ _).mono ?_; rintro e w2 ⟨rfl, rfl⟩))
      go_ret2
      exact ⟨rfl, HB.out⟩
    · by_cases hm1 : 2 < m
      · have hres : Im.build ⟨r, h, i, o, l, m⟩ c = (⟨#[]⟩, 2) := by unfold Im.build; rw [hcast, Im.err_arg (x := ⟨r, h, i, o, l, m⟩) HM.out (fun g => by have := g.2.1; dsimp only at this; omega), if_neg (by decide)]
        rw [hres]
        clear hres hcast
        go_enter Try.func9, Try.ntmps9
        go_wp2_with (first | (go_at_call 14; refine (rcheck_lit _ _ _ _ _ _ wl.out HM).mono ?_; rintro e w1 ⟨rfl, hb1⟩; have HC := Lib.hid ((Im.HdAt.new w r h i o l m 25).kept hb1); obtain ⟨c0, c1, c2, c3, c4, c5⟩ := HC.out; have HB := Lib.hid (((Below.refl w.heap.size w).alloc (Nat.le_refl _) _).trans (hb1.mono (by simp))); clear hb1) | (go_at_call 15; refine (place_any _ _ _).mono ?_; rintro e w2 ⟨rfl, rfl⟩))
        go_ret2
        exact ⟨rfl, HB.out⟩
      · cases hs : Im.start r (64 + (c.size : Int)) with
        | false =>
          have hres : Im.build ⟨r, h, i, o, l, m⟩ c = (⟨#[]⟩, 2) := by unfold Im.build; rw [hcast, Im.err_arg (x := ⟨r, h, i, o, l, m⟩) HM.out (fun g => by have := g.2.2.1; dsimp only at this; rw [hs] at this; cases this), if_neg (by decide)]
          rw [hres]
          clear hres hcast
          go_enter Try.func9, Try.ntmps9
          go_wp2_with (first | (go_at_call 14; refine (rcheck_lit _ _ _ _ _ _ wl.out HM).mono ?_; rintro e w1 ⟨rfl, hb1⟩; have HC := Lib.hid ((Im.HdAt.new w r h i o l m 25).kept hb1); obtain ⟨c0, c1, c2, c3, c4, c5⟩ := HC.out; have HB := Lib.hid (((Below.refl w.heap.size w).alloc (Nat.le_refl _) _).trans (hb1.mono (by simp))); clear hb1) | (go_at_call 15; refine (place_any _ _ _).mono ?_; rintro e w2 ⟨rfl, rfl⟩))
          go_ret2
          exact ⟨rfl, HB.out⟩
        | true =>
          cases hh : Im.start h (64 + (c.size : Int)) with
          | false =>
            have hres : Im.build ⟨r, h, i, o, l, m⟩ c = (⟨#[]⟩, 2) := by unfold Im.build; rw [hcast, Im.err_arg (x := ⟨r, h, i, o, l, m⟩) HM.out (fun g => by have := g.2.2.2; dsimp only at this; rw [hh] at this; cases this), if_neg (by decide)]
            rw [hres]
            clear hres hcast
            go_enter Try.func9, Try.ntmps9
            go_wp2_with (first | (go_at_call 14; refine (rcheck_lit _ _ _ _ _ _ wl.out HM).mono ?_; rintro e w1 ⟨rfl, hb1⟩; have HC := Lib.hid ((Im.HdAt.new w r h i o l m 25).kept hb1); obtain ⟨c0, c1, c2, c3, c4, c5⟩ := HC.out; have HB := Lib.hid (((Below.refl w.heap.size w).alloc (Nat.le_refl _) _).trans (hb1.mono (by simp))); clear hb1) | (go_at_call 15; refine (place_any _ _ _).mono ?_; rintro e w2 ⟨rfl, rfl⟩))
            go_ret2
            exact ⟨rfl, HB.out⟩
          | true =>
            have hE := Im.err_good (x := ⟨r, h, i, o, l, m⟩) HM.out ⟨by dsimp only; omega, by dsimp only; omega, hs, hh⟩
            obtain ⟨R, hR⟩ : ∃ R, Im.F ⟨r, h, i, o, l, m⟩ = R := ⟨_, rfl⟩
            have hres : Im.build ⟨r, h, i, o, l, m⟩ c = (R ++ c, 0) := by unfold Im.build; rw [hcast, if_pos hE, hR]
            have hsz : R.size = 64 := by rw [← hR]; exact Im.F_size _
            have hcat : ¬ 9223372036854775807 < R.size + c.size := by omega
            rw [hres]
            have HR := Lib.hid hR
            have HBD := Lib.hid (Im.bds hE)
            clear hres hE hcast hR hsz
            go_enter Try.func9, Try.ntmps9
            go_wp2_with (first | (go_at_call 14; refine (rcheck_lit _ _ _ _ _ _ wl.out HM).mono ?_; rintro e w1 ⟨rfl, hb1⟩; have HC := Lib.hid ((Im.HdAt.new w r h i o l m 25).kept hb1); obtain ⟨c0, c1, c2, c3, c4, c5⟩ := HC.out; have HB := Lib.hid (((Below.refl w.heap.size w).alloc (Nat.le_refl _) _).trans (hb1.mono (by simp))); clear hb1) | (go_at_call 15; refine (place_any _ _ _).mono ?_; rintro e w2 ⟨rfl, rfl⟩) | (go_at_call 16; refine (words_lit _ _ _ _ _ _ _ _ HBD HR).mono ?_; rintro e w2 ⟨rfl, hb2⟩; have HB2 := Lib.hid (below_on HB.out hb2 HB.out.size); clear hb2))
            go_ret2
            exact ⟨rfl, HB2.out⟩
  · have hx := Im.err_bad (x := ⟨r, h, i, o, l, m⟩) (n := 64 + (c.size : Int)) (by rw [HM.out]; exact hz)
    have hx2 : Im.err ⟨r, h, i, o, l, m⟩ (64 + (c.size : Int)) = E := hx.trans HM.out
    have hres : Im.build ⟨r, h, i, o, l, m⟩ c = (⟨#[]⟩, E) := by unfold Im.build; rw [hcast, hx2, if_neg hz]
    rw [hres]
    clear hres hcast hx hx2
    go_enter Try.func9, Try.ntmps9
    go_wp2_with (first | (go_at_call 14; refine (rcheck_lit _ _ _ _ _ _ wl.out HM).mono ?_; rintro e w1 ⟨rfl, hb1⟩; have HC := Lib.hid ((Im.HdAt.new w r h i o l m 25).kept hb1); obtain ⟨c0, c1, c2, c3, c4, c5⟩ := HC.out; have HB := Lib.hid (((Below.refl w.heap.size w).alloc (Nat.le_refl _) _).trans (hb1.mono (by simp))); clear hb1) | (go_at_call 15; refine (place_any _ _ _).mono ?_; rintro e w2 ⟨rfl, rfl⟩))
    go_ret2
    exact ⟨rfl, HB.out⟩
end Go.Proofs.Ytncbgfcmekaniaa
