/-
  Package image: what the document's Parse returns.
-/
import Derived.Test.YtncbgfcmekaniaaImageF
namespace Go.Proofs.Ytncbgfcmekaniaa
open Go.ChangeShapes Go.WideShapes Go.ChangeAt Go.RowKit
set_option linter.unusedVariables false
set_option linter.unusedSimpArgs false

theorem rbuild_lit (r h i o l m : Int) (c T : ByteArray) (E : Int) (w : World) (hc : c.size ≤ 600000) (wl : Hid ((Lit.int .i64 l).wf = true)) (hB : Hid (Im.build ⟨r, h, i, o, l, m⟩ c = (T, E))) :
    Calls Try.prog 9 #[.agg #[.int .i64 r, .int .i64 h, .int .i64 i, .int .i64 o, .int .i64 l, .int .i64 m], .string c] w fun e w' => e = .returned (.tuple #[.string T, .int .i64 E]) ∧ Below w.heap.size w w' := by
  have := rbuild_any r h i o l m c w hc wl
  rw [hB.out] at this
  exact this
set_option maxHeartbeats 8000000 in
set_option maxRecDepth 100000 in
theorem rparse_short (s : ByteArray) (w : World) (h : s.size < 64) :
    Calls Try.prog 11 #[.string s] w fun e w' => e = .returned (.tuple #[.agg #[.int .i64 0, .int .i64 0, .int .i64 0, .int .i64 0, .int .i64 0, .int .i64 0], .int .i64 3]) ∧ Below w.heap.size w w' := by
  have h' : (s.size : Int) < 64 := by omega
  go_enter Try.func11, Try.ntmps11
  go_wp2
  exact bodyPost_ret (v := .tuple #[.agg #[.int .i64 0, .int .i64 0, .int .i64 0, .int .i64 0, .int .i64 0, .int .i64 0], .int .i64 3]) (by simp [results, Try.results11, go_sem]) rfl ⟨rfl, by go_grown⟩
set_option maxHeartbeats 8000000 in
set_option maxRecDepth 100000 in
theorem rparse_bad (s c T : ByteArray) (A1 A2 A7 A8 A9 A10 E : Int) (w : World) (hs : Hid (64 ≤ s.size)) (hm : s.size ≤ 600000) (H1 : Hid (Im.at s 1 = A1)) (H3 : Hid (Im.at s 3 = A2)) (H7 : Hid (Im.at s 7 = A7)) (H8 : Hid (Im.at s 8 = A8)) (H9 : Hid (Im.at s 9 = A9)) (H10 : Hid (Im.at s 10 = A10)) (hc : Hid (s.extract 64 s.size = c)) (hcz : c.size ≤ 600000) (wl : Hid ((Lit.int .i64 A9).wf = true)) (b1 : 0 ≤ A1) (c1 : A1 ≤ 4294967295) (b2 : 0 ≤ A2) (c2 : A2 ≤ 4294967295) (hB : Hid (Im.build ⟨A1 - 1, A2 - 1, A7, A8, A9, A10⟩ c = (T, E))) (hz : ¬ E = 0) :
    Calls Try.prog 11 #[.string s] w fun e w' => e = .returned (.tuple #[.agg #[.int .i64 0, .int .i64 0, .int .i64 0, .int .i64 0, .int .i64 0, .int .i64 0], .int .i64 4]) ∧ Below w.heap.size w w' := by
  have h' : ¬ (s.size : Int) < 64 := by have := hs.out; omega
  have hsl : ∀ w : World, (Instr.slice 9 (.string s) (some (.int .i64 64)) none none).run Try.prog w = .ok (.string c) w := fun w => by rw [run_slice_string_l w 9 s Try.underlying9 .i64 64 (by decide) (by have := hs.out; omega)]; exact congrArg (fun t => Result.ok (Value.string t) w) hc.out
  have hz' : (E != 0) = true := by simpa using hz
  have HB := Lib.hid ((Below.refl w.heap.size w).alloc (Nat.le_refl _) (.cells #[.int .i64 0, .int .i64 0, .int .i64 0, .int .i64 0, .int .i64 0, .int .i64 0] 25))
  have HO := Lib.hid (Im.Open.new w 0 0 0 0 0 0 25)
  go_enter Try.func11, Try.ntmps11
  go_wp2_with (go_at_call 18; (first | (with_reducible refine (rat_lit s 1 1 A1 _ (by decide) hs.out (by decide) H1).mono ?_) | (with_reducible refine (rat_lit s 3 3 A2 _ (by decide) hs.out (by decide) H3).mono ?_) | (with_reducible refine (rat_lit s 7 7 A7 _ (by decide) hs.out (by decide) H7).mono ?_) | (with_reducible refine (rat_lit s 8 8 A8 _ (by decide) hs.out (by decide) H8).mono ?_) | (with_reducible refine (rat_lit s 9 9 A9 _ (by decide) hs.out (by decide) H9).mono ?_) | (with_reducible refine (rat_lit s 10 10 A10 _ (by decide) hs.out (by decide) H10).mono ?_)); rintro e w1 ⟨rfl, hb1⟩; replace HB := Lib.hid (below_on HB.out hb1 HB.out.size); replace HO := Lib.hid (HO.out.kept hb1); clear hb1)
  have HO1 := Lib.hid (HO.out.kept (W' := w1.alloc (.cells #[.int .i64 (A1 - 1), .int .i64 (A2 - 1), .int .i64 A7, .int .i64 A8, .int .i64 A9, .int .i64 A10] 25)) ((Below.refl _ _).alloc (Nat.le_refl _) _))
  have HB1 := Lib.hid (HB.out.alloc (w := w1) HB.out.size (.cells #[.int .i64 (A1 - 1), .int .i64 (A2 - 1), .int .i64 A7, .int .i64 A8, .int .i64 A9, .int .i64 A10] 25))
  have HH1 := Lib.hid (Im.HdAt.new w1 (A1 - 1) (A2 - 1) A7 A8 A9 A10 25)
  obtain ⟨b1, hbl1⟩ : ∃ b, w1.heap.size = b := ⟨_, rfl⟩
  rw [hbl1] at HH1 ⊢
  clear HB HO
  generalize w1.alloc (.cells #[.int .i64 (A1 - 1), .int .i64 (A2 - 1), .int .i64 A7, .int .i64 A8, .int .i64 A9, .int .i64 A10] 25) = w2 at HO1 HB1 HH1 ⊢
  clear hbl1
  refine wp_region_held_drew (S := fun wx => Below w2.heap.size w2 wx ∧ Im.HdAt wx b1 (A1 - 1) (A2 - 1) A7 A8 A9 A10) (by kernel_rfl) (⟨(Below.refl _ _).drew, HH1.out⟩) (fun hHeld => ?_)
  refine wpAnyH_take (i := 0) (v := ?_) rfl (by kernel_rfl) (by kernel_rfl) (by kernel_rfl) (fun _ _ _ h => h) (Or.inl ⟨by rfl, ?_⟩) (by assumption) ?_
  rotate_left
  · intro w hSw
    (try dsimp only at hSw)
    go_simp
    (try with_reducible rfl)
  (try simp only [Act.put, List.setIfInBounds_toArray, List.set_cons_zero, List.set_cons_succ])
  refine wpAnyH_take (i := 1) (v := ?_) rfl (by kernel_rfl) (by kernel_rfl) (by kernel_rfl) (fun _ _ _ h => h) (Or.inl ⟨by rfl, ?_⟩) (by assumption) ?_
  rotate_left
  · intro w hSw
    (try dsimp only at hSw)
    go_simp
    (try with_reducible rfl)
  (try simp only [Act.put, List.setIfInBounds_toArray, List.set_cons_zero, List.set_cons_succ])
  refine wpAnyH_take (i := 2) (v := ?_) rfl (by kernel_rfl) (by kernel_rfl) (by kernel_rfl) (fun _ _ _ h => h) (Or.inl ⟨by rfl, ?_⟩) (by assumption) ?_
  rotate_left
  · intro w hSw
    (try dsimp only at hSw)
    go_simp
    (try with_reducible rfl)
  (try simp only [Act.put, List.setIfInBounds_toArray, List.set_cons_zero, List.set_cons_succ])
  refine wpAnyH_ready (rs := [3]) (by kernel_rfl) (by simp) ?_
  refine AllReadyH.cons rfl (fun K hK => ?_) AllReadyH.nil
  go_simp
  go_at_call 9; refine (rbuild_lit _ _ _ _ _ _ _ _ _ _ hcz wl hB).mono ?_; rintro e w4 ⟨rfl, hb4⟩
  refine hK.out _ _ (hd_step (by assumption) (by assumption)) (fun hHeld => ?_)
  clear hK K
  (try simp only [Act.put, List.setIfInBounds_toArray, List.set_cons_zero, List.set_cons_succ])
  refine wpAnyH_take (i := 4) (v := ?_) rfl (by kernel_rfl) (by kernel_rfl) (by kernel_rfl) (fun _ _ _ h => h) (Or.inl ⟨by rfl, ?_⟩) (by assumption) ?_
  rotate_left
  · intro w hSw
    (try dsimp only at hSw)
    go_simp
    (try with_reducible rfl)
  (try simp only [Act.put, List.setIfInBounds_toArray, List.set_cons_zero, List.set_cons_succ])
  refine wpAnyH_take (i := 5) (v := ?_) rfl (by kernel_rfl) (by kernel_rfl) (by kernel_rfl) (fun _ _ _ h => h) (Or.inl ⟨by rfl, ?_⟩) (by assumption) ?_
  rotate_left
  · intro w hSw
    (try dsimp only at hSw)
    go_simp
    (try with_reducible rfl)
  (try simp only [Act.put, List.setIfInBounds_toArray, List.set_cons_zero, List.set_cons_succ])
  refine wpAnyH_take (i := 6) (v := ?_) rfl (by kernel_rfl) (by kernel_rfl) (by kernel_rfl) (fun _ _ _ h => h) (Or.inl ⟨by rfl, ?_⟩) (by assumption) ?_
  rotate_left
  · intro w hSw
    (try dsimp only at hSw)
    go_simp
    (try with_reducible rfl)
  (try simp only [Act.put, List.setIfInBounds_toArray, List.set_cons_zero, List.set_cons_succ])
  refine wpAnyH_take (i := 7) (v := ?_) rfl (by kernel_rfl) (by kernel_rfl) (by kernel_rfl) (fun _ _ _ h => h) (Or.inl ⟨by rfl, ?_⟩) (by assumption) ?_
  rotate_left
  · intro w hSw
    (try dsimp only at hSw)
    go_simp
    (try with_reducible rfl)
  (try simp only [Act.put, List.setIfInBounds_toArray, List.set_cons_zero, List.set_cons_succ])
  refine wpAnyH_take (i := 8) (v := ?_) rfl (by kernel_rfl) (by kernel_rfl) (by kernel_rfl) (fun _ _ _ h => h) (Or.inl ⟨by rfl, ?_⟩) (by assumption) ?_
  rotate_left
  · intro w hSw
    (try dsimp only at hSw)
    go_simp
    (try with_reducible rfl)
  (try simp only [Act.put, List.setIfInBounds_toArray, List.set_cons_zero, List.set_cons_succ])
  refine wpAnyH_done (by kernel_rfl) ?_ _
  have HO2 := Lib.hid (HO1.out.kept hHeld.1)
  have HB2 := Lib.hid (below_on HB1.out hHeld.1 HB1.out.size)
  have ho := HO2.out.2
  obtain ⟨⟨k0, k1, k2, k3, k4, k5⟩, -⟩ := HO2.out
  have HL := Lib.hid hHeld
  clear hHeld
  go_wp2
  exact bodyPost_ret (v := .tuple #[.agg #[.int .i64 0, .int .i64 0, .int .i64 0, .int .i64 0, .int .i64 0, .int .i64 0], .int .i64 4]) (by simp [results, Try.results11, go_sem, k0, k1, k2, k3, k4, k5]) rfl ⟨rfl, Im.below6 HB2.out _ (Nat.le_refl _) _ _ _ _ _ _⟩
set_option maxHeartbeats 8000000 in
set_option maxRecDepth 100000 in
theorem rparse_other (s c T : ByteArray) (A1 A2 A7 A8 A9 A10 : Int) (w : World) (hs : Hid (64 ≤ s.size)) (hm : s.size ≤ 600000) (H1 : Hid (Im.at s 1 = A1)) (H3 : Hid (Im.at s 3 = A2)) (H7 : Hid (Im.at s 7 = A7)) (H8 : Hid (Im.at s 8 = A8)) (H9 : Hid (Im.at s 9 = A9)) (H10 : Hid (Im.at s 10 = A10)) (hc : Hid (s.extract 64 s.size = c)) (hcz : c.size ≤ 600000) (wl : Hid ((Lit.int .i64 A9).wf = true)) (b1 : 0 ≤ A1) (c1 : A1 ≤ 4294967295) (b2 : 0 ≤ A2) (c2 : A2 ≤ 4294967295) (hB : Hid (Im.build ⟨A1 - 1, A2 - 1, A7, A8, A9, A10⟩ c = (T, 0))) (hne : (T.toList == s.toList) = false) :
    Calls Try.prog 11 #[.string s] w fun e w' => e = .returned (.tuple #[.agg #[.int .i64 0, .int .i64 0, .int .i64 0, .int .i64 0, .int .i64 0, .int .i64 0], .int .i64 4]) ∧ Below w.heap.size w w' := by
  have h' : ¬ (s.size : Int) < 64 := by have := hs.out; omega
  have hsl : ∀ w : World, (Instr.slice 9 (.string s) (some (.int .i64 64)) none none).run Try.prog w = .ok (.string c) w := fun w => by rw [run_slice_string_l w 9 s Try.underlying9 .i64 64 (by decide) (by have := hs.out; omega)]; exact congrArg (fun t => Result.ok (Value.string t) w) hc.out
  have HB := Lib.hid ((Below.refl w.heap.size w).alloc (Nat.le_refl _) (.cells #[.int .i64 0, .int .i64 0, .int .i64 0, .int .i64 0, .int .i64 0, .int .i64 0] 25))
  have HO := Lib.hid (Im.Open.new w 0 0 0 0 0 0 25)
  go_enter Try.func11, Try.ntmps11
  go_wp2_with (go_at_call 18; (first | (with_reducible refine (rat_lit s 1 1 A1 _ (by decide) hs.out (by decide) H1).mono ?_) | (with_reducible refine (rat_lit s 3 3 A2 _ (by decide) hs.out (by decide) H3).mono ?_) | (with_reducible refine (rat_lit s 7 7 A7 _ (by decide) hs.out (by decide) H7).mono ?_) | (with_reducible refine (rat_lit s 8 8 A8 _ (by decide) hs.out (by decide) H8).mono ?_) | (with_reducible refine (rat_lit s 9 9 A9 _ (by decide) hs.out (by decide) H9).mono ?_) | (with_reducible refine (rat_lit s 10 10 A10 _ (by decide) hs.out (by decide) H10).mono ?_)); rintro e w1 ⟨rfl, hb1⟩; replace HB := Lib.hid (below_on HB.out hb1 HB.out.size); replace HO := Lib.hid (HO.out.kept hb1); clear hb1)
  have HO1 := Lib.hid (HO.out.kept (W' := w1.alloc (.cells #[.int .i64 (A1 - 1), .int .i64 (A2 - 1), .int .i64 A7, .int .i64 A8, .int .i64 A9, .int .i64 A10] 25)) ((Below.refl _ _).alloc (Nat.le_refl _) _))
  have HB1 := Lib.hid (HB.out.alloc (w := w1) HB.out.size (.cells #[.int .i64 (A1 - 1), .int .i64 (A2 - 1), .int .i64 A7, .int .i64 A8, .int .i64 A9, .int .i64 A10] 25))
  have HH1 := Lib.hid (Im.HdAt.new w1 (A1 - 1) (A2 - 1) A7 A8 A9 A10 25)
  obtain ⟨b1, hbl1⟩ : ∃ b, w1.heap.size = b := ⟨_, rfl⟩
  rw [hbl1] at HH1 ⊢
  clear HB HO
  generalize w1.alloc (.cells #[.int .i64 (A1 - 1), .int .i64 (A2 - 1), .int .i64 A7, .int .i64 A8, .int .i64 A9, .int .i64 A10] 25) = w2 at HO1 HB1 HH1 ⊢
  clear hbl1
  refine wp_region_held_drew (S := fun wx => Below w2.heap.size w2 wx ∧ Im.HdAt wx b1 (A1 - 1) (A2 - 1) A7 A8 A9 A10) (by kernel_rfl) (⟨(Below.refl _ _).drew, HH1.out⟩) (fun hHeld => ?_)
  refine wpAnyH_take (i := 0) (v := ?_) rfl (by kernel_rfl) (by kernel_rfl) (by kernel_rfl) (fun _ _ _ h => h) (Or.inl ⟨by rfl, ?_⟩) (by assumption) ?_
  rotate_left
  · intro w hSw
    (try dsimp only at hSw)
    go_simp
    (try with_reducible rfl)
  (try simp only [Act.put, List.setIfInBounds_toArray, List.set_cons_zero, List.set_cons_succ])
  refine wpAnyH_take (i := 1) (v := ?_) rfl (by kernel_rfl) (by kernel_rfl) (by kernel_rfl) (fun _ _ _ h => h) (Or.inl ⟨by rfl, ?_⟩) (by assumption) ?_
  rotate_left
  · intro w hSw
    (try dsimp only at hSw)
    go_simp
    (try with_reducible rfl)
  (try simp only [Act.put, List.setIfInBounds_toArray, List.set_cons_zero, List.set_cons_succ])
  refine wpAnyH_take (i := 2) (v := ?_) rfl (by kernel_rfl) (by kernel_rfl) (by kernel_rfl) (fun _ _ _ h => h) (Or.inl ⟨by rfl, ?_⟩) (by assumption) ?_
  rotate_left
  · intro w hSw
    (try dsimp only at hSw)
    go_simp
    (try with_reducible rfl)
  (try simp only [Act.put, List.setIfInBounds_toArray, List.set_cons_zero, List.set_cons_succ])
  refine wpAnyH_ready (rs := [3]) (by kernel_rfl) (by simp) ?_
  refine AllReadyH.cons rfl (fun K hK => ?_) AllReadyH.nil
  go_simp
  go_at_call 9; refine (rbuild_lit _ _ _ _ _ _ _ _ _ _ hcz wl hB).mono ?_; rintro e w4 ⟨rfl, hb4⟩
  refine hK.out _ _ (hd_step (by assumption) (by assumption)) (fun hHeld => ?_)
  clear hK K
  (try simp only [Act.put, List.setIfInBounds_toArray, List.set_cons_zero, List.set_cons_succ])
  refine wpAnyH_take (i := 4) (v := ?_) rfl (by kernel_rfl) (by kernel_rfl) (by kernel_rfl) (fun _ _ _ h => h) (Or.inl ⟨by rfl, ?_⟩) (by assumption) ?_
  rotate_left
  · intro w hSw
    (try dsimp only at hSw)
    go_simp
    (try with_reducible rfl)
  (try simp only [Act.put, List.setIfInBounds_toArray, List.set_cons_zero, List.set_cons_succ])
  refine wpAnyH_take (i := 5) (v := ?_) rfl (by kernel_rfl) (by kernel_rfl) (by kernel_rfl) (fun _ _ _ h => h) (Or.inl ⟨by rfl, ?_⟩) (by assumption) ?_
  rotate_left
  · intro w hSw
    (try dsimp only at hSw)
    go_simp
    (try with_reducible rfl)
  (try simp only [Act.put, List.setIfInBounds_toArray, List.set_cons_zero, List.set_cons_succ])
  refine wpAnyH_take (i := 6) (v := ?_) rfl (by kernel_rfl) (by kernel_rfl) (by kernel_rfl) (fun _ _ _ h => h) (Or.inl ⟨by rfl, ?_⟩) (by assumption) ?_
  rotate_left
  · intro w hSw
    (try dsimp only at hSw)
    go_simp
    (try with_reducible rfl)
  (try simp only [Act.put, List.setIfInBounds_toArray, List.set_cons_zero, List.set_cons_succ])
  refine wpAnyH_take (i := 7) (v := ?_) rfl (by kernel_rfl) (by kernel_rfl) (by kernel_rfl) (fun _ _ _ h => h) (Or.inl ⟨by rfl, ?_⟩) (by assumption) ?_
  rotate_left
  · intro w hSw
    (try dsimp only at hSw)
    go_simp
    (try with_reducible rfl)
  (try simp only [Act.put, List.setIfInBounds_toArray, List.set_cons_zero, List.set_cons_succ])
  refine wpAnyH_take (i := 8) (v := ?_) rfl (by kernel_rfl) (by kernel_rfl) (by kernel_rfl) (fun _ _ _ h => h) (Or.inl ⟨by rfl, ?_⟩) (by assumption) ?_
  rotate_left
  · intro w hSw
    (try dsimp only at hSw)
    go_simp
    (try with_reducible rfl)
  (try simp only [Act.put, List.setIfInBounds_toArray, List.set_cons_zero, List.set_cons_succ])
  refine wpAnyH_done (by kernel_rfl) ?_ _
  have HO2 := Lib.hid (HO1.out.kept hHeld.1)
  have HB2 := Lib.hid (below_on HB1.out hHeld.1 HB1.out.size)
  have ho := HO2.out.2
  obtain ⟨⟨k0, k1, k2, k3, k4, k5⟩, -⟩ := HO2.out
  have HL := Lib.hid hHeld
  clear hHeld
  go_wp2
  exact bodyPost_ret (v := .tuple #[.agg #[.int .i64 0, .int .i64 0, .int .i64 0, .int .i64 0, .int .i64 0, .int .i64 0], .int .i64 4]) (by simp [results, Try.results11, go_sem, k0, k1, k2, k3, k4, k5]) rfl ⟨rfl, Im.below6 HB2.out _ (Nat.le_refl _) _ _ _ _ _ _⟩
set_option maxHeartbeats 8000000 in
set_option maxRecDepth 100000 in
theorem rparse_ok (s c T : ByteArray) (A1 A2 A7 A8 A9 A10 : Int) (w : World) (hs : Hid (64 ≤ s.size)) (hm : s.size ≤ 600000) (H1 : Hid (Im.at s 1 = A1)) (H3 : Hid (Im.at s 3 = A2)) (H7 : Hid (Im.at s 7 = A7)) (H8 : Hid (Im.at s 8 = A8)) (H9 : Hid (Im.at s 9 = A9)) (H10 : Hid (Im.at s 10 = A10)) (hc : Hid (s.extract 64 s.size = c)) (hcz : c.size ≤ 600000) (wl : Hid ((Lit.int .i64 A9).wf = true)) (b1 : 0 ≤ A1) (c1 : A1 ≤ 4294967295) (b2 : 0 ≤ A2) (c2 : A2 ≤ 4294967295) (hB : Hid (Im.build ⟨A1 - 1, A2 - 1, A7, A8, A9, A10⟩ c = (T, 0))) (hne : (T.toList == s.toList) = true) :
    Calls Try.prog 11 #[.string s] w fun e w' => e = .returned (.tuple #[.agg #[.int .i64 (A1 - 1), .int .i64 (A2 - 1), .int .i64 A7, .int .i64 A8, .int .i64 A9, .int .i64 A10], .int .i64 0]) ∧ Below w.heap.size w w' := by
  have h' : ¬ (s.size : Int) < 64 := by have := hs.out; omega
  have hsl : ∀ w : World, (Instr.slice 9 (.string s) (some (.int .i64 64)) none none).run Try.prog w = .ok (.string c) w := fun w => by rw [run_slice_string_l w 9 s Try.underlying9 .i64 64 (by decide) (by have := hs.out; omega)]; exact congrArg (fun t => Result.ok (Value.string t) w) hc.out
  have HB := Lib.hid ((Below.refl w.heap.size w).alloc (Nat.le_refl _) (.cells #[.int .i64 0, .int .i64 0, .int .i64 0, .int .i64 0, .int .i64 0, .int .i64 0] 25))
  have HO := Lib.hid (Im.Open.new w 0 0 0 0 0 0 25)
  go_enter Try.func11, Try.ntmps11
  go_wp2_with (go_at_call 18; (first | (with_reducible refine (rat_lit s 1 1 A1 _ (by decide) hs.out (by decide) H1).mono ?_) | (with_reducible refine (rat_lit s 3 3 A2 _ (by decide) hs.out (by decide) H3).mono ?_) | (with_reducible refine (rat_lit s 7 7 A7 _ (by decide) hs.out (by decide) H7).mono ?_) | (with_reducible refine (rat_lit s 8 8 A8 _ (by decide) hs.out (by decide) H8).mono ?_) | (with_reducible refine (rat_lit s 9 9 A9 _ (by decide) hs.out (by decide) H9).mono ?_) | (with_reducible refine (rat_lit s 10 10 A10 _ (by decide) hs.out (by decide) H10).mono ?_)); rintro e w1 ⟨rfl, hb1⟩; replace HB := Lib.hid (below_on HB.out hb1 HB.out.size); replace HO := Lib.hid (HO.out.kept hb1); clear hb1)
  have HO1 := Lib.hid (HO.out.kept (W' := w1.alloc (.cells #[.int .i64 (A1 - 1), .int .i64 (A2 - 1), .int .i64 A7, .int .i64 A8, .int .i64 A9, .int .i64 A10] 25)) ((Below.refl _ _).alloc (Nat.le_refl _) _))
  have HB1 := Lib.hid (HB.out.alloc (w := w1) HB.out.size (.cells #[.int .i64 (A1 - 1), .int .i64 (A2 - 1), .int .i64 A7, .int .i64 A8, .int .i64 A9, .int .i64 A10] 25))
  have HH1 := Lib.hid (Im.HdAt.new w1 (A1 - 1) (A2 - 1) A7 A8 A9 A10 25)
  obtain ⟨b1, hbl1⟩ : ∃ b, w1.heap.size = b := ⟨_, rfl⟩
  rw [hbl1] at HH1 ⊢
  clear HB HO
  generalize w1.alloc (.cells #[.int .i64 (A1 - 1), .int .i64 (A2 - 1), .int .i64 A7, .int .i64 A8, .int .i64 A9, .int .i64 A10] 25) = w2 at HO1 HB1 HH1 ⊢
  clear hbl1
  refine wp_region_held_drew (S := fun wx => Below w2.heap.size w2 wx ∧ Im.HdAt wx b1 (A1 - 1) (A2 - 1) A7 A8 A9 A10) (by kernel_rfl) (⟨(Below.refl _ _).drew, HH1.out⟩) (fun hHeld => ?_)
  refine wpAnyH_take (i := 0) (v := ?_) rfl (by kernel_rfl) (by kernel_rfl) (by kernel_rfl) (fun _ _ _ h => h) (Or.inl ⟨by rfl, ?_⟩) (by assumption) ?_
  rotate_left
  · intro w hSw
    (try dsimp only at hSw)
    go_simp
    (try with_reducible rfl)
  (try simp only [Act.put, List.setIfInBounds_toArray, List.set_cons_zero, List.set_cons_succ])
  refine wpAnyH_take (i := 1) (v := ?_) rfl (by kernel_rfl) (by kernel_rfl) (by kernel_rfl) (fun _ _ _ h => h) (Or.inl ⟨by rfl, ?_⟩) (by assumption) ?_
  rotate_left
  · intro w hSw
    (try dsimp only at hSw)
    go_simp
    (try with_reducible rfl)
  (try simp only [Act.put, List.setIfInBounds_toArray, List.set_cons_zero, List.set_cons_succ])
  refine wpAnyH_take (i := 2) (v := ?_) rfl (by kernel_rfl) (by kernel_rfl) (by kernel_rfl) (fun _ _ _ h => h) (Or.inl ⟨by rfl, ?_⟩) (by assumption) ?_
  rotate_left
  · intro w hSw
    (try dsimp only at hSw)
    go_simp
    (try with_reducible rfl)
  (try simp only [Act.put, List.setIfInBounds_toArray, List.set_cons_zero, List.set_cons_succ])
  refine wpAnyH_ready (rs := [3]) (by kernel_rfl) (by simp) ?_
  refine AllReadyH.cons rfl (fun K hK => ?_) AllReadyH.nil
  go_simp
  go_at_call 9; refine (rbuild_lit _ _ _ _ _ _ _ _ _ _ hcz wl hB).mono ?_; rintro e w4 ⟨rfl, hb4⟩
  refine hK.out _ _ (hd_step (by assumption) (by assumption)) (fun hHeld => ?_)
  clear hK K
  (try simp only [Act.put, List.setIfInBounds_toArray, List.set_cons_zero, List.set_cons_succ])
  refine wpAnyH_take (i := 4) (v := ?_) rfl (by kernel_rfl) (by kernel_rfl) (by kernel_rfl) (fun _ _ _ h => h) (Or.inl ⟨by rfl, ?_⟩) (by assumption) ?_
  rotate_left
  · intro w hSw
    (try dsimp only at hSw)
    go_simp
    (try with_reducible rfl)
  (try simp only [Act.put, List.setIfInBounds_toArray, List.set_cons_zero, List.set_cons_succ])
  refine wpAnyH_take (i := 5) (v := ?_) rfl (by kernel_rfl) (by kernel_rfl) (by kernel_rfl) (fun _ _ _ h => h) (Or.inl ⟨by rfl, ?_⟩) (by assumption) ?_
  rotate_left
  · intro w hSw
    (try dsimp only at hSw)
    go_simp
    (try with_reducible rfl)
  (try simp only [Act.put, List.setIfInBounds_toArray, List.set_cons_zero, List.set_cons_succ])
  refine wpAnyH_take (i := 6) (v := ?_) rfl (by kernel_rfl) (by kernel_rfl) (by kernel_rfl) (fun _ _ _ h => h) (Or.inl ⟨by rfl, ?_⟩) (by assumption) ?_
  rotate_left
  · intro w hSw
    (try dsimp only at hSw)
    go_simp
    (try with_reducible rfl)
  (try simp only [Act.put, List.setIfInBounds_toArray, List.set_cons_zero, List.set_cons_succ])
  refine wpAnyH_take (i := 7) (v := ?_) rfl (by kernel_rfl) (by kernel_rfl) (by kernel_rfl) (fun _ _ _ h => h) (Or.inl ⟨by rfl, ?_⟩) (by assumption) ?_
  rotate_left
  · intro w hSw
    (try dsimp only at hSw)
    go_simp
    (try with_reducible rfl)
  (try simp only [Act.put, List.setIfInBounds_toArray, List.set_cons_zero, List.set_cons_succ])
  refine wpAnyH_take (i := 8) (v := ?_) rfl (by kernel_rfl) (by kernel_rfl) (by kernel_rfl) (fun _ _ _ h => h) (Or.inl ⟨by rfl, ?_⟩) (by assumption) ?_
  rotate_left
  · intro w hSw
    (try dsimp only at hSw)
    go_simp
    (try with_reducible rfl)
  (try simp only [Act.put, List.setIfInBounds_toArray, List.set_cons_zero, List.set_cons_succ])
  refine wpAnyH_done (by kernel_rfl) ?_ _
  have HO2 := Lib.hid (HO1.out.kept hHeld.1)
  have HB2 := Lib.hid (below_on HB1.out hHeld.1 HB1.out.size)
  have ho := HO2.out.2
  obtain ⟨⟨k0, k1, k2, k3, k4, k5⟩, -⟩ := HO2.out
  obtain ⟨d0, d1, d2, d3, d4, d5⟩ := hHeld.2
  have HL := Lib.hid hHeld
  clear hHeld
  go_wp2
  exact bodyPost_ret (v := .tuple #[.agg #[.int .i64 (A1 - 1), .int .i64 (A2 - 1), .int .i64 A7, .int .i64 A8, .int .i64 A9, .int .i64 A10], .int .i64 0]) (by simp [results, Try.results11, go_sem, k0, k1, k2, k3, k4, k5]) rfl ⟨rfl, Im.below6 HB2.out _ (Nat.le_refl _) _ _ _ _ _ _⟩
theorem Im.wf_at (s : ByteArray) (k : Nat) : (Lit.int .i64 (Im.at s k)).wf = true := by
  obtain ⟨h0, h1⟩ := Im.at_bd s k
  simp [Lit.wf, IntKind.min, IntKind.max, IntKind.signed, IntKind.bits]
  omega
theorem rparse_any (s : ByteArray) (w : World) (hm : s.size ≤ 600000) :
    Calls Try.prog 11 #[.string s] w fun e w' => e = .returned (.tuple #[.agg #[.int .i64 (Im.parse s).1.r, .int .i64 (Im.parse s).1.h, .int .i64 (Im.parse s).1.i, .int .i64 (Im.parse s).1.o, .int .i64 (Im.parse s).1.l, .int .i64 (Im.parse s).1.m], .int .i64 (Im.parse s).2]) ∧ Below w.heap.size w w' := by
  rw [Im.parse_3]
  by_cases h0 : s.size < 64
  · rw [if_pos h0]
    exact rparse_short s w h0
  · rw [if_neg h0]
    have hs : Hid (64 ≤ s.size) := Lib.hid (by omega)
    have hcz : (s.extract 64 s.size).size ≤ 600000 := by rw [ByteArray.size_extract]; omega
    have hz : 64 + (s.extract 64 s.size).size = s.size := by rw [ByteArray.size_extract]; omega
    have hx : Im.read s 3 = ⟨Im.at s 1 - 1, Im.at s 3 - 1, Im.at s 7, Im.at s 8, Im.at s 9, Im.at s 10⟩ := rfl
    by_cases he : Im.err (Im.read s 3) (s.size : Int) = 0
    · have hb : Im.build (Im.read s 3) (s.extract 64 s.size) = (Im.F (Im.read s 3) ++ s.extract 64 s.size, 0) := by unfold Im.build; rw [hz, if_pos he]
      by_cases hF : Im.F (Im.read s 3) = s.extract 0 64
      · rw [if_pos (by exact ⟨he, hF⟩)]
        exact rparse_ok s _ _ _ _ _ _ _ _ w hs hm (Lib.hid rfl) (Lib.hid rfl) (Lib.hid rfl) (Lib.hid rfl) (Lib.hid rfl) (Lib.hid rfl) (Lib.hid rfl) hcz (Lib.hid (Im.wf_at s 9)) (Im.at_bd s 1).1 (Im.at_bd s 1).2 (Im.at_bd s 3).1 (Im.at_bd s 3).2 (Lib.hid hb) (by rw [Im.str_eq, decide_eq_true ((Im.F_whole hs.out _).2 hF)])
      · rw [if_neg (by exact fun g => hF g.2)]
        exact rparse_other s _ _ _ _ _ _ _ _ w hs hm (Lib.hid rfl) (Lib.hid rfl) (Lib.hid rfl) (Lib.hid rfl) (Lib.hid rfl) (Lib.hid rfl) (Lib.hid rfl) hcz (Lib.hid (Im.wf_at s 9)) (Im.at_bd s 1).1 (Im.at_bd s 1).2 (Im.at_bd s 3).1 (Im.at_bd s 3).2 (Lib.hid hb) (by rw [Im.str_eq, decide_eq_false (fun g => hF ((Im.F_whole hs.out _).1 g))])
    · have hb : Im.build (Im.read s 3) (s.extract 64 s.size) = (⟨#[]⟩, Im.err (Im.read s 3) (s.size : Int)) := by unfold Im.build; rw [hz, if_neg he]
      rw [if_neg (by exact fun g => he g.1)]
      exact rparse_bad s _ _ _ _ _ _ _ _ _ w hs hm (Lib.hid rfl) (Lib.hid rfl) (Lib.hid rfl) (Lib.hid rfl) (Lib.hid rfl) (Lib.hid rfl) (Lib.hid rfl) hcz (Lib.hid (Im.wf_at s 9)) (Im.at_bd s 1).1 (Im.at_bd s 1).2 (Im.at_bd s 3).1 (Im.at_bd s 3).2 (Lib.hid hb) he
end Go.Proofs.Ytncbgfcmekaniaa
