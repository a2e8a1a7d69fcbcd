/-
  Stage 7's play: the program's answers to a script, and the memory behind it.
-/
import Derived.Test.YtchljdcjlkfbfaaMryE
import Derived.Test.YtchljdcjlkfbfaaMryJ
namespace Go.Proofs.Ytchljdcjlkfbfaa
open Go.ChangeShapes Go.WideShapes Go.ChangeAt Go.RowKit
set_option linter.unusedVariables false
set_option linter.unusedSimpArgs false

theorem MemAt.keptB {w W W' : World} {l : My.Loc} {s : My.St} {M0 M : Int → UInt8} (h0 : MemAt w l s M0) (h : MemAt W l s M) (hb : Below w.heap.size W W') : MemAt W' l s M := by
  refine ⟨by rw [hb.cell (cell_lt h0.f0)]; exact h.f0, by rw [hb.cell (cell_lt h0.f1)]; exact h.f1, ?_, fun k hk => by rw [hb.cell (cell_lt (h0.row k hk))]; exact h.row k hk, fun k hk => ?_, h.np, h.ne⟩
  · refine ⟨some l.ra, l.rc, rfl, fun j hj => ⟨l.ra, rfl, fun i u hu => ?_⟩⟩
    rw [hb.cell (by rw [add_block, add_block]; exact cell_slice_block h0.regs)]
    exact h.reg j hj i u hu
  · unfold RowAt
    rw [hb.block _ (h0.bytes k hk).lt]
    exact h.bytes k hk
theorem Rest.stepB {X : Nat → Prop} {w W W' : World} (h : Rest X w W) (hb : Below w.heap.size W W') : Rest X w W' :=
  ⟨hb.os.trans h.os, hb.tape.trans h.tape, hb.output.trans h.output, Nat.le_trans h.size hb.size, fun k hk hx => (hb.block k hk).trans (h.block k hk hx)⟩
theorem own_rest {X : Nat → Prop} {W W' : World} {base : Nat} {e : TypeId} {size : Nat} {v : Value} {n : Nat} {xs : List Value} (h : W.ownsRow base e size v n xs) (hr : Rest X W W') (hx : ∀ b, X b → b < base) : W'.ownsRow base e size v n xs := by
  obtain ⟨h1, h2⟩ := h
  refine ⟨h1, ?_⟩
  rcases h2 with h2 | ⟨g, cap, cur, hv, hg, hh, r⟩
  · exact Or.inl h2
  · exact Or.inr ⟨g, cap, cur, hv, hg, by rw [hr.block g (Array.getElem?_eq_some_iff.1 hh).1 (fun x => by have := hx g x; omega)]; exact hh, r⟩
theorem Rest.drew {X : Nat → Prop} {w W : World} (h : Rest X w W) : Rest X w W.drew := h.trans (Rest.of (Below.refl _ _).drew)
theorem pl_step {W wx w' : World} {ad : Addr} {k a n v : Int} (h : Below W.heap.size W wx ∧ SAt wx ad k a n v) (hb : Below wx.heap.size wx w') : Below W.heap.size W w' ∧ SAt w' ad k a n v :=
  ⟨h.1.trans (hb.mono h.1.size), h.2.kept hb⟩
theorem My.does_0 {s : My.St} {M : Int → UInt8} {x : My.Step} (h : x.kind = 0) : My.does s M x = M := by unfold My.does; rw [if_neg (fun g => g.1 h)]
theorem My.does_1 {s : My.St} {M : Int → UInt8} {x : My.Step} (h : ¬ x.kind = 0) : My.does s M x = if My.fe s x.a x.n true = 0 then My.put M x.a x.n x.v else M := by
  unfold My.does
  by_cases h2 : My.fe s x.a x.n true = 0
  · rw [if_pos ⟨h, h2⟩, if_pos h2]
  · rw [if_neg (fun g => h2 g.2), if_neg h2]
set_option maxHeartbeats 8000000 in
set_option maxRecDepth 100000 in
theorem play_any (l : My.Loc) (s : My.St) (p : Option Addr) (n c : Nat) (L : List My.Step) (w : World) (hn : Hid (L.length = n)) (hm : n ≤ 100) (hL : Hid (∀ w', Rest l.own w w' → SliceC stC 4 w' (.slice p n c) L)) (hW : Hid (My.wfL L)) (hg : Hid (My.good s)) (hM : Hid (MemAt w l s (My.first s))) :
    Calls Try.prog 10 #[.pointer (some ⟨l.p, 0, none⟩), .slice p n c] w fun e w' => ∃ v, e = .returned v ∧ SliceC ansC 2 w' v (My.answers s L n) ∧ MemAt w' l s (My.after s L) ∧ Rest l.own w w' := by
  obtain ⟨i0, hi, hz0, hz1, hz2⟩ := info_ans
  go_enter Try.func10, Try.ntmps10
  go_wp2
  go_loopw [5, 6] (fun O K W => ∃ k : Nat, K = .int .i64 (k : Int) ∧ k ≤ n ∧ W.ownsRow w.heap.size 37 2 O k ((My.answers s L k).flatMap ansC) ∧ MemAt W l s (My.after s (L.take k)) ∧ Rest l.own w W) (fun _ K _ => n - (intOf K).toNat)
  case atStart => exact ⟨0, rfl, Nat.zero_le _, World.ownsRow_nil _ _ _ _, hM.out, Rest.refl _ _⟩
  case round =>
    obtain ⟨k, rfl, hkn, hrow, hma, hre⟩ := hrel
    have HMA := Lib.hid hma
    have HRE := Lib.hid hre
    have HR := Lib.hid hrow
    clear hma hre hrow
    by_cases hlt : k < n
    · have hkL : k < L.length := by rw [hn.out]; exact hlt
      have hlt' : (k : Int) < (n : Int) := by omega
      have hk0 : (0 : Int) ≤ (k : Int) := by omega
      obtain ⟨ad, rfl⟩ : ∃ ad, p = some ad := by
        obtain ⟨p', c', e', hat⟩ := hL.out w (Rest.refl _ _)
        obtain ⟨a2, hpa, hOn⟩ := hat k hkL
        injection e' with ep en ec
        exact ⟨a2, ep.trans hpa⟩
      have hA := hW.out L[k] (List.getElem_mem hkL)
      have HSF := Lib.hid (fun (w' : World) (hb : Rest l.own w w') => steps_at (hL.out w' hb) k hkL)
      have HN : Hid (My.answers s L (k + 1) = My.answers s L k ++ [My.ansAt s L k]) := Lib.hid (My.answers_snoc s L k)
      have H0 := fun h => My.ansAt_0 (s := s) hkL h
      have H1 := fun h => My.ansAt_1 (s := s) hkL h
      have HAF : Hid (My.after s (L.take (k + 1)) = My.does s (My.after s (L.take k)) L[k]) := Lib.hid (My.after_snoc s L k hkL)
      generalize My.ansAt s L k = an at *
      generalize My.after s (L.take k) = M at *
      rcases hx : L[k] with ⟨kd, xa, xn, xv⟩
      rw [hx] at hA HSF H0 H1 HAF
      dsimp only at hA HSF H0 H1
      have HA := Lib.hid hA.2
      have HH0 := Lib.hid H0
      have HH1 := Lib.hid H1
      have HSA := Lib.hid (HSF.out wr HRE.out)
      have hSA := HSA.out
      obtain ⟨z0, z1, z2, z3⟩ := hSA
      clear H0 H1 hA hx
      by_cases hkd : kd = 0
      · have HX := Lib.hid (HH0.out hkd)
        have HD := Lib.hid (HAF.out.trans (My.does_0 hkd))
        subst hkd
        have HC := Lib.hid (fun (w' : World) (hb : MemAt w' l s M) => load_any l s M xa xn w' hb hg.out HA.out)
        rw [← HX.out] at HC
        obtain ⟨v1, e1⟩ := an
        dsimp only at HC
        clear HH0 HH1 HX HAF
        go_wp2
        have hH0 : Below wr.heap.size wr wr.drew ∧ SAt wr.drew (ad.add (k * 4)) 0 xa xn xv := ⟨(Below.refl _ _).drew, HSA.out⟩
        clear z0 z1 z2 z3
        go_region_held3 (fun wx => Below wr.heap.size wr wx ∧ SAt wx (ad.add (k * 4)) 0 xa xn xv)
          (first | assumption | exact pl_step (by assumption) (by assumption))
          (first | (go_at_call 15; refine (HC.out _ (HMA.out.kept (Below.refl _ _).drew)).mono ?_; rintro e w4 ⟨rfl, hb4⟩))
        all_goals
          rename_i hH
          have HB4 := Lib.hid hH.1
          have HR4 := Lib.hid (HR.out.kept (row := none) (grown_below hH.1) (Classical.em _))
          have HZ4 : Hid (w.heap.size ≤ w4.heap.size) := Lib.hid (Nat.le_trans HRE.out.size hH.1.size)
          clear hb4 hH
          go_wp2_with (at_builtin; refine wpList_append_own _ rfl _ _ 33 rfl w.heap.size 37 i0 (.agg #[.int .i64 0, .int .i64 0]) 2 16 Try.underlying33 hi hz0 hz1 hz2 rfl (by decide) _ _ _ rfl (HR4.out.alloc _) ⟨w4.heap.size, 0, none⟩ 1 1 [.int .i64 v1, .int .i64 e1] rfl rfl (cell2_new _ _ _ _) (by simp [Value.oneCell']) (by unfold maxLen; omega) (by omega) (by have := HZ4.out; simp; omega) ?_; intro v' w5 hown' hgrow5 hnil5; have HO5 := Lib.hid hown'; have HB5 := Lib.hid (((HB4.out.mono HRE.out.size).alloc HZ4.out _).grown hgrow5 (by have := HZ4.out; simp; omega) (own_ge HR4.out)); clear hown' hgrow5 hnil5)
          exact ⟨⟨k + 1, by simp, by omega, by rw [HN.out, List.flatMap_append]; exact HO5.out, by rw [HD.out]; exact hM.out.keptB HMA.out HB5.out, HRE.out.stepB HB5.out⟩, by simp [intOf]; omega⟩
      · have HX := Lib.hid (HH1.out hkd)
        have HD := Lib.hid (HAF.out.trans (My.does_1 hkd))
        dsimp only at HD
        have hkb : (kd == 0) = false := by simpa using hkd
        have HC := Lib.hid (fun (w' : World) (hb : MemAt w' l s M) => store_any l s M xa xn xv w' hb hg.out HA.out)
        rw [← HD.out] at HC
        generalize My.fe s xa xn true = e1 at *
        rw [HX.out] at HN
        clear HH0 HH1 HX HAF HD
        go_wp2
        clear z0 z1 z2 z3
        refine wp_region_held_drew (S := fun wx => SAt wx (ad.add (k * 4)) kd xa xn xv) (by kernel_rfl) (HSA.out) (fun hHeld => ?_)
        refine wpAnyH_take (i := 0) (v := ?_) rfl (by kernel_rfl) (by kernel_rfl) (by kernel_rfl) (fun _ _ _ h => h) (Or.inl ⟨by rfl, ?_⟩) (by assumption) ?_
        rotate_left
        · intro w hSw
          (try dsimp only at hSw)
          go_simp
          (try with_reducible rfl)
        (try simp only [Act.put, List.setIfInBounds_toArray, List.set_cons_zero, List.set_cons_succ])
        refine wpAnyH_take (i := 1) (v := ?_) rfl (by kernel_rfl) (by kernel_rfl) (by kernel_rfl) (fun _ _ _ h => h) (Or.inl ⟨by rfl, ?_⟩) (by assumption) ?_
        rotate_left
        · intro w hSw
          (try dsimp only at hSw)
          go_simp
          (try with_reducible rfl)
        (try simp only [Act.put, List.setIfInBounds_toArray, List.set_cons_zero, List.set_cons_succ])
        refine wpAnyH_take (i := 2) (v := ?_) rfl (by kernel_rfl) (by kernel_rfl) (by kernel_rfl) (fun _ _ _ h => h) (Or.inl ⟨by rfl, ?_⟩) (by assumption) ?_
        rotate_left
        · intro w hSw
          (try dsimp only at hSw)
          go_simp
          (try with_reducible rfl)
        (try simp only [Act.put, List.setIfInBounds_toArray, List.set_cons_zero, List.set_cons_succ])
        refine wpAnyH_take (i := 3) (v := ?_) rfl (by kernel_rfl) (by kernel_rfl) (by kernel_rfl) (fun _ _ _ h => h) (Or.inl ⟨by rfl, ?_⟩) (by assumption) ?_
        rotate_left
        · intro w hSw
          (try dsimp only at hSw)
          go_simp
          (try with_reducible rfl)
        (try simp only [Act.put, List.setIfInBounds_toArray, List.set_cons_zero, List.set_cons_succ])
        refine wpAnyH_take (i := 4) (v := ?_) rfl (by kernel_rfl) (by kernel_rfl) (by kernel_rfl) (fun _ _ _ h => h) (Or.inl ⟨by rfl, ?_⟩) (by assumption) ?_
        rotate_left
        · intro w hSw
          (try dsimp only at hSw)
          go_simp
          (try with_reducible rfl)
        (try simp only [Act.put, List.setIfInBounds_toArray, List.set_cons_zero, List.set_cons_succ])
        refine wpAnyH_take (i := 5) (v := ?_) rfl (by kernel_rfl) (by kernel_rfl) (by kernel_rfl) (fun _ _ _ h => h) (Or.inl ⟨by rfl, ?_⟩) (by assumption) ?_
        rotate_left
        · intro w hSw
          (try dsimp only at hSw)
          go_simp
          (try with_reducible rfl)
        (try simp only [Act.put, List.setIfInBounds_toArray, List.set_cons_zero, List.set_cons_succ])
        refine wpAnyH_take (i := 6) (v := ?_) rfl (by kernel_rfl) (by kernel_rfl) (by kernel_rfl) (fun _ _ _ h => h) (Or.inl ⟨by rfl, ?_⟩) (by assumption) ?_
        rotate_left
        · intro w hSw
          (try dsimp only at hSw)
          go_simp
          (try with_reducible rfl)
        (try simp only [Act.put, List.setIfInBounds_toArray, List.set_cons_zero, List.set_cons_succ])
        refine wpAnyH_take (i := 7) (v := ?_) rfl (by kernel_rfl) (by kernel_rfl) (by kernel_rfl) (fun _ _ _ h => h) (Or.inl ⟨by rfl, ?_⟩) (by assumption) ?_
        rotate_left
        · intro w hSw
          (try dsimp only at hSw)
          go_simp
          (try with_reducible rfl)
        (try simp only [Act.put, List.setIfInBounds_toArray, List.set_cons_zero, List.set_cons_succ])
        refine wpAnyH_take (i := 8) (v := ?_) rfl (by kernel_rfl) (by kernel_rfl) (by kernel_rfl) (fun _ _ _ h => h) (Or.inl ⟨by rfl, ?_⟩) (by assumption) ?_
        rotate_left
        · intro w hSw
          (try dsimp only at hSw)
          go_simp
          (try with_reducible rfl)
        (try simp only [Act.put, List.setIfInBounds_toArray, List.set_cons_zero, List.set_cons_succ])
        refine wpAnyH_take (i := 9) (v := ?_) rfl (by kernel_rfl) (by kernel_rfl) (by kernel_rfl) (fun _ _ _ h => h) (Or.inl ⟨by rfl, ?_⟩) (by assumption) ?_
        rotate_left
        · intro w hSw
          (try dsimp only at hSw)
          go_simp
          (try with_reducible rfl)
        (try simp only [Act.put, List.setIfInBounds_toArray, List.set_cons_zero, List.set_cons_succ])
        refine wpAnyH_take (i := 10) (v := ?_) rfl (by kernel_rfl) (by kernel_rfl) (by kernel_rfl) (fun _ _ _ h => h) (Or.inl ⟨by rfl, ?_⟩) (by assumption) ?_
        rotate_left
        · intro w hSw
          (try dsimp only at hSw)
          go_simp
          (try with_reducible rfl)
        (try simp only [Act.put, List.setIfInBounds_toArray, List.set_cons_zero, List.set_cons_succ])
        refine wpAnyH_take (i := 11) (v := ?_) rfl (by kernel_rfl) (by kernel_rfl) (by kernel_rfl) (fun _ _ _ h => h) (Or.inl ⟨by rfl, ?_⟩) (by assumption) ?_
        rotate_left
        · intro w hSw
          (try dsimp only at hSw)
          go_simp
          (try with_reducible rfl)
        (try simp only [Act.put, List.setIfInBounds_toArray, List.set_cons_zero, List.set_cons_succ])
        refine wpAnyH_take (i := 12) (v := ?_) rfl (by kernel_rfl) (by kernel_rfl) (by kernel_rfl) (fun _ _ _ h => h) (Or.inl ⟨by rfl, ?_⟩) (by assumption) ?_
        rotate_left
        · intro w hSw
          (try dsimp only at hSw)
          go_simp
          (try with_reducible rfl)
        (try simp only [Act.put, List.setIfInBounds_toArray, List.set_cons_zero, List.set_cons_succ])
        refine wpAnyH_take (i := 13) (v := ?_) rfl (by kernel_rfl) (by kernel_rfl) (by kernel_rfl) (fun _ _ _ h => h) (Or.inl ⟨by rfl, ?_⟩) (by assumption) ?_
        rotate_left
        · intro w hSw
          (try dsimp only at hSw)
          go_simp
          (try with_reducible rfl)
        (try simp only [Act.put, List.setIfInBounds_toArray, List.set_cons_zero, List.set_cons_succ])
        refine wpAnyH_take (i := 14) (v := ?_) rfl (by kernel_rfl) (by kernel_rfl) (by kernel_rfl) (fun _ _ _ h => h) (Or.inl ⟨by rfl, ?_⟩) (by assumption) ?_
        rotate_left
        · intro w hSw
          (try dsimp only at hSw)
          go_simp
          (try with_reducible rfl)
        (try simp only [Act.put, List.setIfInBounds_toArray, List.set_cons_zero, List.set_cons_succ])
        refine wpAnyH_take (i := 15) (v := ?_) rfl (by kernel_rfl) (by kernel_rfl) (by kernel_rfl) (fun _ _ _ h => h) (Or.inl ⟨by rfl, ?_⟩) (by assumption) ?_
        rotate_left
        · intro w hSw
          (try dsimp only at hSw)
          go_simp
          (try with_reducible rfl)
        (try simp only [Act.put, List.setIfInBounds_toArray, List.set_cons_zero, List.set_cons_succ])
        refine wpAnyH_take (i := 16) (v := ?_) rfl (by kernel_rfl) (by kernel_rfl) (by kernel_rfl) (fun _ _ _ h => h) (Or.inl ⟨by rfl, ?_⟩) (by assumption) ?_
        rotate_left
        · intro w hSw
          (try dsimp only at hSw)
          go_simp
          (try with_reducible rfl)
        (try simp only [Act.put, List.setIfInBounds_toArray, List.set_cons_zero, List.set_cons_succ])
        refine wpAnyH_ready (rs := [17]) (by kernel_rfl) (by simp) ?_
        refine AllReadyH.cons rfl (fun Kc hK => ?_) AllReadyH.nil
        go_simp
        go_at_call 16; refine (HC.out _ (HMA.out.kept (Below.refl _ _).drew)).mono ?_; rintro e w4 ⟨rfl, hm4, hr4⟩; have HM4 := Lib.hid hm4; have HRW4 := Lib.hid (HRE.out.drew.trans hr4); have HR4 := Lib.hid (own_rest (HR.out.kept (row := none) (grown_below (Below.refl _ _).drew) (Classical.em _)) hr4 (fun b hb => hM.out.own_lt hb)); have HZ4 : Hid (w.heap.size ≤ w4.heap.size) := Lib.hid HRW4.out.size; clear hm4 hr4
        refine hK.out _ _ (HSF.out w4 HRW4.out) (fun hHeld4 => ?_)
        clear hK Kc
        (try simp only [Act.put, List.setIfInBounds_toArray, List.set_cons_zero, List.set_cons_succ])
        refine wpAnyH_take (i := 18) (v := ?_) rfl (by kernel_rfl) (by kernel_rfl) (by kernel_rfl) (fun _ _ _ h => h) (Or.inl ⟨by rfl, ?_⟩) (by assumption) ?_
        rotate_left
        · intro w hSw
          (try dsimp only at hSw)
          go_simp
          (try with_reducible rfl)
        (try simp only [Act.put, List.setIfInBounds_toArray, List.set_cons_zero, List.set_cons_succ])
        refine wpAnyH_ready (rs := [19]) (by kernel_rfl) (by simp) ?_
        refine AllReadyH.cons rfl (fun Kc hK => ?_) AllReadyH.nil
        go_simp
        refine hK.out _ _ (HSF.out _ (HRW4.out.stepB ((Below.refl _ _).alloc HZ4.out _))) (fun hHeld8 => ?_)
        clear hK Kc
        (try simp only [Act.put, List.setIfInBounds_toArray, List.set_cons_zero, List.set_cons_succ])
        refine wpAnyH_ready (rs := [20]) (by kernel_rfl) (by simp) ?_
        refine AllReadyH.cons rfl (fun Kc hK => ?_) AllReadyH.nil
        rw [if_pos (by rfl)]
        refine wp_append_own _ _ _ 33 rfl w.heap.size 37 i0 (.agg #[.int .i64 0, .int .i64 0]) 2 16 Try.underlying33 hi hz0 hz1 hz2 rfl (by decide) _ _ _ rfl (HR4.out.alloc _) ⟨w4.heap.size, 0, none⟩ 1 1 [.int .i64 0, .int .i64 e1] rfl rfl (cell2_new w4 _ _ _) (by simp [Value.oneCell']) (by unfold maxLen; omega) (by omega) (by have := HZ4.out; simp; omega) ?_
        intro v' w5 hown' hgrow5 hnil5
        have hb5 : Below w.heap.size w4 w5 := ((Below.refl _ _).alloc HZ4.out _).grown hgrow5 (by have := HZ4.out; simp; omega) (own_ge HR4.out)
        have hR5 := HRW4.out.stepB hb5
        have HOWN := Lib.hid hown'
        refine hK.out _ _ (HSF.out w5 hR5) (fun hHeld5 => ?_)
        clear hK Kc hHeld hHeld4 hHeld8 hown' hgrow5 hnil5
        (try simp only [Act.put, List.setIfInBounds_toArray, List.set_cons_zero, List.set_cons_succ])
        refine wpAnyH_take (i := 21) (v := ?_) rfl (by kernel_rfl) (by kernel_rfl) (by kernel_rfl) (fun _ _ _ h => h) (Or.inl ⟨by rfl, ?_⟩) (by assumption) ?_
        rotate_left
        · intro w hSw
          (try dsimp only at hSw)
          go_simp
          (try with_reducible rfl)
        (try simp only [Act.put, List.setIfInBounds_toArray, List.set_cons_zero, List.set_cons_succ])
        refine wpAnyH_done (by kernel_rfl) ?_ _
        clear hHeld5
        go_wp2
        exact ⟨⟨k + 1, by simp, by omega, by rw [HN.out, List.flatMap_append]; exact HOWN.out, hM.out.keptB HM4.out hb5, hR5⟩, by simp [intOf]; omega⟩
    · obtain rfl : k = n := by omega
      have hge : ¬ (k : Int) < (k : Int) := by omega
      have HS : Hid (SliceC ansC 2 wr u5 (My.answers s L k)) := Lib.hid (sliceC_own ansC_len (by rw [My.answers_len]; exact HR.out))
      have HMF : Hid (MemAt wr l s (My.after s L)) := Lib.hid (by have h := HMA.out; rw [← hn.out, List.take_length] at h; exact h)
      go_wp2
      go_ret
      exact ⟨_, rfl, HS.out, HMF.out, HRE.out⟩
end Go.Proofs.Ytchljdcjlkfbfaa
