/-
  The document's side of layer 7: what its Play returns.
-/
import Derived.Test.YtchljdcjlkfbfaaMryI
namespace Go.Proofs.Ytchljdcjlkfbfaa
open Go.ChangeShapes Go.WideShapes Go.ChangeAt Go.RowKit
set_option linter.unusedVariables false
set_option linter.unusedSimpArgs false

def ansC (x : Int × Int) : List Value := [.int .i64 x.1, .int .i64 x.2]
theorem ansC_len (x : Int × Int) : (ansC x).length = 2 := rfl
theorem info_ans : ∃ i, Try.prog.info? 37 = some i ∧ i.zero = some (.agg #[.int .i64 0, .int .i64 0]) ∧ i.size = 2 ∧ i.bytes = 16 := by
  have h : (Try.prog.info? 37).map (fun i => (i.zero, i.size, i.bytes)) = some (some (.agg #[.int .i64 0, .int .i64 0]), 2, 16) := by kernel_rfl
  cases hq : Try.prog.info? 37 with
  | none => rw [hq] at h; cases h
  | some i => rw [hq] at h; simp at h; exact ⟨i, rfl, h.1, h.2.1, h.2.2⟩
theorem grown_below {A B : World} (h : Below A.heap.size A B) : A.grownBy B none := ⟨h.os, h.tape, h.output, h.size, fun k hk _ => h.block k hk⟩
theorem own_ge {W : World} {base : Nat} {e : TypeId} {size : Nat} {v : Value} {n : Nat} {xs : List Value} (h : W.ownsRow base e size v n xs) : ∀ j, v.ownBlock = some j → base ≤ j := by
  intro j ej
  rcases h.2 with ⟨rfl, _⟩ | ⟨g, cap, cur, rfl, hb, _⟩
  · simp [Value.ownBlock] at ej
  · obtain rfl : g = j := by simpa [Value.ownBlock] using ej
    exact hb
theorem cell2_new (w : World) (x y : Value) (t : TypeId) : ∀ j u, [x, y][j]? = some u → (w.alloc (.cells #[x, y] t)).cell? ((⟨w.heap.size, 0, none⟩ : Addr).add j) = some u := by
  intro j u hj
  match j, hj with
  | 0, hj => simp at hj; subst hj; simp [go_sem, Addr.add]
  | 1, hj => simp at hj; subst hj; simp [go_sem, Addr.add]
  | j + 2, hj => simp at hj
/-- a step in the cells of a slice -/
abbrev SAt (W : World) (b : Addr) (k a n v : Int) : Prop := W.cell? b = some (.int .i64 k) ∧ W.cell? ⟨b.block, b.off + 1, none⟩ = some (.int .i64 a) ∧ W.cell? ⟨b.block, b.off + 2, none⟩ = some (.int .i64 n) ∧ W.cell? ⟨b.block, b.off + 3, none⟩ = some (.int .i64 v)
theorem SAt.kept {W w' : World} {b : Addr} {k a n v : Int} (h : SAt W b k a n v) (hb : Below W.heap.size W w') : SAt w' b k a n v := by
  have hlt : b.block < W.heap.size := cell_lt h.1
  obtain ⟨h0, h1, h2, h3⟩ := h
  refine ⟨?_, ?_, ?_, ?_⟩ <;> (rw [hb.cell (by exact hlt)]; assumption)
theorem SAt.of {W : World} {b : Addr} {x : My.Step} (h : OnC W b (stC x)) : SAt W b x.kind x.a x.n x.v :=
  ⟨by have h0 := h 0 _ rfl; rw [add_zero'] at h0; exact h0, h 1 _ rfl, h 2 _ rfl, h 3 _ rfl⟩
theorem steps_at {W : World} {ad : Addr} {n c : Nat} {L : List My.Step} (h : SliceC stC 4 W (.slice (some ad) n c) L) (k : Nat) (hk : k < L.length) : SAt W (ad.add (k * 4)) L[k].kind L[k].a L[k].n L[k].v := by
  obtain ⟨p', c', e', hat⟩ := h
  obtain ⟨a2, hpa, hOn⟩ := hat k hk
  injection e' with ep en ec
  rw [hpa] at ep
  injection ep with ep
  subst ep
  exact SAt.of hOn
/-- the first of the steps -/
theorem steps_take {W : World} {ad : Addr} {n c : Nat} {L : List My.Step} (h : SliceC stC 4 W (.slice (some ad) n c) L) (k : Nat) (hk : k ≤ L.length) : SliceC stC 4 W (.slice (some ad) k c) (L.take k) := by
  obtain ⟨p', c', e', hat⟩ := h
  refine ⟨some ad, c, by rw [List.length_take, Nat.min_eq_left hk], fun j hj => ⟨ad, rfl, ?_⟩⟩
  have hj2 : j < L.length := by rw [List.length_take] at hj; omega
  obtain ⟨a2, hpa, hOn⟩ := hat j hj2
  injection e' with ep en ec
  rw [hpa] at ep
  injection ep with ep
  subst ep
  rw [List.getElem_take]
  exact hOn
theorem My.wfL_take {L : List My.Step} (h : My.wfL L) (k : Nat) : My.wfL (L.take k) := fun x hx => h x (List.mem_of_mem_take hx)
theorem rp_step {W wx w' : World} {b : Nat} {i o r : Int} {fl inp : ByteArray} {ad : Addr} {k a n v : Int} (h : Below W.heap.size W wx ∧ StAt wx b i o r fl inp ∧ SAt wx ad k a n v) (hb : Below wx.heap.size wx w') : Below W.heap.size W w' ∧ StAt w' b i o r fl inp ∧ SAt w' ad k a n v :=
  ⟨h.1.trans (hb.mono h.1.size), h.2.1.kept hb, h.2.2.kept hb⟩
theorem StAt.kept' {W w' : World} {b : Nat} {i o r : Int} {fl inp : ByteArray} (h : StAt W b i o r fl inp) {B : Nat} (hb : Below B W w') (hB : b < B) : StAt w' b i o r fl inp := by
  obtain ⟨h0, h1, h2, h3, h4⟩ := h
  refine ⟨?_, ?_, ?_, ?_, ?_⟩ <;> (rw [hb.cell (by exact hB)]; assumption)
theorem My.ansAt_0 {s : My.St} {L : List My.Step} {k : Nat} (hk : k < L.length) (h : L[k].kind = 0) : My.ansAt s L k = My.load s (My.after s (L.take k)) L[k].a L[k].n := by
  unfold My.ansAt My.ans
  rw [My.getD_at L k hk, if_pos h]
theorem My.ansAt_1 {s : My.St} {L : List My.Step} {k : Nat} (hk : k < L.length) (h : ¬ L[k].kind = 0) : My.ansAt s L k = (0, My.fe s L[k].a L[k].n true) := by
  unfold My.ansAt My.ans
  rw [My.getD_at L k hk, if_neg h]
set_option maxHeartbeats 8000000 in
set_option maxRecDepth 100000 in
theorem rplay_any (s : My.St) (p : Option Addr) (n c : Nat) (L : List My.Step) (w : World) (hn : Hid (L.length = n)) (hm : n ≤ 100) (hc : n ≤ c) (hL : Hid (SliceC stC 4 w (.slice p n c) L)) (hW : Hid (My.wfL L)) (hg : Hid (My.good s)) (hr : Hid ((Lit.int .i64 s.r).wf = true)) :
    Calls Try.prog 11 #[.agg #[.int .i64 s.i, .int .i64 s.o, .int .i64 s.r, .string s.fl, .string s.inp], .slice p n c] w fun e w' => ∃ v, e = .returned v ∧ SliceC ansC 2 w' v (My.answers s L n) ∧ (∀ j, v.ownBlock = some j → w.heap.size ≤ j) ∧ Below w.heap.size w w' := by
  have F : Hid (∀ (A N : Int) (w : World), A ≤ 9223372036854775807 → Calls Try.prog 21 #[.agg #[.int .i64 s.i, .int .i64 s.o, .int .i64 s.r, .string s.fl, .string s.inp], .int .i64 A, .int .i64 N, .bool true] w fun e w' => e = .returned (.int .i64 (My.fe s A N true)) ∧ Below w.heap.size w w') := Lib.hid fun A N w hA => rfe_any s A N true w hg hr (Lib.hid hA)
  have G : Hid (∀ (k : Nat) (ad : Addr) (A N : Int) (w' : World), k ≤ n → p = some ad → Below w.heap.size w w' → A ≤ 9223372036854775807 → Calls Try.prog 20 #[.agg #[.int .i64 s.i, .int .i64 s.o, .int .i64 s.r, .string s.fl, .string s.inp], .slice (some ad) k c, .int .i64 A, .int .i64 N] w' fun e w'' => e = .returned (.tuple #[.int .i64 (My.load s (My.after s (L.take k)) A N).1, .int .i64 (My.load s (My.after s (L.take k)) A N).2]) ∧ Below w'.heap.size w' w'') := Lib.hid fun k ad A N w' hk hp hb hA => by
    subst hp
    refine rload_any s (some ad) k c (L.take k) A N w' (Lib.hid ?_) (by omega) (Lib.hid ?_) (Lib.hid (My.wfL_take hW.out k)) hg hr (Lib.hid hA)
    · rw [List.length_take, hn.out]; omega
    · exact steps_take (hL.out.kept hb) k (by rw [hn.out]; exact hk)
  have S := Lib.hid (st_new w s.i s.o s.r s.fl s.inp 25)
  obtain ⟨i0, hi, hz0, hz1, hz2⟩ := info_ans
  generalize s.i = i at *
  generalize s.o = o at *
  generalize s.r = r at *
  generalize s.fl = fl at *
  generalize s.inp = inp at *
  have HW0 : Hid (Below w.heap.size w (w.alloc (.cells #[.int .i64 i, .int .i64 o, .int .i64 r, .string fl, .string inp] 25))) := Lib.hid ((Below.refl _ _).alloc (Nat.le_refl _) _)
  have HZ0 : Hid ((w.alloc (.cells #[.int .i64 i, .int .i64 o, .int .i64 r, .string fl, .string inp] 25)).heap.size = w.heap.size + 1) := Lib.hid (by simp)
  go_enter Try.func11, Try.ntmps11
  go_wp2
  generalize w.alloc (.cells #[.int .i64 i, .int .i64 o, .int .i64 r, .string fl, .string inp] 25) = W0 at *
  go_loopw [5, 6] (fun O K W => ∃ k : Nat, K = .int .i64 (k : Int) ∧ k ≤ n ∧ W.ownsRow W0.heap.size 37 2 O k ((My.answers s L k).flatMap ansC) ∧ Below W0.heap.size W0 W) (fun _ K _ => n - (intOf K).toNat)
  case atStart => exact ⟨0, rfl, Nat.zero_le _, World.ownsRow_nil _ _ _ _, Below.refl _ _⟩
  case round =>
    obtain ⟨k, rfl, hkn, hrow, hB⟩ := hrel
    by_cases hlt : k < n
    · have hkL : k < L.length := by rw [hn.out]; exact hlt
      have hlt' : (k : Int) < (n : Int) := by omega
      have hk0 : (0 : Int) ≤ (k : Int) := by omega
      have hkc : (k : Int) ≤ (c : Int) := by omega
      have hc0 : ¬ c = 0 := by omega
      have HBW : Hid (Below w.heap.size w wr) := Lib.hid (HW0.out.trans (hB.mono (by have := HW0.out.size; exact this)))
      have HS : Hid (StAt wr w.heap.size i o r fl inp) := Lib.hid (S.out.kept' hB (by have := HZ0.out; omega))
      obtain ⟨ad, rfl⟩ : ∃ ad, p = some ad := by
        obtain ⟨p', c', e', hat⟩ := hL.out
        obtain ⟨a2, hpa, hOn⟩ := hat k hkL
        injection e' with ep en ec
        exact ⟨a2, ep.trans hpa⟩
      have hA := hW.out L[k] (List.getElem_mem hkL)
      have HSA := Lib.hid (steps_at (hL.out.kept HBW.out) k hkL)
      have HSF := Lib.hid (fun (w' : World) (hb : Below w.heap.size w w') => steps_at (hL.out.kept hb) k hkL)
      have HTF : Hid (∀ w' : World, Below W0.heap.size W0 w' → StAt w' w.heap.size i o r fl inp) := Lib.hid fun w' hb => S.out.kept' hb (by have := HZ0.out; omega)
      have HN : Hid (My.answers s L (k + 1) = My.answers s L k ++ [My.ansAt s L k]) := Lib.hid (My.answers_snoc s L k)
      have H0 := fun h => My.ansAt_0 (s := s) hkL h
      have H1 := fun h => My.ansAt_1 (s := s) hkL h
      generalize My.ansAt s L k = an at *
      rcases hx : L[k] with ⟨kd, xa, xn, xv⟩
      rw [hx] at hA HSA H0 H1 HSF
      dsimp only at hA HSA H0 H1 HSF
      have HA := Lib.hid hA.2
      have HH0 := Lib.hid H0
      have HH1 := Lib.hid H1
      have HB0 := Lib.hid hB
      have HR := Lib.hid hrow
      have hSA := HSA.out
      obtain ⟨z0, z1, z2, z3⟩ := hSA
      clear H0 H1 hA hx hB hrow
      by_cases hkd : kd = 0
      · have HX := Lib.hid (HH0.out hkd)
        subst hkd
        have HC := Lib.hid (fun (w' : World) (hb : Below w.heap.size w w') => G.out k ad xa xn w' (by omega) rfl hb HA.out)
        rw [← HX.out] at HC
        obtain ⟨v1, e1⟩ := an
        dsimp only at HC
        clear HH0 HH1 HX
        go_wp2
        have hH0 : Below wr.heap.size wr wr.drew ∧ StAt wr.drew w.heap.size i o r fl inp ∧ SAt wr.drew (ad.add (k * 4)) 0 xa xn xv := ⟨(Below.refl _ _).drew, HS.out, HSA.out⟩
        clear z0 z1 z2 z3
        go_region_held3 (fun wx => Below wr.heap.size wr wx ∧ StAt wx w.heap.size i o r fl inp ∧ SAt wx (ad.add (k * 4)) 0 xa xn xv)
          (first | assumption | exact rp_step (by assumption) (by assumption))
          (first | (go_at_call 20; refine (HC.out _ HBW.out.drew).mono ?_; rintro e w4 ⟨rfl, hb4⟩))
        all_goals
          rename_i hH
          have hB4 := HB0.out.trans (hH.1.mono HB0.out.size)
          have HB4 := Lib.hid hB4
          have HR4 := Lib.hid (HR.out.kept (row := none) (grown_below hH.1) (Classical.em _))
          clear hb4 hH hB4
          go_wp2_with (at_builtin; refine wpList_append_own _ rfl _ _ 33 rfl W0.heap.size 37 i0 (.agg #[.int .i64 0, .int .i64 0]) 2 16 Try.underlying33 hi hz0 hz1 hz2 rfl (by decide) _ _ _ rfl (HR4.out.alloc _) ⟨w4.heap.size, 0, none⟩ 1 1 [.int .i64 v1, .int .i64 e1] rfl rfl (cell2_new _ _ _ _) (by simp [Value.oneCell']) (by unfold maxLen; omega) (by omega) (by have := HB4.out.size; simp; omega) ?_; intro v' w5 hown' hgrow5 hnil5; have HO5 := Lib.hid hown'; have HB5 := Lib.hid ((HB4.out.alloc HB4.out.size _).grown hgrow5 (by have := HB4.out.size; simp; omega) (own_ge HR4.out)); clear hown' hgrow5 hnil5)
          exact ⟨⟨k + 1, by simp, by omega, by rw [HN.out, List.flatMap_append]; exact HO5.out, HB5.out⟩, by simp [intOf]; omega⟩
      · have HX := Lib.hid (HH1.out hkd)
        have hkb : (kd == 0) = false := by simpa using hkd
        have HC := Lib.hid (fun (w' : World) => F.out xa xn w' HA.out)
        generalize My.fe s xa xn true = e1 at *
        rw [HX.out] at HN
        clear HH0 HH1 HX
        go_wp2
        have hH0 : Below wr.heap.size wr wr.drew ∧ StAt wr.drew w.heap.size i o r fl inp ∧ SAt wr.drew (ad.add (k * 4)) kd xa xn xv := ⟨(Below.refl _ _).drew, HS.out, HSA.out⟩
        clear z0 z1 z2 z3
        refine wp_region_held_drew (S := fun wx => SAt wx (ad.add (k * 4)) kd xa xn xv ∧ StAt wx w.heap.size i o r fl inp) (by kernel_rfl) (⟨HSA.out, HS.out⟩) (fun hHeld => ?_)
        refine wpAnyH_take (i := 0) (v := ?_) rfl (by kernel_rfl) (by kernel_rfl) (by kernel_rfl) (fun _ _ _ h => h) (Or.inl ⟨by rfl, ?_⟩) (by assumption) ?_
        rotate_left
        · intro w hSw
          (try dsimp only at hSw)
          go_simp
          (try with_reducible rfl)
        (try simp only [Act.put, List.setIfInBounds_toArray, List.set_cons_zero, List.set_cons_succ])
        refine wpAnyH_take (i := 1) (v := ?_) rfl (by kernel_rfl) (by kernel_rfl) (by kernel_rfl) (fun _ _ _ h => h) (Or.inl ⟨by rfl, ?_⟩) (by assumption) ?_
        rotate_left
        · intro w hSw
          (try dsimp only at hSw)
          go_simp
          (try with_reducible rfl)
        (try simp only [Act.put, List.setIfInBounds_toArray, List.set_cons_zero, List.set_cons_succ])
        refine wpAnyH_take (i := 2) (v := ?_) rfl (by kernel_rfl) (by kernel_rfl) (by kernel_rfl) (fun _ _ _ h => h) (Or.inl ⟨by rfl, ?_⟩) (by assumption) ?_
        rotate_left
        · intro w hSw
          (try dsimp only at hSw)
          go_simp
          (try with_reducible rfl)
        (try simp only [Act.put, List.setIfInBounds_toArray, List.set_cons_zero, List.set_cons_succ])
        refine wpAnyH_take (i := 3) (v := ?_) rfl (by kernel_rfl) (by kernel_rfl) (by kernel_rfl) (fun _ _ _ h => h) (Or.inl ⟨by rfl, ?_⟩) (by assumption) ?_
        rotate_left
        · intro w hSw
          (try dsimp only at hSw)
          go_simp
          (try with_reducible rfl)
        (try simp only [Act.put, List.setIfInBounds_toArray, List.set_cons_zero, List.set_cons_succ])
        refine wpAnyH_take (i := 4) (v := ?_) rfl (by kernel_rfl) (by kernel_rfl) (by kernel_rfl) (fun _ _ _ h => h) (Or.inl ⟨by rfl, ?_⟩) (by assumption) ?_
        rotate_left
        · intro w hSw
          (try dsimp only at hSw)
          go_simp
          (try with_reducible rfl)
        (try simp only [Act.put, List.setIfInBounds_toArray, List.set_cons_zero, List.set_cons_succ])
        refine wpAnyH_take (i := 5) (v := ?_) rfl (by kernel_rfl) (by kernel_rfl) (by kernel_rfl) (fun _ _ _ h => h) (Or.inl ⟨by rfl, ?_⟩) (by assumption) ?_
        rotate_left
        · intro w hSw
          (try dsimp only at hSw)
          go_simp
          (try with_reducible rfl)
        (try simp only [Act.put, List.setIfInBounds_toArray, List.set_cons_zero, List.set_cons_succ])
        refine wpAnyH_take (i := 6) (v := ?_) rfl (by kernel_rfl) (by kernel_rfl) (by kernel_rfl) (fun _ _ _ h => h) (Or.inl ⟨by rfl, ?_⟩) (by assumption) ?_
        rotate_left
        · intro w hSw
          (try dsimp only at hSw)
          go_simp
          (try with_reducible rfl)
        (try simp only [Act.put, List.setIfInBounds_toArray, List.set_cons_zero, List.set_cons_succ])
        refine wpAnyH_take (i := 7) (v := ?_) rfl (by kernel_rfl) (by kernel_rfl) (by kernel_rfl) (fun _ _ _ h => h) (Or.inl ⟨by rfl, ?_⟩) (by assumption) ?_
        rotate_left
        · intro w hSw
          (try dsimp only at hSw)
          go_simp
          (try with_reducible rfl)
        (try simp only [Act.put, List.setIfInBounds_toArray, List.set_cons_zero, List.set_cons_succ])
        refine wpAnyH_take (i := 8) (v := ?_) rfl (by kernel_rfl) (by kernel_rfl) (by kernel_rfl) (fun _ _ _ h => h) (Or.inl ⟨by rfl, ?_⟩) (by assumption) ?_
        rotate_left
        · intro w hSw
          (try dsimp only at hSw)
          go_simp
          (try with_reducible rfl)
        (try simp only [Act.put, List.setIfInBounds_toArray, List.set_cons_zero, List.set_cons_succ])
        refine wpAnyH_take (i := 9) (v := ?_) rfl (by kernel_rfl) (by kernel_rfl) (by kernel_rfl) (fun _ _ _ h => h) (Or.inl ⟨by rfl, ?_⟩) (by assumption) ?_
        rotate_left
        · intro w hSw
          (try dsimp only at hSw)
          go_simp
          (try with_reducible rfl)
        (try simp only [Act.put, List.setIfInBounds_toArray, List.set_cons_zero, List.set_cons_succ])
        refine wpAnyH_take (i := 10) (v := ?_) rfl (by kernel_rfl) (by kernel_rfl) (by kernel_rfl) (fun _ _ _ h => h) (Or.inl ⟨by rfl, ?_⟩) (by assumption) ?_
        rotate_left
        · intro w hSw
          (try dsimp only at hSw)
          go_simp
          (try with_reducible rfl)
        (try simp only [Act.put, List.setIfInBounds_toArray, List.set_cons_zero, List.set_cons_succ])
        refine wpAnyH_take (i := 11) (v := ?_) rfl (by kernel_rfl) (by kernel_rfl) (by kernel_rfl) (fun _ _ _ h => h) (Or.inl ⟨by rfl, ?_⟩) (by assumption) ?_
        rotate_left
        · intro w hSw
          (try dsimp only at hSw)
          go_simp
          (try with_reducible rfl)
        (try simp only [Act.put, List.setIfInBounds_toArray, List.set_cons_zero, List.set_cons_succ])
        refine wpAnyH_ready (rs := [12]) (by kernel_rfl) (by simp) ?_
        refine AllReadyH.cons rfl (fun Kc hK => ?_) AllReadyH.nil
        go_simp
        go_at_call 21; refine (HC.out _).mono ?_; rintro e w4 ⟨rfl, hb4⟩; have HB4 := Lib.hid (HB0.out.drew.trans (hb4.mono HB0.out.size)); have HR4 := Lib.hid (HR.out.kept (row := none) (grown_below ((Below.refl _ _).drew.trans hb4)) (Classical.em _))
        refine hK.out _ _ (⟨hHeld.1.kept hb4, hHeld.2.kept hb4⟩) (fun hHeld4 => ?_)
        clear hK Kc
        (try simp only [Act.put, List.setIfInBounds_toArray, List.set_cons_zero, List.set_cons_succ])
        refine wpAnyH_take (i := 13) (v := ?_) rfl (by kernel_rfl) (by kernel_rfl) (by kernel_rfl) (fun _ _ _ h => h) (Or.inl ⟨by rfl, ?_⟩) (by assumption) ?_
        rotate_left
        · intro w hSw
          (try dsimp only at hSw)
          go_simp
          (try with_reducible rfl)
        (try simp only [Act.put, List.setIfInBounds_toArray, List.set_cons_zero, List.set_cons_succ])
        refine wpAnyH_ready (rs := [14]) (by kernel_rfl) (by simp) ?_
        refine AllReadyH.cons rfl (fun Kc hK => ?_) AllReadyH.nil
        go_simp
        refine hK.out _ _ (⟨hHeld4.1.kept ((Below.refl _ _).alloc (Nat.le_refl _) _), hHeld4.2.kept ((Below.refl _ _).alloc (Nat.le_refl _) _)⟩) (fun hHeld8 => ?_)
        clear hK Kc
        (try simp only [Act.put, List.setIfInBounds_toArray, List.set_cons_zero, List.set_cons_succ])
        refine wpAnyH_ready (rs := [15]) (by kernel_rfl) (by simp) ?_
        refine AllReadyH.cons rfl (fun Kc hK => ?_) AllReadyH.nil
        rw [if_pos (by rfl)]
        refine wp_append_own _ _ _ 33 rfl W0.heap.size 37 i0 (.agg #[.int .i64 0, .int .i64 0]) 2 16 Try.underlying33 hi hz0 hz1 hz2 rfl (by decide) _ _ _ rfl (HR4.out.alloc _) ⟨w4.heap.size, 0, none⟩ 1 1 [.int .i64 0, .int .i64 e1] rfl rfl (cell2_new w4 _ _ _) (by simp [Value.oneCell']) (by unfold maxLen; omega) (by omega) (by have := HB4.out.size; simp; omega) ?_
        intro v' w5 hown' hgrow5 hnil5
        have hB5 : Below W0.heap.size W0 w5 := (HB4.out.alloc HB4.out.size _).grown hgrow5 (by have := HB4.out.size; simp; omega) (own_ge HR4.out)
        have HOWN := Lib.hid hown'
        refine hK.out _ _ ⟨HSF.out w5 (HW0.out.trans (hB5.mono (by have := HW0.out.size; exact this))), HTF.out w5 hB5⟩ (fun hHeld5 => ?_)
        clear hK Kc hHeld hHeld4 hHeld8 hown' hgrow5 hnil5
        (try simp only [Act.put, List.setIfInBounds_toArray, List.set_cons_zero, List.set_cons_succ])
        refine wpAnyH_take (i := 16) (v := ?_) rfl (by kernel_rfl) (by kernel_rfl) (by kernel_rfl) (fun _ _ _ h => h) (Or.inl ⟨by rfl, ?_⟩) (by assumption) ?_
        rotate_left
        · intro w hSw
          (try dsimp only at hSw)
          go_simp
          (try with_reducible rfl)
        (try simp only [Act.put, List.setIfInBounds_toArray, List.set_cons_zero, List.set_cons_succ])
        refine wpAnyH_done (by kernel_rfl) ?_ _
        clear hHeld5
        go_wp2
        exact ⟨⟨k + 1, by simp, by omega, by rw [HN.out, List.flatMap_append]; exact HOWN.out, hB5⟩, by simp [intOf]; omega⟩
    · obtain rfl : k = n := by omega
      have hge : ¬ (k : Int) < (k : Int) := by omega
      have HBW : Hid (Below w.heap.size w wr) := Lib.hid (HW0.out.trans (hB.mono (by have := HW0.out.size; exact this)))
      have HR : Hid (SliceC ansC 2 wr u5 (My.answers s L k)) := Lib.hid (sliceC_own ansC_len (by rw [My.answers_len]; exact hrow))
      have HO : Hid (∀ j, u5.ownBlock = some j → w.heap.size ≤ j) := Lib.hid fun j hj => by have h1 := own_ge hrow j hj; have h2 := HZ0.out; omega
      clear hB hrow
      go_wp2
      go_ret
      exact ⟨_, rfl, HR.out, HO.out, HBW.out⟩
end Go.Proofs.Ytchljdcjlkfbfaa
