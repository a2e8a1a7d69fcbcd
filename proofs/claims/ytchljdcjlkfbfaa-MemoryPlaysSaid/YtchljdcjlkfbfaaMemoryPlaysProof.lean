/-
  Law MemoryPlays: any loads and stores, one behind the other, are answered as the document says, or there is the error of New.
  Conditions: none but those of the given row.
-/
import Derived.Test.YtchljdcjlkfbfaaRows
import Derived.Test.YtchljdcjlkfbfaaMryN
import Derived.WalkKit
import Derived.ProofKit
import Derived.OpenShut
import Derived.ShutString
import Derived.ChangeOld
import Derived.Below
import Derived.LoopN
import Derived.SizedLaws
namespace Go.Proofs.Ytchljdcjlkfbfaa.memoryPlays
open Go.ChangeShapes Go.WideShapes Go.ChangeAt Go.RowKit
open Go.ChangeMaps (open_string shut_string)
set_option linter.unusedVariables false

theorem own : ownKnob Try.prog.godebug = none := by kernel_rfl
theorem laidOut : laidOutB Try.prog = true := by kernel_rfl

set_option linter.unusedSimpArgs false
theorem ans_at {W : World} {v : Value} {n : Nat} {L : List (Int × Int)} (h : SliceC ansC 2 W v L) (hn : L.length = n) : ∃ (p : Option Addr) (c : Nat), v = .slice p n c ∧ ∀ k (hk : k < L.length), ∃ a, p = some a ∧ W.cell? (a.add (k * 2)) = some (.int .i64 L[k].1) ∧ W.cell? ⟨(a.add (k * 2)).block, (a.add (k * 2)).off + 1, none⟩ = some (.int .i64 L[k].2) := by
  obtain ⟨p, cap, rfl, hc⟩ := h
  refine ⟨p, cap, by rw [hn], fun k hk => ?_⟩
  obtain ⟨a, rfl, hi⟩ := hc k hk
  refine ⟨a, rfl, ?_, hi 1 _ rfl⟩
  have h0 := hi 0 _ rfl
  rw [add_zero'] at h0
  exact h0
set_option maxHeartbeats 8000000 in set_option maxRecDepth 100000 in
theorem walk (s0 : My.St) (p1v : Option Addr) (c1v : Nat) (L1 : List My.Step) (wr0 : (Lit.int .i64 s0.r).wf = true) (w : World) (t1 : SliceC stC 4 w (.slice p1v L1.length c1v) L1) (f1 : My.wfL L1) (k1c : L1.length ≤ c1v) :
    Calls Try.prog 3 #[.agg #[.int .i64 s0.i, .int .i64 s0.o, .int .i64 s0.r, .string s0.fl, .string s0.inp], .slice p1v L1.length c1v] w fun e w' => e = .returned (.bool true) ∧ Below w.heap.size w w' := by
  have LV : Hid (∀ w : World, Calls Try.prog 7 #[] w fun e w' => e = .returned (.bool true) ∧ Below w.heap.size w w') := Lib.hid lives_any
  have ST := Lib.hid (st_new w s0.i s0.o s0.r s0.fl s0.inp 25)
  have RN : Hid (∀ w : World, Calls Try.prog 9 #[.agg #[.int .i64 s0.i, .int .i64 s0.o, .int .i64 s0.r, .string s0.fl, .string s0.inp]] w fun e w' => e = .returned (.int .i64 (My.err s0)) ∧ Below w.heap.size w w') := Lib.hid fun w => rnew_any s0 w (Lib.hid wr0)
  have TS := Lib.hid t1
  have FS := Lib.hid f1
  have WR := Lib.hid wr0
  clear t1 f1 wr0
  obtain ⟨n, hn⟩ : ∃ n, L1.length = n := ⟨_, rfl⟩
  have HNL := Lib.hid hn
  rw [hn] at TS k1c ⊢
  clear hn
  by_cases h60 : 60 < n
  · have h60' : (60 : Int) < (n : Int) := by omega
    clear RN WR
    generalize s0.i = i at *
    generalize s0.o = o at *
    generalize s0.r = r at *
    generalize s0.fl = fl at *
    generalize s0.inp = inp at *
    go_enter Try.func3, Try.ntmps3
    go_wp2_with (go_at_call 7; refine (LV.out _).mono ?_; rintro e w1 ⟨rfl, hb1⟩; have HB := Lib.hid (((Below.refl _ _).alloc (Nat.le_refl _) _).trans (hb1.mono (by simp))); clear hb1)
    go_ret
    exact ⟨rfl, HB.out⟩
  · have h60' : ¬ (60 : Int) < (n : Int) := by omega
    by_cases hg : My.good s0
    · have E0 : My.err s0 = 0 := My.err_0.2 hg
      rw [E0] at RN
      have NB : Hid (∀ w : World, Calls Try.prog 8 #[.agg #[.int .i64 s0.i, .int .i64 s0.o, .int .i64 s0.r], .string s0.fl, .string s0.inp] w fun e w' => ∃ l : My.Loc, e = .returned (.tuple #[.pointer (some ⟨l.p, 0, none⟩), .int .i64 0]) ∧ (MemAt w' l s0 (My.first s0) ∧ (∀ b, l.own b → w.heap.size ≤ b) ∧ Below w.heap.size w w')) := Lib.hid fun w => new_ok s0 w (Lib.hid hg)
      have RP : Hid (∀ w' : World, Below w.heap.size w w' → Calls Try.prog 11 #[.agg #[.int .i64 s0.i, .int .i64 s0.o, .int .i64 s0.r, .string s0.fl, .string s0.inp], .slice p1v n c1v] w' fun e w'' => ∃ v, e = .returned v ∧ SliceC ansC 2 w'' v (My.answers s0 L1 n) ∧ (∀ j, v.ownBlock = some j → w'.heap.size ≤ j) ∧ Below w'.heap.size w' w'') := Lib.hid fun w' hb => rplay_any s0 p1v n c1v L1 w' HNL (by omega) k1c (Lib.hid (TS.out.kept hb)) FS (Lib.hid hg) WR
      have PL : Hid (∀ (l : My.Loc) (w' : World), Below w.heap.size w w' → (∀ b, l.own b → w.heap.size ≤ b) → MemAt w' l s0 (My.first s0) → Calls Try.prog 10 #[.pointer (some ⟨l.p, 0, none⟩), .slice p1v n c1v] w' fun e w'' => ∃ v, e = .returned v ∧ SliceC ansC 2 w'' v (My.answers s0 L1 n) ∧ MemAt w'' l s0 (My.after s0 L1) ∧ Rest l.own w' w'') := Lib.hid fun l w' hb ho hm => play_any l s0 p1v n c1v L1 w' HNL (by omega) (Lib.hid fun w'' hr => TS.out.kept (hb.trans (hr.below hb.size ho))) FS (Lib.hid hg) (Lib.hid hm)
      have HAL : Hid ((My.answers s0 L1 n).length = n) := Lib.hid (My.answers_len _ _ _)
      generalize My.answers s0 L1 n = AN at *
      generalize My.first s0 = M0 at *
      generalize My.after s0 L1 = M1 at *
      clear E0 WR
      generalize s0.i = i at *
      generalize s0.o = o at *
      generalize s0.r = r at *
      generalize s0.fl = fl at *
      generalize s0.inp = inp at *
      go_enter Try.func3, Try.ntmps3
      go_wp2_with (first
        | (go_at_call 8; refine (NB.out _).mono ?_; rintro e w1 ⟨l, rfl, hm1, ho1, hb1⟩; obtain ⟨x0, x1, x2, x3, x4⟩ := ST.out.kept hb1; have HM := Lib.hid hm1; have HO := Lib.hid (fun b (h : l.own b) => (by have h1 := ho1 b h; simp at h1; omega : w.heap.size + 1 ≤ b)); have HT := Lib.hid (ST.out.kept hb1); have HB := Lib.hid (((Below.refl _ _).alloc (Nat.le_refl _) _).trans (hb1.mono (by simp))); clear hb1 hm1 ho1)
        | (go_at_call 9; refine (RN.out _).mono ?_; rintro e w2 ⟨rfl, hb2⟩; replace HB := Lib.hid (HB.out.trans (hb2.mono HB.out.size)); replace HM := Lib.hid (HM.out.kept hb2); replace HT := Lib.hid (HT.out.kept hb2); clear hb2))
      have HZ := HB.out.size
      have HTF : Hid (∀ w' : World, Rest l.own w2 w' → StAt w' w.heap.size i o r fl inp) := Lib.hid fun w' hr => HT.out.kept' (hr.below (B := w.heap.size + 1) (by have := cell_lt HT.out.1; exact this) HO.out) (Nat.lt_succ_self _)
      have HOW : Hid (∀ b, l.own b → w.heap.size ≤ b) := Lib.hid fun b hb => by have := HO.out b hb; omega
      clear x0 x1 x2 x3 x4
      refine wp_region_held_drew (S := fun wx => StAt wx w.heap.size i o r fl inp) (by kernel_rfl) (HT.out) (fun hHeld => ?_)
      refine wpAnyH_take (i := 0) (v := ?_) rfl (by kernel_rfl) (by kernel_rfl) (by kernel_rfl) (fun _ _ _ h => h) (Or.inl ⟨by rfl, ?_⟩) (by assumption) ?_
      rotate_left
      · intro w hSw
        (try dsimp only at hSw)
        go_simp
        (try with_reducible rfl)
      (try simp only [Act.put, List.setIfInBounds_toArray, List.set_cons_zero, List.set_cons_succ])
      refine wpAnyH_take (i := 1) (v := ?_) rfl (by kernel_rfl) (by kernel_rfl) (by kernel_rfl) (fun _ _ _ h => h) (Or.inl ⟨by rfl, ?_⟩) (by assumption) ?_
      rotate_left
      · intro w hSw
        (try dsimp only at hSw)
        go_simp
        (try with_reducible rfl)
      (try simp only [Act.put, List.setIfInBounds_toArray, List.set_cons_zero, List.set_cons_succ])
      refine wpAnyH_take (i := 3) (v := ?_) rfl (by kernel_rfl) (by kernel_rfl) (by kernel_rfl) (fun _ _ _ h => h) (Or.inl ⟨by rfl, ?_⟩) (by assumption) ?_
      rotate_left
      · intro w hSw
        (try dsimp only at hSw)
        go_simp
        (try with_reducible rfl)
      (try simp only [Act.put, List.setIfInBounds_toArray, List.set_cons_zero, List.set_cons_succ])
      refine wpAnyH_take (i := 4) (v := ?_) rfl (by kernel_rfl) (by kernel_rfl) (by kernel_rfl) (fun _ _ _ h => h) (Or.inl ⟨by rfl, ?_⟩) (by assumption) ?_
      rotate_left
      · intro w hSw
        (try dsimp only at hSw)
        go_simp
        (try with_reducible rfl)
      (try simp only [Act.put, List.setIfInBounds_toArray, List.set_cons_zero, List.set_cons_succ])
      refine wpAnyH_ready (rs := [2]) (by kernel_rfl) (by simp) ?_
      refine AllReadyH.cons rfl (fun Kc hK => ?_) AllReadyH.nil
      · go_simp
        go_at_call 10
        refine (PL.out l _ HB.out.drew HOW.out (HM.out.kept (Below.refl _ _).drew)).mono ?_
        rintro e w4 ⟨va, rfl, hsa, -, hr4⟩
        have HR4 := Lib.hid ((Rest.refl l.own w2).drew.trans hr4)
        have HSA := Lib.hid hsa
        clear hr4 hsa
        refine hK.out _ _ (HTF.out w4 HR4.out) (fun hHeld4 => ?_)
        clear hK Kc
        (try simp only [Act.put, List.setIfInBounds_toArray, List.set_cons_zero, List.set_cons_succ])
        refine wpAnyH_ready (rs := [5]) (by kernel_rfl) (by simp) ?_
        refine AllReadyH.cons rfl (fun Kc hK => ?_) AllReadyH.nil
        go_simp
        go_at_call 11
        refine (RP.out _ (HB.out.trans (HR4.out.below HZ HOW.out))).mono ?_
        rintro e w5 ⟨vb, rfl, hsb, -, hb5⟩
        have HSB := Lib.hid hsb
        replace HSA := Lib.hid (HSA.out.kept hb5)
        have HB5 := Lib.hid (HB.out.trans ((HR4.out.below HZ HOW.out).trans (hb5.mono (Nat.le_trans HZ HR4.out.size))))
        have HR5 := Lib.hid (HR4.out.step hb5)
        clear hb5 hsb
        refine hK.out _ _ (HTF.out w5 HR5.out) (fun hHeld5 => ?_)
        clear hK Kc
        (try simp only [Act.put, List.setIfInBounds_toArray, List.set_cons_zero, List.set_cons_succ])
        refine wpAnyH_take (i := 6) (v := ?_) rfl (by kernel_rfl) (by kernel_rfl) (by kernel_rfl) (fun _ _ _ h => h) (Or.inl ⟨by rfl, ?_⟩) (by assumption) ?_
        rotate_left
        · intro w hSw
          (try dsimp only at hSw)
          go_simp
          (try with_reducible rfl)
        (try simp only [Act.put, List.setIfInBounds_toArray, List.set_cons_zero, List.set_cons_succ])
        refine wpAnyH_take (i := 7) (v := ?_) rfl (by kernel_rfl) (by kernel_rfl) (by kernel_rfl) (fun _ _ _ h => h) (Or.inl ⟨by rfl, ?_⟩) (by assumption) ?_
        rotate_left
        · intro w hSw
          (try dsimp only at hSw)
          go_simp
          (try with_reducible rfl)
        (try simp only [Act.put, List.setIfInBounds_toArray, List.set_cons_zero, List.set_cons_succ])
        refine wpAnyH_done (by kernel_rfl) ?_ _
        clear hHeld hHeld4 hHeld5
        obtain ⟨pa, ca, rfl, hca⟩ := ans_at HSA.out HAL.out
        obtain ⟨pb, cb, rfl, hcb⟩ := ans_at HSB.out HAL.out
        have HCA := Lib.hid hca
        have HCB := Lib.hid hcb
        clear hca hcb
        go_wp2
        go_loopw [9] (fun K wr => ∃ k : Nat, K = .int .i64 (k : Int) ∧ k ≤ n ∧ ∃ d, wr = w5.drewN d) (fun K _ => n - (intOf K).toNat)
        case atStart => exact ⟨0, rfl, Nat.zero_le _, 0, rfl⟩
        case round =>
          obtain ⟨k, rfl, hk, d, rfl⟩ := hrel
          by_cases hlt : k < n
          · have hlt' : (k : Int) < (n : Int) := by omega
            have hk0 : (0 : Int) ≤ (k : Int) := by omega
            obtain ⟨aa, rfl, a0, a1⟩ := HCA.out k (by rw [HAL.out]; exact hlt)
            obtain ⟨ab, rfl, b0, b1⟩ := HCB.out k (by rw [HAL.out]; exact hlt)
            generalize (AN[k]'(by rw [HAL.out]; exact hlt)).1 = v1 at *
            generalize (AN[k]'(by rw [HAL.out]; exact hlt)).2 = e1 at *
            go_wp2
            go_quiet (fail)
            go_wp2
            exact ⟨⟨k + 1, by simp, by omega, d + nq, rfl⟩, by simp [intOf]; omega⟩
          · have hge : ¬ (k : Int) < (n : Int) := by omega
            go_wp2_with (go_at_call 7; refine (LV.out _).mono ?_; rintro e w6 ⟨rfl, hb6⟩; have HB6 := Lib.hid ((below_drewN HB5.out d).trans (hb6.mono HB5.out.size)); clear hb6)
            go_ret
            exact ⟨rfl, HB6.out⟩
    · have hE : ¬ My.err s0 = 0 := fun h => hg (My.err_0.1 h)
      have NB : Hid (∀ w : World, Calls Try.prog 8 #[.agg #[.int .i64 s0.i, .int .i64 s0.o, .int .i64 s0.r], .string s0.fl, .string s0.inp] w fun e w' => e = .returned (.tuple #[.pointer none, .int .i64 (My.err s0)]) ∧ Below w.heap.size w w') := Lib.hid fun w => new_bad s0 w hg
      generalize My.err s0 = E at *
      have hEb : (E != 0) = true := by simpa using hE
      clear hg WR
      generalize s0.i = i at *
      generalize s0.o = o at *
      generalize s0.r = r at *
      generalize s0.fl = fl at *
      generalize s0.inp = inp at *
      go_enter Try.func3, Try.ntmps3
      go_wp2_with (first
        | (go_at_call 8; refine (NB.out _).mono ?_; rintro e w1 ⟨rfl, hb1⟩; obtain ⟨x0, x1, x2, x3, x4⟩ := ST.out.kept hb1; have HB := Lib.hid (((Below.refl _ _).alloc (Nat.le_refl _) _).trans (hb1.mono (by simp))); clear hb1)
        | (go_at_call 9; refine (RN.out _).mono ?_; rintro e w2 ⟨rfl, hb2⟩; replace HB := Lib.hid (HB.out.trans (hb2.mono HB.out.size)); clear hb2)
        | (go_at_call 7; refine (LV.out _).mono ?_; rintro e w3 ⟨rfl, hb3⟩; replace HB := Lib.hid (HB.out.trans (hb3.mono HB.out.size)); clear hb3))
      go_ret
      exact ⟨rfl, HB.out⟩

set_option maxRecDepth 100000 in
theorem lifted (os : Os) (started : os.Started) (H : Type) (enc : TypeId × Value → H) :
    ReturnsInHanded {} Try.checked os 3 .any (Rows.memoryPlaysSpec.pre6 enc Try.prog Try.f3 Rows.memoryPlaysRow.domain false) (Rows.memoryPlaysSpec.post enc Try.prog Try.f3 false true false false) := by
  refine returnsInHanded_of_change (C := Try.checked) own started (by kernel_rfl) Try.func3
    (ChangeSpec.witness6 (enc := enc) (C := Try.checked) false ⟨#[], #[.agg #[.int .i64 0, .int .i64 0, .int .i64 0, .string ByteArray.empty, .string ByteArray.empty], .slice none 0 0], []⟩ 8 (by kernel_rfl) (by kernel_rfl) (by kernel_rfl) (by kernel_rfl)) ?_
  intro W base args ds gs before hval0 hW hcnd _
  have hval : ∀ (j : Nat) t v, Try.f3.params[j]? = some t → args[j]? = some v → Value.okWide Try.prog W .any base t v := hval0
  have hW' := hW
  obtain ⟨p, q, hA0, hV, rfl, hfz, hnd⟩ := hW
  have hA : DataW.TrodAll enc Try.prog W 0 (fun _ => true) true Try.f3.params.toList args.toList ds p := hA0
  rw [Try.params3] at hA hval
  obtain ⟨v0, vs0, d0, ds0, p0, q0, hargs, rfl, rfl, h0, r0⟩ := trodAll_cons hA
  obtain ⟨v1, vs1, d1, ds1, p1, q1, rfl, rfl, rfl, h1, r1⟩ := trodAll_cons r0
  obtain ⟨rfl, rfl, rfl⟩ := trodAll_nil r1
  obtain rfl : args = #[v0, v1] := by cases args; simp_all
  obtain ⟨rfl, rfl⟩ := trodVars_none hV
  have k0 := h0
  have lt0 : ∀ x ∈ p0, x.block < W.heap.size := by obtain ⟨m, hm⟩ := k0; exact DataW.trod_lt m _ _ _ hm
  obtain ⟨s0, rfl, wr0⟩ := open_start (hval 0 25 v0 rfl rfl) h0
  have k1 := h1
  have lt1 : ∀ x ∈ p1, x.block < W.heap.size := by obtain ⟨m, hm⟩ := k1; exact DataW.trod_lt m _ _ _ hm
  obtain ⟨L1, p1v, c1v, rfl, t1, f1, k1c⟩ := open_steps (hval 1 26 v1 rfl rfl) h1
  clear hA0 hval0
  refine (walk s0 p1v c1v L1 wr0 W t1 f1 k1c).mono fun e W' ⟨he, bel⟩ => ?_
  subst he
  exact ⟨_, rfl, _, _, _, [], _, [], hW', trodAll_mk1 (shut_bool Try.underlying4 _), (trodAll_cons_mk (Below.trod laidOut (by kernel_rfl) (of_decide_eq_true (by kernel_rfl)) k0 bel lt0) (trodAll_cons_mk (Below.trod laidOut (by kernel_rfl) (of_decide_eq_true (by kernel_rfl)) k1 bel lt1) trodAll_mk0)), rfl, bel.frame _, fun h => by cases h⟩

theorem over : Rows.memoryPlaysRow.holds Try.pinned (OpenSpec.ofChange Rows.memoryPlaysSpec) :=
  OpenClaim.holds_of_wide 3 Try.f3 rfl rfl rfl rfl rfl rfl rfl ⟨rfl, rfl, rfl, rfl, rfl⟩ rfl rfl rfl rfl rfl (by kernel_rfl) Try.func3 (by kernel_rfl)
    (of_decide_eq_true (by kernel_rfl)) (by unfold Func.isWrapper; first | (rw [if_pos (by decide +kernel)]; kernel_rfl) | (rw [if_neg (by decide +kernel)]; exact ⟨rfl, rfl⟩))
    (fun os started H enc _ => lifted os started H enc)

/-- the statement -/
theorem proved : Rows.MemoryPlaysSaid := over
#print axioms proved
end Go.Proofs.Ytchljdcjlkfbfaa.memoryPlays
