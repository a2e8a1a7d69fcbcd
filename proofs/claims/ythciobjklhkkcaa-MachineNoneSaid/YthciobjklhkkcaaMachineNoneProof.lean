/-
  Law MachineNone: A fault behind the last step of a run that halts is none; with more budget such a run is the same.
  Conditions: none but those of the given row.
-/
import Derived.Test.YthciobjklhkkcaaRows
import Derived.Test.YthciobjklhkkcaaMachV
import Derived.WalkKit
import Derived.ProofKit
import Derived.OpenShut
import Derived.ShutString
import Derived.ChangeOld
import Derived.Below
import Derived.LoopN
import Derived.SizedLaws
namespace Go.Proofs.Ythciobjklhkkcaa.machineNone
open Go.ChangeShapes Go.WideShapes Go.ChangeAt Go.RowKit
open Go.ChangeMaps (open_string shut_string)
set_option linter.unusedVariables false
set_option linter.unusedSimpArgs false

theorem own : ownKnob Try.prog.godebug = none := by kernel_rfl
theorem laidOut : laidOutB Try.prog = true := by kernel_rfl

set_option maxHeartbeats 8000000 in
theorem walk (a0 : ByteArray) (a1 : ByteArray) (f2 : Mc.F) (a3 : Int) (a4 : Int) (w0 : a0.size ≤ maxLen) (w1 : a1.size ≤ maxLen) (w3 : (Lit.int .i64 a3).wf = true) (w4 : (Lit.int .i64 a4).wf = true) (w : World) :
    Calls Try.prog 3 #[.string a0, .string a1, .agg #[.int .i64 f2.kind, .int .i64 f2.step, .int .i64 f2.reg, .int .i64 f2.bit], .int .i64 a3, .int .i64 a4] w fun e w' => e = .returned (.bool true) ∧ Below w.heap.size w w' := by
  have HL := Lib.hid (fun w => lives_any w)
  have H0 : Hid (Below w.heap.size w (w.alloc (.cells #[.int .i64 f2.kind, .int .i64 f2.step, .int .i64 f2.reg, .int .i64 f2.bit] 23))) := Lib.hid ((Below.refl _ _).alloc (Nat.le_refl _) _)
  by_cases h3 : 0 ≤ a3 ∧ a3 ≤ 5000
  case neg =>
    have M3 := Lib.hid (fun w => most_any a3 w)
    have e3 : (decide (0 ≤ a3) && decide (a3 ≤ 5000)) = false := by simp; omega
    rw [e3] at M3
    go_enter Try.func3, Try.ntmps3
    go_wp2_with (first | (go_at_call 4; with_reducible refine (M3.out _).mono ?_; rintro e w' ⟨rfl, rfl⟩) | (go_at_call 5; refine (HL.out _).mono ?_; rintro e w1 ⟨rfl, hb1⟩; have HB1 := Lib.hid (H0.out.trans (hb1.mono H0.out.size)); clear hb1))
    go_ret
    exact ⟨rfl, HB1.out⟩
  by_cases h4 : 0 ≤ a4 ∧ a4 ≤ 5000
  case neg =>
    have M3 := Lib.hid (fun w => most_any a3 w)
    have e3 : (decide (0 ≤ a3) && decide (a3 ≤ 5000)) = true := by simp; omega
    rw [e3] at M3
    have M4 := Lib.hid (fun w => most_any a4 w)
    have e4 : (decide (0 ≤ a4) && decide (a4 ≤ 5000)) = false := by simp; omega
    rw [e4] at M4
    go_enter Try.func3, Try.ntmps3
    go_wp2_with (first | (go_at_call 4; with_reducible refine (M3.out _).mono ?_; rintro e w' ⟨rfl, rfl⟩) | (go_at_call 4; with_reducible refine (M4.out _).mono ?_; rintro e w' ⟨rfl, rfl⟩) | (go_at_call 5; refine (HL.out _).mono ?_; rintro e w1 ⟨rfl, hb1⟩; have HB1 := Lib.hid (H0.out.trans (hb1.mono H0.out.size)); clear hb1))
    go_ret
    exact ⟨rfl, HB1.out⟩
  have M3 := Lib.hid (fun w => most_any a3 w)
  have e3 : (decide (0 ≤ a3) && decide (a3 ≤ 5000)) = true := by simp; omega
  rw [e3] at M3
  have M4 := Lib.hid (fun w => most_any a4 w)
  have e4 : (decide (0 ≤ a4) && decide (a4 ≤ 5000)) = true := by simp; omega
  rw [e4] at M4
  clear e3 e4
  obtain ⟨b, rfl⟩ := Int.eq_ofNat_of_zero_le h3.1
  obtain ⟨c, rfl⟩ := Int.eq_ofNat_of_zero_le h4.1
  by_cases hn : Mc.newE a0 a1 = 0
  case neg =>
    obtain ⟨E, hE⟩ : ∃ E, Mc.newE a0 a1 = E := ⟨_, rfl⟩
    have C1 := Lib.hid (fun w => run_c a0 a1 Mc.none (b : Int) zeroR E w (by rw [Mc.run_new hn, hE]))
    have hE' : (E != 0) = true := by rw [← hE]; simpa using hn
    dsimp only [Mc.none] at C1
    clear hE hn h3 h4
    go_enter Try.func3, Try.ntmps3
    go_wp2_with (first | (go_at_call 4; with_reducible refine (M3.out _).mono ?_; rintro e w' ⟨rfl, rfl⟩) | (go_at_call 4; with_reducible refine (M4.out _).mono ?_; rintro e w' ⟨rfl, rfl⟩) | (go_at_call 6; with_reducible refine (C1.out _).mono ?_; rintro e w2 ⟨rfl, hb2⟩; have HB2 := Lib.hid ((H0.out.trans (hb2.mono H0.out.size)).alloc (H0.out.trans (hb2.mono H0.out.size)).size (.cells zeroR 27)); clear hb2) | (go_at_call 5; refine (HL.out _).mono ?_; rintro e w1 ⟨rfl, hb1⟩; have HB1 := Lib.hid (HB2.out.trans (hb1.mono HB2.out.size)); clear hb1))
    go_ret
    exact ⟨rfl, HB1.out⟩
  have hr := Mc.run_in (f := Mc.none) hn Mc.okF_none (b := b) (by omega)
  have hM := Lib.hid (@Mc.ran_more a0 a1 b c)
  have hT := Lib.hid (@Mc.ran_late a0 a1 b f2)
  have hR2 := Lib.hid (fun f (hf : Mc.okF f = true) d (hd : d ≤ 67108864) => @Mc.run_in a0 a1 f d hn hf hd)
  cases hd : (Mc.ran a0 a1 Mc.none b).1.done
  case false =>
    have hl := Mc.ran_full hd
    obtain ⟨cy, hh, X, Y, O, A, B, hr⟩ : ∃ cy hh X Y O A B, Mc.run a0 a1 Mc.none (b : Int) = (resC false (b : Int) cy hh X Y O A B, 0) := by
      rw [hr]; unfold Mc.resOf; rw [hd, hl]; exact ⟨_, _, _, _, _, _, _, rfl⟩
    have C1 := Lib.hid (fun w => run_c a0 a1 Mc.none (b : Int) _ 0 w hr)
    dsimp only [Mc.none] at C1
    clear hr hd hl hM hT hR2 hn h3 h4
    go_enter Try.func3, Try.ntmps3
    go_wp2_with (first | (go_at_call 4; with_reducible refine (M3.out _).mono ?_; rintro e w' ⟨rfl, rfl⟩) | (go_at_call 4; with_reducible refine (M4.out _).mono ?_; rintro e w' ⟨rfl, rfl⟩) | (go_at_call 6; with_reducible refine (C1.out _).mono ?_; rintro e w2 ⟨rfl, hb⟩; have HB2 := Lib.hid ((H0.out.trans (hb.mono H0.out.size)).alloc (H0.out.trans (hb.mono H0.out.size)).size (.cells (resC false (b : Int) cy hh X Y O A B) 27)); clear hb) | (go_at_call 5; refine (HL.out _).mono ?_; rintro e w1 ⟨rfl, hb1⟩; have HB1 := Lib.hid (HB2.out.trans (hb1.mono HB2.out.size)); clear hb1))
    go_ret
    exact ⟨rfl, HB1.out⟩
  obtain ⟨st, hst⟩ : ∃ st : Int, ((Mc.ran a0 a1 Mc.none b).2.1.length : Int) = st := ⟨_, rfl⟩
  obtain ⟨cy, hh, X, Y, O, A, B, hre⟩ : ∃ cy hh X Y O A B, Mc.resOf (Mc.sOf a0 a1) (Im.parse a0).1.h (Mc.ran a0 a1 Mc.none b).1 (Mc.ran a0 a1 Mc.none b).2.1 = resC true st cy hh X Y O A B := by
    unfold Mc.resOf; rw [hd, hst]; exact ⟨_, _, _, _, _, _, _, rfl⟩
  rw [hre] at hr
  have hr2 : Mc.run a0 a1 Mc.none ((b + c : Nat) : Int) = (resC true st cy hh X Y O A B, 0) := by
    rw [hR2.out Mc.none Mc.okF_none (b + c) (by omega), hM.out hd, hre]
  obtain ⟨d, hdd⟩ : ∃ d : Int, ((b + c : Nat) : Int) = d := ⟨_, rfl⟩
  rw [hdd] at hr2
  have hw : wrap64 ((b : Int) + (c : Int)) = d := by rw [← hdd]; unfold wrap64; omega
  have C1 := Lib.hid (fun w => run_c a0 a1 Mc.none (b : Int) _ 0 w hr)
  have C2 := Lib.hid (fun w => run_c a0 a1 Mc.none d _ 0 w hr2)
  dsimp only [Mc.none] at C1 C2
  have hT3 : Mc.okF f2 = true → st ≤ f2.step → Mc.run a0 a1 f2 (b : Int) = (resC true st cy hh X Y O A B, 0) := fun h1 h2 => by
    rw [hR2.out f2 h1 b (by omega), hT.out hd (by rw [hst]; exact h2), hre]
  clear hr hr2 hd hst hre hM hT hR2 hn h3 h4 hdd
  have HT3 := Lib.hid hT3
  clear hT3
  have B0 := H0
  have F0 : Hid (Blk (w.alloc (.cells #[.int .i64 f2.kind, .int .i64 f2.step, .int .i64 f2.reg, .int .i64 f2.bit] 23)) w.heap.size 23 4 #[.int .i64 f2.kind, .int .i64 f2.step, .int .i64 f2.reg, .int .i64 f2.bit]) := Lib.hid (Blk.new' _ _ _ _ rfl rfl)
  have CK := Lib.hid (fun w => mcheck9_any f2.kind f2.step f2.reg f2.bit w)
  by_cases hk : Mc.okF f2 = true
  case neg =>
    have hk' : Mc.okF ⟨f2.kind, f2.step, f2.reg, f2.bit⟩ = false := by simpa using hk
    rw [hk'] at CK
    simp only [Bool.false_eq_true, if_false] at CK
    clear hk hk'
    go_enter Try.func3, Try.ntmps3
    go_wp2_with (first | (go_at_call 4; with_reducible refine (M3.out _).mono ?_; rintro e w' ⟨rfl, rfl⟩) | (go_at_call 4; with_reducible refine (M4.out _).mono ?_; rintro e w' ⟨rfl, rfl⟩) | (go_at_call 6; with_reducible refine (C1.out _).mono ?_; rintro e u1 ⟨rfl, hb⟩; have hz := B0.out; have hb' := (hz.trans (hb.mono hz.size)); have B1 := Lib.hid (hb'.alloc hb'.size (.cells (resC true st cy hh X Y O A B) 27)); have F1 := Lib.hid ((F0.out.kept hb).alloc (.cells (resC true st cy hh X Y O A B) 27)); have A1 := Lib.hid (Blk.new' u1 27 (resC true st cy hh X Y O A B) u1.heap.size rfl rfl : Blk _ _ _ 9 _); clear hb hz hb') | (go_at_call 6; with_reducible refine (C2.out _).mono ?_; rintro e u2 ⟨rfl, hb⟩; have hz := B1.out; have hb' := (hz.trans (hb.mono hz.size)); have B2 := Lib.hid (hb'.alloc hb'.size (.cells (resC true st cy hh X Y O A B) 27)); have F2 := Lib.hid ((F1.out.kept hb).alloc (.cells (resC true st cy hh X Y O A B) 27)); have A2 := Lib.hid ((A1.out.kept hb).alloc (.cells (resC true st cy hh X Y O A B) 27)); clear hb hz hb') | ((with_reducible refine wpList_load_blkg resT A2.out ?_ ?_ ?_); exact rfl; exact rfl) | ((with_reducible refine wpList_load_blk faultT F2.out ?_ ?_); exact rfl) | (go_at_call 7; refine (CK.out _).mono ?_; rintro e u3 ⟨rfl, hb⟩; have hz := B2.out; have B3 := Lib.hid (hz.trans (hb.mono hz.size)); have F3 := Lib.hid (F2.out.kept hb); have A3 := Lib.hid (A2.out.kept hb); have cf := F3.out.cell 1; have ca := A3.out.cell 1; clear hb hz) | (go_at_call 5; refine (HL.out _).mono ?_; rintro e w1 ⟨rfl, hb1⟩; have HB1 := Lib.hid (B3.out.trans (hb1.mono B3.out.size)); clear hb1))
    go_ret
    exact ⟨rfl, HB1.out⟩
  have hk' : Mc.okF ⟨f2.kind, f2.step, f2.reg, f2.bit⟩ = true := hk
  rw [hk'] at CK
  simp only [if_true] at CK
  by_cases hs : st ≤ f2.step
  case neg =>
    have hs' : f2.step < st := by omega
    clear hk hk'
    go_enter Try.func3, Try.ntmps3
    go_wp2_with (first | (go_at_call 4; with_reducible refine (M3.out _).mono ?_; rintro e w' ⟨rfl, rfl⟩) | (go_at_call 4; with_reducible refine (M4.out _).mono ?_; rintro e w' ⟨rfl, rfl⟩) | (go_at_call 6; with_reducible refine (C1.out _).mono ?_; rintro e u1 ⟨rfl, hb⟩; have hz := B0.out; have hb' := (hz.trans (hb.mono hz.size)); have B1 := Lib.hid (hb'.alloc hb'.size (.cells (resC true st cy hh X Y O A B) 27)); have F1 := Lib.hid ((F0.out.kept hb).alloc (.cells (resC true st cy hh X Y O A B) 27)); have A1 := Lib.hid (Blk.new' u1 27 (resC true st cy hh X Y O A B) u1.heap.size rfl rfl : Blk _ _ _ 9 _); clear hb hz hb') | (go_at_call 6; with_reducible refine (C2.out _).mono ?_; rintro e u2 ⟨rfl, hb⟩; have hz := B1.out; have hb' := (hz.trans (hb.mono hz.size)); have B2 := Lib.hid (hb'.alloc hb'.size (.cells (resC true st cy hh X Y O A B) 27)); have F2 := Lib.hid ((F1.out.kept hb).alloc (.cells (resC true st cy hh X Y O A B) 27)); have A2 := Lib.hid ((A1.out.kept hb).alloc (.cells (resC true st cy hh X Y O A B) 27)); clear hb hz hb') | ((with_reducible refine wpList_load_blkg resT A2.out ?_ ?_ ?_); exact rfl; exact rfl) | ((with_reducible refine wpList_load_blk faultT F2.out ?_ ?_); exact rfl) | (go_at_call 7; refine (CK.out _).mono ?_; rintro e u3 ⟨rfl, hb⟩; have hz := B2.out; have B3 := Lib.hid (hz.trans (hb.mono hz.size)); have F3 := Lib.hid (F2.out.kept hb); have A3 := Lib.hid (A2.out.kept hb); have cf := F3.out.cell 1; have ca := A3.out.cell 1; clear hb hz) | (go_at_call 5; refine (HL.out _).mono ?_; rintro e w1 ⟨rfl, hb1⟩; have HB1 := Lib.hid (B3.out.trans (hb1.mono B3.out.size)); clear hb1))
    go_ret
    exact ⟨rfl, HB1.out⟩
  have C3 := Lib.hid (fun w => run_c a0 a1 f2 (b : Int) _ 0 w (HT3.out hk hs))
  have hs' : ¬ f2.step < st := by omega
  clear hk hk' HT3
  go_enter Try.func3, Try.ntmps3
  go_wp2_with (first | (go_at_call 4; with_reducible refine (M3.out _).mono ?_; rintro e w' ⟨rfl, rfl⟩) | (go_at_call 4; with_reducible refine (M4.out _).mono ?_; rintro e w' ⟨rfl, rfl⟩) | (go_at_call 6; with_reducible refine (C1.out _).mono ?_; rintro e u1 ⟨rfl, hb⟩; have hz := B0.out; have hb' := (hz.trans (hb.mono hz.size)); have B1 := Lib.hid (hb'.alloc hb'.size (.cells (resC true st cy hh X Y O A B) 27)); have F1 := Lib.hid ((F0.out.kept hb).alloc (.cells (resC true st cy hh X Y O A B) 27)); have A1 := Lib.hid (Blk.new' u1 27 (resC true st cy hh X Y O A B) u1.heap.size rfl rfl : Blk _ _ _ 9 _); clear hb hz hb') | (go_at_call 6; with_reducible refine (C2.out _).mono ?_; rintro e u2 ⟨rfl, hb⟩; have hz := B1.out; have hb' := (hz.trans (hb.mono hz.size)); have B2 := Lib.hid (hb'.alloc hb'.size (.cells (resC true st cy hh X Y O A B) 27)); have F2 := Lib.hid ((F1.out.kept hb).alloc (.cells (resC true st cy hh X Y O A B) 27)); have A2 := Lib.hid ((A1.out.kept hb).alloc (.cells (resC true st cy hh X Y O A B) 27)); clear hb hz hb') | ((with_reducible refine wpList_load_blkg resT A2.out ?_ ?_ ?_); exact rfl; exact rfl) | ((with_reducible refine wpList_load_blk faultT F2.out ?_ ?_); exact rfl) | (go_at_call 7; refine (CK.out _).mono ?_; rintro e u3 ⟨rfl, hb⟩; have hz := B2.out; have B3 := Lib.hid (hz.trans (hb.mono hz.size)); have F3 := Lib.hid (F2.out.kept hb); have A3 := Lib.hid (A2.out.kept hb); have cf := F3.out.cell 1; have ca := A3.out.cell 1; clear hb hz) | ((with_reducible refine wpList_load_blk faultT F3.out ?_ ?_); exact rfl) | (go_at_call 6; with_reducible refine (C3.out _).mono ?_; rintro e u4 ⟨rfl, hb⟩; have hz := B3.out; have hb' := (hz.trans (hb.mono hz.size)); have B4 := Lib.hid (hb'.alloc hb'.size (.cells (resC true st cy hh X Y O A B) 27)); have F4 := Lib.hid ((F3.out.kept hb).alloc (.cells (resC true st cy hh X Y O A B) 27)); have A4 := Lib.hid ((A3.out.kept hb).alloc (.cells (resC true st cy hh X Y O A B) 27)); clear hb hz hb') | ((with_reducible refine wpList_load_blkg resT A4.out ?_ ?_ ?_); exact rfl; exact rfl) | (go_at_call 5; refine (HL.out _).mono ?_; rintro e w1 ⟨rfl, hb1⟩; have HB1 := Lib.hid (B4.out.trans (hb1.mono B4.out.size)); clear hb1))
  go_ret
  exact ⟨rfl, HB1.out⟩

set_option maxRecDepth 100000 in
theorem lifted (os : Os) (started : os.Started) (H : Type) (enc : TypeId × Value → H) :
    ReturnsInHanded {} Try.checked os 3 .any (Rows.machineNoneSpec.pre6 enc Try.prog Try.f3 Rows.machineNoneRow.domain false) (Rows.machineNoneSpec.post enc Try.prog Try.f3 false true false false) := by
  refine returnsInHanded_of_change (C := Try.checked) own started (by kernel_rfl) Try.func3
    (ChangeSpec.witness6 (enc := enc) (C := Try.checked) false ⟨#[], #[.string ByteArray.empty, .string ByteArray.empty, .agg #[.int .i64 0, .int .i64 0, .int .i64 0, .int .i64 0], .int .i64 0, .int .i64 0], []⟩ 8 (by kernel_rfl) (by kernel_rfl) (by kernel_rfl) (by kernel_rfl)) ?_
  intro W base args ds gs before hval0 hW hcnd _
  have hval : ∀ (j : Nat) t v, Try.f3.params[j]? = some t → args[j]? = some v → Value.okWide Try.prog W .any base t v := hval0
  have hW' := hW
  obtain ⟨p, q, hA0, hV, rfl, hfz, hnd⟩ := hW
  have hA : DataW.TrodAll enc Try.prog W 0 (fun _ => true) true Try.f3.params.toList args.toList ds p := hA0
  rw [Try.params3] at hA hval
  obtain ⟨v0, vs0, d0, ds0, p0, q0, hargs, rfl, rfl, h0, r0⟩ := trodAll_cons hA
  obtain ⟨v1, vs1, d1, ds1, p1, q1, rfl, rfl, rfl, h1, r1⟩ := trodAll_cons r0
  obtain ⟨v2, vs2, d2, ds2, p2, q2, rfl, rfl, rfl, h2, r2⟩ := trodAll_cons r1
  obtain ⟨v3, vs3, d3, ds3, p3, q3, rfl, rfl, rfl, h3, r3⟩ := trodAll_cons r2
  obtain ⟨v4, vs4, d4, ds4, p4, q4, rfl, rfl, rfl, h4, r4⟩ := trodAll_cons r3
  obtain ⟨rfl, rfl, rfl⟩ := trodAll_nil r4
  obtain rfl : args = #[v0, v1, v2, v3, v4] := by cases args; simp_all
  obtain ⟨rfl, rfl⟩ := trodVars_none hV
  obtain ⟨a0, rfl, rfl, rfl, w0⟩ := open_string Try.underlying9 (hval 0 9 v0 rfl rfl) h0
  obtain ⟨a1, rfl, rfl, rfl, w1⟩ := open_string Try.underlying9 (hval 1 9 v1 rfl rfl) h1
  have k2 := h2
  have lt2 : ∀ x ∈ p2, x.block < W.heap.size := by obtain ⟨m, hm⟩ := k2; exact DataW.trod_lt m _ _ _ hm
  obtain ⟨f2, rfl⟩ := open_fault (hval 2 23 v2 rfl rfl) h2
  obtain ⟨a3, rfl, rfl, rfl, w3⟩ := open_int Try.underlying3 (hval 3 3 v3 rfl rfl) h3
  obtain ⟨a4, rfl, rfl, rfl, w4⟩ := open_int Try.underlying3 (hval 4 3 v4 rfl rfl) h4
  clear hA0 hval0
  refine (walk a0 a1 f2 a3 a4 w0 w1 w3 w4 W).mono fun e W' ⟨he, bel⟩ => ?_
  subst he
  exact ⟨_, rfl, _, _, _, [], _, [], hW', trodAll_mk1 (shut_bool Try.underlying4 _), (trodAll_cons_mk (shut_string Try.underlying9 w0) (trodAll_cons_mk (shut_string Try.underlying9 w1) (trodAll_cons_mk (Below.trod laidOut (by kernel_rfl) (of_decide_eq_true (by kernel_rfl)) k2 bel lt2) (trodAll_cons_mk (shut_int Try.underlying3 w3) (trodAll_cons_mk (shut_int Try.underlying3 w4) trodAll_mk0))))), rfl, bel.frame _, fun h => by cases h⟩

theorem over : Rows.machineNoneRow.holds Try.pinned (OpenSpec.ofChange Rows.machineNoneSpec) :=
  OpenClaim.holds_of_wide 3 Try.f3 rfl rfl rfl rfl rfl rfl rfl ⟨rfl, rfl, rfl, rfl, rfl⟩ rfl rfl rfl rfl rfl (by kernel_rfl) Try.func3 (by kernel_rfl)
    (of_decide_eq_true (by kernel_rfl)) (by unfold Func.isWrapper; first | (rw [if_pos (by decide +kernel)]; kernel_rfl) | (rw [if_neg (by decide +kernel)]; exact ⟨rfl, rfl⟩))
    (fun os started H enc _ => lifted os started H enc)

/-- the statement -/
theorem proved : Rows.MachineNoneSaid := over
#print axioms proved
end Go.Proofs.Ythciobjklhkkcaa.machineNone
