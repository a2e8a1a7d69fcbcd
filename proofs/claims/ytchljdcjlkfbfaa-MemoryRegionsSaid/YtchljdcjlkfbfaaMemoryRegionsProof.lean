/-
  Law MemoryRegions: behind any loads and stores each region has the bytes that the document says, and there is no other one.
  Conditions: none but those of the given row.
-/
import Derived.Test.YtchljdcjlkfbfaaRows
import Derived.Test.YtchljdcjlkfbfaaMryN
import Derived.WalkKit
import Derived.ProofKit
import Derived.OpenShut
import Derived.ShutString
import Derived.ChangeOld
import Derived.Below
import Derived.LoopN
import Derived.SizedLaws
namespace Go.Proofs.Ytchljdcjlkfbfaa.memoryRegions
open Go.ChangeShapes Go.WideShapes Go.ChangeAt Go.RowKit
open Go.ChangeMaps (open_string shut_string)
set_option linter.unusedVariables false

theorem own : ownKnob Try.prog.godebug = none := by kernel_rfl
theorem laidOut : laidOutB Try.prog = true := by kernel_rfl

set_option linter.unusedSimpArgs false
set_option maxHeartbeats 4000000 in
set_option maxRecDepth 100000 in
theorem few_any (s : My.St) (p : Option Addr) (n c : Nat) (w : World) : ∃ F : Bool, (F = true → n ≤ 60) ∧
    Calls Try.prog 12 #[.agg #[.int .i64 s.i, .int .i64 s.o, .int .i64 s.r, .string s.fl, .string s.inp], .slice p n c] w fun e w' => e = .returned (.bool F) ∧ Below w.heap.size w w' := by
  obtain ⟨x0, x1, x2, x3, x4⟩ := st_new w s.i s.o s.r s.fl s.inp 25
  generalize s.i = i at *
  generalize s.o = o at *
  generalize s.r = r at *
  generalize s.fl = fl at *
  generalize s.inp = inp at *
  by_cases q0 : (n : Int) ≤ 60
  case neg =>
    refine ⟨false, (fun h => by cases h), ?_⟩
    go_enter Try.func12, Try.ntmps12
    go_wp2
    go_ret
    exact ⟨rfl, (Below.refl _ _).alloc (Nat.le_refl _) _⟩
  by_cases q1 : (fl.size : Int) ≤ 2000
  case neg =>
    refine ⟨false, (fun h => by cases h), ?_⟩
    go_enter Try.func12, Try.ntmps12
    go_wp2
    go_ret
    exact ⟨rfl, (Below.refl _ _).alloc (Nat.le_refl _) _⟩
  by_cases q2 : i ≤ 2000
  case neg =>
    refine ⟨false, (fun h => by cases h), ?_⟩
    go_enter Try.func12, Try.ntmps12
    go_wp2
    go_ret
    exact ⟨rfl, (Below.refl _ _).alloc (Nat.le_refl _) _⟩
  by_cases q3 : o ≤ 2000
  case neg =>
    refine ⟨false, (fun h => by cases h), ?_⟩
    go_enter Try.func12, Try.ntmps12
    go_wp2
    go_ret
    exact ⟨rfl, (Below.refl _ _).alloc (Nat.le_refl _) _⟩
  by_cases q4 : r ≤ 2000
  case neg =>
    refine ⟨false, (fun h => by cases h), ?_⟩
    go_enter Try.func12, Try.ntmps12
    go_wp2
    go_ret
    exact ⟨rfl, (Below.refl _ _).alloc (Nat.le_refl _) _⟩
  refine ⟨true, (fun _ => by omega), ?_⟩
  go_enter Try.func12, Try.ntmps12
  go_wp2
  go_ret
  exact ⟨rfl, (Below.refl _ _).alloc (Nat.le_refl _) _⟩
set_option maxHeartbeats 8000000 in set_option maxRecDepth 100000 in
theorem walk (s0 : My.St) (p1v : Option Addr) (c1v : Nat) (L1 : List My.Step) (a2 : Int) (wr0 : (Lit.int .i64 s0.r).wf = true) (w2 : (Lit.int .i64 a2).wf = true) (w : World) (t1 : SliceC stC 4 w (.slice p1v L1.length c1v) L1) (f1 : My.wfL L1) (k1c : L1.length ≤ c1v) :
    Calls Try.prog 4 #[.agg #[.int .i64 s0.i, .int .i64 s0.o, .int .i64 s0.r, .string s0.fl, .string s0.inp], .slice p1v L1.length c1v, .int .i64 a2] w fun e w' => e = .returned (.bool true) ∧ Below w.heap.size w w' := by
  have LV : Hid (∀ w : World, Calls Try.prog 7 #[] w fun e w' => e = .returned (.bool true) ∧ Below w.heap.size w w') := Lib.hid lives_any
  have ST := Lib.hid (st_new w s0.i s0.o s0.r s0.fl s0.inp 25)
  have RN : Hid (∀ w : World, Calls Try.prog 9 #[.agg #[.int .i64 s0.i, .int .i64 s0.o, .int .i64 s0.r, .string s0.fl, .string s0.inp]] w fun e w' => e = .returned (.int .i64 (My.err s0)) ∧ Below w.heap.size w w') := Lib.hid fun w => rnew_any s0 w (Lib.hid wr0)
  have TS := Lib.hid t1
  have FS := Lib.hid f1
  have WR := Lib.hid wr0
  clear t1 f1 wr0
  obtain ⟨n, hn⟩ : ∃ n, L1.length = n := ⟨_, rfl⟩
  have HNL := Lib.hid hn
  rw [hn] at TS k1c ⊢
  clear hn
  obtain ⟨F, hF, hFW⟩ := few_any s0 p1v n c1v (w.alloc (.cells #[.int .i64 s0.i, .int .i64 s0.o, .int .i64 s0.r, .string s0.fl, .string s0.inp] 25))
  have FW : Hid (∀ _ : Unit, _) := Lib.hid fun _ => hFW
  have S0 := ST.out
  obtain ⟨x0, x1, x2, x3, x4⟩ := S0
  clear hFW
  cases F with
  | false =>
    clear hF RN WR
    generalize s0.i = i at *
    generalize s0.o = o at *
    generalize s0.r = r at *
    generalize s0.fl = fl at *
    generalize s0.inp = inp at *
    go_enter Try.func4, Try.ntmps4
    go_wp2_with (first | (go_at_call 12; refine (FW.out ()).mono ?_; rintro e w0 ⟨rfl, hb0⟩; have HT := Lib.hid (ST.out.kept hb0); have xs := HT.out; obtain ⟨x0, x1, x2, x3, x4⟩ := xs; have HB := Lib.hid (((Below.refl _ _).alloc (Nat.le_refl _) _).trans (hb0.mono (by simp))); clear hb0) | (go_at_call 7; refine (LV.out _).mono ?_; rintro e w9 ⟨rfl, hb9⟩; replace HB := Lib.hid (HB.out.trans (hb9.mono HB.out.size)); clear hb9))
    go_ret
    exact ⟨rfl, HB.out⟩
  | true =>
    have h60 : n ≤ 60 := hF rfl
    clear hF
    by_cases hg : My.good s0
    · have E0 : My.err s0 = 0 := My.err_0.2 hg
      rw [E0] at RN
      have NB : Hid (∀ w : World, Calls Try.prog 8 #[.agg #[.int .i64 s0.i, .int .i64 s0.o, .int .i64 s0.r], .string s0.fl, .string s0.inp] w fun e w' => ∃ l : My.Loc, e = .returned (.tuple #[.pointer (some ⟨l.p, 0, none⟩), .int .i64 0]) ∧ (MemAt w' l s0 (My.first s0) ∧ (∀ b, l.own b → w.heap.size ≤ b) ∧ Below w.heap.size w w')) := Lib.hid fun w => new_ok s0 w (Lib.hid hg)
      have PL : Hid (∀ (l : My.Loc) (w' : World), Below w.heap.size w w' → (∀ b, l.own b → w.heap.size ≤ b) → MemAt w' l s0 (My.first s0) → Calls Try.prog 10 #[.pointer (some ⟨l.p, 0, none⟩), .slice p1v n c1v] w' fun e w'' => ∃ v, e = .returned v ∧ SliceC ansC 2 w'' v (My.answers s0 L1 n) ∧ MemAt w'' l s0 (My.after s0 L1) ∧ Rest l.own w' w'') := Lib.hid fun l w' hb ho hm => play_any l s0 p1v n c1v L1 w' HNL (by omega) (Lib.hid fun w'' hr => TS.out.kept (hb.trans (hr.below hb.size ho))) FS (Lib.hid hg) (Lib.hid hm)
      have RR : Hid (∀ (k : Nat) (w' : World), k < 7 → Below w.heap.size w w' → Calls Try.prog 14 #[.agg #[.int .i64 s0.i, .int .i64 s0.o, .int .i64 s0.r, .string s0.fl, .string s0.inp], .slice p1v n c1v, .int .i64 (k : Nat)] w' fun e w'' => e = .returned (.string ⟨(My.row (My.after s0 L1) (My.bs s0 k) (My.ln s0 k)).toArray⟩) ∧ Below w'.heap.size w' w'') := Lib.hid fun k w' hk hb => rregion_any s0 p1v n c1v L1 k w' HNL (by omega) (Lib.hid (TS.out.kept hb)) FS (Lib.hid hg) WR hk
      have MR : Hid (∀ (k : Nat) (l : My.Loc) (w' : World), k < 7 → MemAt w' l s0 (My.after s0 L1) → Calls Try.prog 13 #[.pointer (some ⟨l.p, 0, none⟩), .int .i64 (k : Nat)] w' fun e w'' => e = .returned (.tuple #[.string ⟨(My.row (My.after s0 L1) (My.bs s0 k) (My.ln s0 k)).toArray⟩, .int .i64 0]) ∧ Below w'.heap.size w' w'') := Lib.hid fun k l w' hk hm => region_ok l s0 (My.after s0 L1) k w' (Lib.hid hm) hk
      have MN : Hid (∀ (l : My.Loc) (w' : World), (a2 < 0 ∨ 7 ≤ a2) → MemAt w' l s0 (My.after s0 L1) → Calls Try.prog 13 #[.pointer (some ⟨l.p, 0, none⟩), .int .i64 a2] w' fun e w'' => e = .returned (.tuple #[.string ByteArray.empty, .int .i64 2]) ∧ Below w'.heap.size w' w'') := Lib.hid fun l w' hk hm => region_no l s0 (My.after s0 L1) a2 w' (Lib.hid hm) hk
      generalize My.answers s0 L1 n = AN at *
      generalize My.first s0 = M0 at *
      generalize My.after s0 L1 = M1 at *
      clear E0 WR
      have hes : (ByteArray.empty.toList == (⟨#[]⟩ : ByteArray).toList) = true := by decide +kernel
      by_cases hk : a2 < 0 ∨ 6 < a2
      · have hk2 : a2 < 0 ∨ 7 ≤ a2 := by omega
        have HK := Lib.hid hk2
        clear hk2
        generalize s0.i = i at *
        generalize s0.o = o at *
        generalize s0.r = r at *
        generalize s0.fl = fl at *
        generalize s0.inp = inp at *
        by_cases hk0 : a2 < 0
        · clear hk
          go_enter Try.func4, Try.ntmps4
          go_wp2_with (first | (go_at_call 12; refine (FW.out ()).mono ?_; rintro e w0 ⟨rfl, hb0⟩; have HT := Lib.hid (ST.out.kept hb0); have xs := HT.out; obtain ⟨x0, x1, x2, x3, x4⟩ := xs; have HB := Lib.hid (((Below.refl _ _).alloc (Nat.le_refl _) _).trans (hb0.mono (by simp))); have HZ0 : Hid (w.heap.size + 1 ≤ w0.heap.size) := Lib.hid (by have := hb0.size; simp at this; omega); clear hb0) | (go_at_call 8; refine (NB.out _).mono ?_; rintro e w1 ⟨l, rfl, hm1, ho1, hb1⟩; have HO := Lib.hid (fun b (h : l.own b) => (Nat.le_trans HZ0.out (ho1 b h) : w.heap.size + 1 ≤ b)); replace HT := Lib.hid (HT.out.kept hb1); clear x0 x1 x2 x3 x4; have xs := HT.out; obtain ⟨x0, x1, x2, x3, x4⟩ := xs; have HM := Lib.hid hm1; replace HB := Lib.hid (HB.out.trans (hb1.mono HB.out.size)); clear hb1 hm1 ho1) | (go_at_call 9; refine (RN.out _).mono ?_; rintro e w2 ⟨rfl, hb2⟩; replace HT := Lib.hid (HT.out.kept hb2); (try replace HM := Lib.hid (HM.out.kept hb2)); clear x0 x1 x2 x3 x4; have xs := HT.out; obtain ⟨x0, x1, x2, x3, x4⟩ := xs; replace HB := Lib.hid (HB.out.trans (hb2.mono HB.out.size)); clear hb2) | (go_at_call 10; refine (PL.out l _ HB.out (fun b hb => by have := HO.out b hb; omega) HM.out).mono ?_; rintro e w4 ⟨va, rfl, -, hm4, hr4⟩; replace HT := Lib.hid (HT.out.kept' (hr4.below (B := w.heap.size + 1) (by have := cell_lt HT.out.1; exact this) HO.out) (Nat.lt_succ_self _)); clear x0 x1 x2 x3 x4; have xs := HT.out; obtain ⟨x0, x1, x2, x3, x4⟩ := xs; replace HM := Lib.hid hm4; replace HB := Lib.hid (HB.out.trans (hr4.below HB.out.size (fun b hb => by have := HO.out b hb; omega))); clear hm4 hr4) | (go_at_call 13; refine (MN.out l _ HK.out HM.out).mono ?_; rintro e w5 ⟨rfl, hb5⟩; replace HM := Lib.hid (HM.out.kept hb5); replace HT := Lib.hid (HT.out.kept hb5); clear x0 x1 x2 x3 x4; have xs := HT.out; obtain ⟨x0, x1, x2, x3, x4⟩ := xs; replace HB := Lib.hid (HB.out.trans (hb5.mono HB.out.size)); clear hb5) | (go_at_call 7; refine (LV.out _).mono ?_; rintro e w9 ⟨rfl, hb9⟩; replace HB := Lib.hid (HB.out.trans (hb9.mono HB.out.size)); clear hb9))
          go_ret
          exact ⟨rfl, HB.out⟩
        · have hk6 : 6 < a2 := by omega
          clear hk
          go_enter Try.func4, Try.ntmps4
          go_wp2_with (first | (go_at_call 12; refine (FW.out ()).mono ?_; rintro e w0 ⟨rfl, hb0⟩; have HT := Lib.hid (ST.out.kept hb0); have xs := HT.out; obtain ⟨x0, x1, x2, x3, x4⟩ := xs; have HB := Lib.hid (((Below.refl _ _).alloc (Nat.le_refl _) _).trans (hb0.mono (by simp))); have HZ0 : Hid (w.heap.size + 1 ≤ w0.heap.size) := Lib.hid (by have := hb0.size; simp at this; omega); clear hb0) | (go_at_call 8; refine (NB.out _).mono ?_; rintro e w1 ⟨l, rfl, hm1, ho1, hb1⟩; have HO := Lib.hid (fun b (h : l.own b) => (Nat.le_trans HZ0.out (ho1 b h) : w.heap.size + 1 ≤ b)); replace HT := Lib.hid (HT.out.kept hb1); clear x0 x1 x2 x3 x4; have xs := HT.out; obtain ⟨x0, x1, x2, x3, x4⟩ := xs; have HM := Lib.hid hm1; replace HB := Lib.hid (HB.out.trans (hb1.mono HB.out.size)); clear hb1 hm1 ho1) | (go_at_call 9; refine (RN.out _).mono ?_; rintro e w2 ⟨rfl, hb2⟩; replace HT := Lib.hid (HT.out.kept hb2); (try replace HM := Lib.hid (HM.out.kept hb2)); clear x0 x1 x2 x3 x4; have xs := HT.out; obtain ⟨x0, x1, x2, x3, x4⟩ := xs; replace HB := Lib.hid (HB.out.trans (hb2.mono HB.out.size)); clear hb2) | (go_at_call 10; refine (PL.out l _ HB.out (fun b hb => by have := HO.out b hb; omega) HM.out).mono ?_; rintro e w4 ⟨va, rfl, -, hm4, hr4⟩; replace HT := Lib.hid (HT.out.kept' (hr4.below (B := w.heap.size + 1) (by have := cell_lt HT.out.1; exact this) HO.out) (Nat.lt_succ_self _)); clear x0 x1 x2 x3 x4; have xs := HT.out; obtain ⟨x0, x1, x2, x3, x4⟩ := xs; replace HM := Lib.hid hm4; replace HB := Lib.hid (HB.out.trans (hr4.below HB.out.size (fun b hb => by have := HO.out b hb; omega))); clear hm4 hr4) | (go_at_call 13; refine (MN.out l _ HK.out HM.out).mono ?_; rintro e w5 ⟨rfl, hb5⟩; replace HM := Lib.hid (HM.out.kept hb5); replace HT := Lib.hid (HT.out.kept hb5); clear x0 x1 x2 x3 x4; have xs := HT.out; obtain ⟨x0, x1, x2, x3, x4⟩ := xs; replace HB := Lib.hid (HB.out.trans (hb5.mono HB.out.size)); clear hb5) | (go_at_call 7; refine (LV.out _).mono ?_; rintro e w9 ⟨rfl, hb9⟩; replace HB := Lib.hid (HB.out.trans (hb9.mono HB.out.size)); clear hb9))
          go_ret
          exact ⟨rfl, HB.out⟩
      · obtain ⟨k, rfl⟩ : ∃ k : Nat, a2 = (k : Int) := ⟨a2.toNat, by omega⟩
        have hk7 : k < 7 := by omega
        have hk0 : ¬ (k : Int) < 0 := by omega
        have hk6 : ¬ (6 : Int) < (k : Int) := by omega
        have MK := Lib.hid (fun l w' => MR.out k l w' hk7)
        have RK := Lib.hid (fun w' => RR.out k w' hk7)
        generalize (⟨(My.row M1 (My.bs s0 k) (My.ln s0 k)).toArray⟩ : ByteArray) = ST7 at MK RK
        clear hk
        generalize s0.i = i at *
        generalize s0.o = o at *
        generalize s0.r = r at *
        generalize s0.fl = fl at *
        generalize s0.inp = inp at *
        go_enter Try.func4, Try.ntmps4
        go_wp2_with (first | (go_at_call 12; refine (FW.out ()).mono ?_; rintro e w0 ⟨rfl, hb0⟩; have HT := Lib.hid (ST.out.kept hb0); have xs := HT.out; obtain ⟨x0, x1, x2, x3, x4⟩ := xs; have HB := Lib.hid (((Below.refl _ _).alloc (Nat.le_refl _) _).trans (hb0.mono (by simp))); have HZ0 : Hid (w.heap.size + 1 ≤ w0.heap.size) := Lib.hid (by have := hb0.size; simp at this; omega); clear hb0) | (go_at_call 8; refine (NB.out _).mono ?_; rintro e w1 ⟨l, rfl, hm1, ho1, hb1⟩; have HO := Lib.hid (fun b (h : l.own b) => (Nat.le_trans HZ0.out (ho1 b h) : w.heap.size + 1 ≤ b)); replace HT := Lib.hid (HT.out.kept hb1); clear x0 x1 x2 x3 x4; have xs := HT.out; obtain ⟨x0, x1, x2, x3, x4⟩ := xs; have HM := Lib.hid hm1; replace HB := Lib.hid (HB.out.trans (hb1.mono HB.out.size)); clear hb1 hm1 ho1) | (go_at_call 9; refine (RN.out _).mono ?_; rintro e w2 ⟨rfl, hb2⟩; replace HT := Lib.hid (HT.out.kept hb2); (try replace HM := Lib.hid (HM.out.kept hb2)); clear x0 x1 x2 x3 x4; have xs := HT.out; obtain ⟨x0, x1, x2, x3, x4⟩ := xs; replace HB := Lib.hid (HB.out.trans (hb2.mono HB.out.size)); clear hb2) | (go_at_call 10; refine (PL.out l _ HB.out (fun b hb => by have := HO.out b hb; omega) HM.out).mono ?_; rintro e w4 ⟨va, rfl, -, hm4, hr4⟩; replace HT := Lib.hid (HT.out.kept' (hr4.below (B := w.heap.size + 1) (by have := cell_lt HT.out.1; exact this) HO.out) (Nat.lt_succ_self _)); clear x0 x1 x2 x3 x4; have xs := HT.out; obtain ⟨x0, x1, x2, x3, x4⟩ := xs; replace HM := Lib.hid hm4; replace HB := Lib.hid (HB.out.trans (hr4.below HB.out.size (fun b hb => by have := HO.out b hb; omega))); clear hm4 hr4) | (go_at_call 13; refine (MK.out l _ HM.out).mono ?_; rintro e w5 ⟨rfl, hb5⟩; replace HM := Lib.hid (HM.out.kept hb5); replace HT := Lib.hid (HT.out.kept hb5); clear x0 x1 x2 x3 x4; have xs := HT.out; obtain ⟨x0, x1, x2, x3, x4⟩ := xs; replace HB := Lib.hid (HB.out.trans (hb5.mono HB.out.size)); clear hb5) | (go_at_call 14; refine (RK.out _ HB.out).mono ?_; rintro e w6 ⟨rfl, hb6⟩; replace HB := Lib.hid (HB.out.trans (hb6.mono HB.out.size)); clear hb6) | (go_at_call 7; refine (LV.out _).mono ?_; rintro e w9 ⟨rfl, hb9⟩; replace HB := Lib.hid (HB.out.trans (hb9.mono HB.out.size)); clear hb9))
        go_ret
        exact ⟨rfl, HB.out⟩
    · have hE : ¬ My.err s0 = 0 := fun h => hg (My.err_0.1 h)
      have NB : Hid (∀ w : World, Calls Try.prog 8 #[.agg #[.int .i64 s0.i, .int .i64 s0.o, .int .i64 s0.r], .string s0.fl, .string s0.inp] w fun e w' => e = .returned (.tuple #[.pointer none, .int .i64 (My.err s0)]) ∧ Below w.heap.size w w') := Lib.hid fun w => new_bad s0 w hg
      generalize My.err s0 = E at *
      have hEb : (E != 0) = true := by simpa using hE
      clear hg WR
      generalize s0.i = i at *
      generalize s0.o = o at *
      generalize s0.r = r at *
      generalize s0.fl = fl at *
      generalize s0.inp = inp at *
      go_enter Try.func4, Try.ntmps4
      go_wp2_with (first | (go_at_call 12; refine (FW.out ()).mono ?_; rintro e w0 ⟨rfl, hb0⟩; have HT := Lib.hid (ST.out.kept hb0); have xs := HT.out; obtain ⟨x0, x1, x2, x3, x4⟩ := xs; have HB := Lib.hid (((Below.refl _ _).alloc (Nat.le_refl _) _).trans (hb0.mono (by simp))); clear hb0) | (go_at_call 8; refine (NB.out _).mono ?_; rintro e w1 ⟨rfl, hb1⟩; replace HT := Lib.hid (HT.out.kept hb1); clear x0 x1 x2 x3 x4; have xs := HT.out; obtain ⟨x0, x1, x2, x3, x4⟩ := xs; replace HB := Lib.hid (HB.out.trans (hb1.mono HB.out.size)); clear hb1) | (go_at_call 9; refine (RN.out _).mono ?_; rintro e w2 ⟨rfl, hb2⟩; replace HT := Lib.hid (HT.out.kept hb2); (try replace HM := Lib.hid (HM.out.kept hb2)); clear x0 x1 x2 x3 x4; have xs := HT.out; obtain ⟨x0, x1, x2, x3, x4⟩ := xs; replace HB := Lib.hid (HB.out.trans (hb2.mono HB.out.size)); clear hb2) | (go_at_call 7; refine (LV.out _).mono ?_; rintro e w9 ⟨rfl, hb9⟩; replace HB := Lib.hid (HB.out.trans (hb9.mono HB.out.size)); clear hb9))
      go_ret
      exact ⟨rfl, HB.out⟩

set_option maxRecDepth 100000 in
theorem lifted (os : Os) (started : os.Started) (H : Type) (enc : TypeId × Value → H) :
    ReturnsInHanded {} Try.checked os 4 .any (Rows.memoryRegionsSpec.pre6 enc Try.prog Try.f4 Rows.memoryRegionsRow.domain false) (Rows.memoryRegionsSpec.post enc Try.prog Try.f4 false true false false) := by
  refine returnsInHanded_of_change (C := Try.checked) own started (by kernel_rfl) Try.func4
    (ChangeSpec.witness6 (enc := enc) (C := Try.checked) false ⟨#[], #[.agg #[.int .i64 0, .int .i64 0, .int .i64 0, .string ByteArray.empty, .string ByteArray.empty], .slice none 0 0, .int .i64 0], []⟩ 8 (by kernel_rfl) (by kernel_rfl) (by kernel_rfl) (by kernel_rfl)) ?_
  intro W base args ds gs before hval0 hW hcnd _
  have hval : ∀ (j : Nat) t v, Try.f4.params[j]? = some t → args[j]? = some v → Value.okWide Try.prog W .any base t v := hval0
  have hW' := hW
  obtain ⟨p, q, hA0, hV, rfl, hfz, hnd⟩ := hW
  have hA : DataW.TrodAll enc Try.prog W 0 (fun _ => true) true Try.f4.params.toList args.toList ds p := hA0
  rw [Try.params4] at hA hval
  obtain ⟨v0, vs0, d0, ds0, p0, q0, hargs, rfl, rfl, h0, r0⟩ := trodAll_cons hA
  obtain ⟨v1, vs1, d1, ds1, p1, q1, rfl, rfl, rfl, h1, r1⟩ := trodAll_cons r0
  obtain ⟨v2, vs2, d2, ds2, p2, q2, rfl, rfl, rfl, h2, r2⟩ := trodAll_cons r1
  obtain ⟨rfl, rfl, rfl⟩ := trodAll_nil r2
  obtain rfl : args = #[v0, v1, v2] := by cases args; simp_all
  obtain ⟨rfl, rfl⟩ := trodVars_none hV
  have k0 := h0
  have lt0 : ∀ x ∈ p0, x.block < W.heap.size := by obtain ⟨m, hm⟩ := k0; exact DataW.trod_lt m _ _ _ hm
  obtain ⟨s0, rfl, wr0⟩ := open_start (hval 0 25 v0 rfl rfl) h0
  have k1 := h1
  have lt1 : ∀ x ∈ p1, x.block < W.heap.size := by obtain ⟨m, hm⟩ := k1; exact DataW.trod_lt m _ _ _ hm
  obtain ⟨L1, p1v, c1v, rfl, t1, f1, k1c⟩ := open_steps (hval 1 26 v1 rfl rfl) h1
  obtain ⟨a2, rfl, rfl, rfl, w2⟩ := open_int Try.underlying3 (hval 2 3 v2 rfl rfl) h2
  clear hA0 hval0
  refine (walk s0 p1v c1v L1 a2 wr0 w2 W t1 f1 k1c).mono fun e W' ⟨he, bel⟩ => ?_
  subst he
  exact ⟨_, rfl, _, _, _, [], _, [], hW', trodAll_mk1 (shut_bool Try.underlying4 _), (trodAll_cons_mk (Below.trod laidOut (by kernel_rfl) (of_decide_eq_true (by kernel_rfl)) k0 bel lt0) (trodAll_cons_mk (Below.trod laidOut (by kernel_rfl) (of_decide_eq_true (by kernel_rfl)) k1 bel lt1) (trodAll_cons_mk (shut_int Try.underlying3 w2) trodAll_mk0))), rfl, bel.frame _, fun h => by cases h⟩

theorem over : Rows.memoryRegionsRow.holds Try.pinned (OpenSpec.ofChange Rows.memoryRegionsSpec) :=
  OpenClaim.holds_of_wide 4 Try.f4 rfl rfl rfl rfl rfl rfl rfl ⟨rfl, rfl, rfl, rfl, rfl⟩ rfl rfl rfl rfl rfl (by kernel_rfl) Try.func4 (by kernel_rfl)
    (of_decide_eq_true (by kernel_rfl)) (by unfold Func.isWrapper; first | (rw [if_pos (by decide +kernel)]; kernel_rfl) | (rw [if_neg (by decide +kernel)]; exact ⟨rfl, rfl⟩))
    (fun os started H enc _ => lifted os started H enc)

/-- the statement -/
theorem proved : Rows.MemoryRegionsSaid := over
#print axioms proved
end Go.Proofs.Ytchljdcjlkfbfaa.memoryRegions
