/-
  Law MemoryFlash: whatever is done, the flash and the length of the input are as they were, and the flash cannot be stored to.
  Conditions: none but those of the given row.
-/
import Derived.Test.YtchljdcjlkfbfaaRows
import Derived.Test.YtchljdcjlkfbfaaMryN
import Derived.WalkKit
import Derived.ProofKit
import Derived.OpenShut
import Derived.ShutString
import Derived.ChangeOld
import Derived.Below
import Derived.LoopN
import Derived.SizedLaws
namespace Go.Proofs.Ytchljdcjlkfbfaa.memoryFlash
open Go.ChangeShapes Go.WideShapes Go.ChangeAt Go.RowKit
open Go.ChangeMaps (open_string shut_string)
set_option linter.unusedVariables false

theorem own : ownKnob Try.prog.godebug = none := by kernel_rfl
theorem laidOut : laidOutB Try.prog = true := by kernel_rfl

set_option linter.unusedSimpArgs false
theorem My.flash_step {s : My.St} (hg : My.good s) (M : Int → UInt8) (x : My.Step) : My.row (My.does s M x) (My.bs s 0) (My.ln s 0) = My.row M (My.bs s 0) (My.ln s 0) := by
  unfold My.does
  split
  · rename_i h
    obtain ⟨k, o, m, hk, hF, ha, hn, h4, ho, hw, hp, hq⟩ := My.found hg h.2
    rw [ha, hn]
    exact My.put_far hg M hk (by decide) (by have := hw rfl; omega) ho x.v
  · rfl
theorem My.flash_kept {s : My.St} (hg : My.good s) (L : List My.Step) : My.row (My.after s L) (My.bs s 0) (My.ln s 0) = s.fl.data.toList := by
  have h : ∀ (L : List My.Step) (M : Int → UInt8), My.row (L.foldl (My.does s) M) (My.bs s 0) (My.ln s 0) = My.row M (My.bs s 0) (My.ln s 0) := by
    intro L
    induction L with
    | nil => intro M; rfl
    | cons x L ih => intro M; rw [List.foldl_cons, ih, My.flash_step hg]
  unfold My.after
  rw [h, My.first_0]
theorem My.flash_shut {s : My.St} (hg : My.good s) {a : Int} (h0 : 0 ≤ a) (h1 : a < 262144) : My.fe s a 1 true = 8 := by
  have hne : ¬ My.fe s a 1 true = 0 := fun h => by
    obtain ⟨k, o, m, hk, hF, ha, hn, h4, ho, hw, hp, hq⟩ := My.found hg h
    have := My.bs_hi (s := s) hk (hw rfl)
    omega
  unfold My.fe Mm.find at hne ⊢
  rw [if_neg (by omega), if_neg (by simp)] at hne ⊢
  rcases Mm.look_two a 1 true (My.sev s) 0 with h | h
  · exact absurd h hne
  · rw [h]
theorem My.arr_fl (b : ByteArray) : (⟨b.data.toList.toArray⟩ : ByteArray) = b := by
  apply ByteArray.ext
  simp
set_option maxHeartbeats 8000000 in set_option maxRecDepth 100000 in
theorem walk (s0 : My.St) (p1v : Option Addr) (c1v : Nat) (L1 : List My.Step) (a2 : Int) (wr0 : (Lit.int .i64 s0.r).wf = true) (w2 : (Lit.int .i64 a2).wf = true) (w : World) (t1 : SliceC stC 4 w (.slice p1v L1.length c1v) L1) (f1 : My.wfL L1) (k1c : L1.length ≤ c1v) :
    Calls Try.prog 6 #[.agg #[.int .i64 s0.i, .int .i64 s0.o, .int .i64 s0.r, .string s0.fl, .string s0.inp], .slice p1v L1.length c1v, .int .i64 a2] w fun e w' => e = .returned (.bool true) ∧ Below w.heap.size w w' := by
  have LV : Hid (∀ w : World, Calls Try.prog 7 #[] w fun e w' => e = .returned (.bool true) ∧ Below w.heap.size w w') := Lib.hid lives_any
  have ST := Lib.hid (st_new w s0.i s0.o s0.r s0.fl s0.inp 25)
  have S0 := ST.out
  obtain ⟨x0, x1, x2, x3, x4⟩ := S0
  have TS := Lib.hid t1
  have FS := Lib.hid f1
  have WR := Lib.hid wr0
  clear t1 f1 wr0
  obtain ⟨n, hn⟩ : ∃ n, L1.length = n := ⟨_, rfl⟩
  have HNL := Lib.hid hn
  rw [hn] at TS k1c ⊢
  clear hn
  by_cases h60 : 60 < n
  · have h60' : (60 : Int) < (n : Int) := by omega
    clear WR
    generalize s0.i = i at *
    generalize s0.o = o at *
    generalize s0.r = r at *
    generalize s0.fl = fl at *
    generalize s0.inp = inp at *
    go_enter Try.func6, Try.ntmps6
    go_wp2_with (go_at_call 7; refine (LV.out _).mono ?_; rintro e w9 ⟨rfl, hb9⟩; have HB := Lib.hid (((Below.refl _ _).alloc (Nat.le_refl _) _).trans (hb9.mono (by simp))); clear hb9)
    go_ret
    exact ⟨rfl, HB.out⟩
  · have h60' : ¬ (60 : Int) < (n : Int) := by omega
    by_cases hg : My.good s0
    · have NB : Hid (∀ w : World, Calls Try.prog 8 #[.agg #[.int .i64 s0.i, .int .i64 s0.o, .int .i64 s0.r], .string s0.fl, .string s0.inp] w fun e w' => ∃ l : My.Loc, e = .returned (.tuple #[.pointer (some ⟨l.p, 0, none⟩), .int .i64 0]) ∧ (MemAt w' l s0 (My.first s0) ∧ (∀ b, l.own b → w.heap.size ≤ b) ∧ Below w.heap.size w w')) := Lib.hid fun w => new_ok s0 w (Lib.hid hg)
      have PL : Hid (∀ (l : My.Loc) (w' : World), Below w.heap.size w w' → (∀ b, l.own b → w.heap.size ≤ b) → MemAt w' l s0 (My.first s0) → Calls Try.prog 10 #[.pointer (some ⟨l.p, 0, none⟩), .slice p1v n c1v] w' fun e w'' => ∃ v, e = .returned v ∧ SliceC ansC 2 w'' v (My.answers s0 L1 n) ∧ MemAt w'' l s0 (My.after s0 L1) ∧ Rest l.own w' w'') := Lib.hid fun l w' hb ho hm => play_any l s0 p1v n c1v L1 w' HNL (by omega) (Lib.hid fun w'' hr => TS.out.kept (hb.trans (hr.below hb.size ho))) FS (Lib.hid hg) (Lib.hid hm)
      have RG0 : Hid (∀ (l : My.Loc) (w' : World), MemAt w' l s0 (My.after s0 L1) → Calls Try.prog 13 #[.pointer (some ⟨l.p, 0, none⟩), .int .i64 0] w' fun e w'' => e = .returned (.tuple #[.string s0.fl, .int .i64 0]) ∧ Below w'.heap.size w' w'') := Lib.hid fun l w' hm => by
        have h := region_ok l s0 (My.after s0 L1) 0 w' (Lib.hid hm) (by decide)
        rw [My.flash_kept hg, My.arr_fl] at h
        exact h
      have RG1 : Hid (∀ (l : My.Loc) (w' : World), MemAt w' l s0 (My.after s0 L1) → Calls Try.prog 13 #[.pointer (some ⟨l.p, 0, none⟩), .int .i64 1] w' fun e w'' => e = .returned (.tuple #[.string ⟨(My.row (My.after s0 L1) (My.bs s0 1) (My.ln s0 1)).toArray⟩, .int .i64 0]) ∧ Below w'.heap.size w' w'') := Lib.hid fun l w' hm => region_ok l s0 (My.after s0 L1) 1 w' (Lib.hid hm) (by decide)
      have hsz : (((⟨(My.row (My.after s0 L1) (My.bs s0 1) (My.ln s0 1)).toArray⟩ : ByteArray).size : Int) != (s0.inp.size : Int)) = false := by
        have e : (⟨(My.row (My.after s0 L1) (My.bs s0 1) (My.ln s0 1)).toArray⟩ : ByteArray).size = s0.inp.size := by
          show (My.row (My.after s0 L1) (My.bs s0 1) (My.ln s0 1)).toArray.size = _
          rw [List.size_toArray, My.row_len, My.ln_1 hg]
        rw [e]
        simp
      generalize (⟨(My.row (My.after s0 L1) (My.bs s0 1) (My.ln s0 1)).toArray⟩ : ByteArray) = T7 at *
      have RGN : Hid (∀ w : World, _) := Lib.hid fun w => region_nil 0 w
      have LDN : Hid (∀ w : World, _) := Lib.hid fun w => load_nil 0 1 w
      have STN : Hid (∀ w : World, _) := Lib.hid fun w => store_nil 0 1 0 w
      have SAT : Hid (0 ≤ a2 → a2 < 262144 → ∀ (l : My.Loc) (w' : World), MemAt w' l s0 (My.after s0 L1) → Calls Try.prog 16 #[.pointer (some ⟨l.p, 0, none⟩), .int .i64 a2, .int .i64 1, .int .i64 7] w' fun e w'' => e = .returned (.int .i64 8) ∧ MemAt w'' l s0 (My.after s0 L1) ∧ Rest l.own w' w'') := Lib.hid fun h0 h1 l w' hm => by
        have h := store_any l s0 (My.after s0 L1) a2 1 7 w' hm hg (by omega)
        rw [My.flash_shut hg h0 h1, if_neg (by decide)] at h
        exact h
      generalize My.answers s0 L1 n = AN at *
      generalize My.first s0 = M0 at *
      generalize My.after s0 L1 = M1 at *
      clear WR
      generalize s0.i = i at *
      generalize s0.o = o at *
      generalize s0.r = r at *
      generalize s0.fl = fl at *
      generalize s0.inp = inp at *
      by_cases ha0 : 0 ≤ a2
      · by_cases ha1 : a2 < 262144
        · replace SAT := Lib.hid (SAT.out ha0 ha1)
          go_enter Try.func6, Try.ntmps6
          go_wp2_with (first | (go_at_call 8; refine (NB.out _).mono ?_; rintro e w1 ⟨l, rfl, hm1, ho1, hb1⟩; have HO := Lib.hid (fun b (h : l.own b) => (by have h1 := ho1 b h; simp at h1; omega : w.heap.size + 1 ≤ b)); have HT := Lib.hid (ST.out.kept hb1); clear x0 x1 x2 x3 x4; have xs := HT.out; obtain ⟨x0, x1, x2, x3, x4⟩ := xs; have HM := Lib.hid hm1; have HB := Lib.hid (((Below.refl _ _).alloc (Nat.le_refl _) _).trans (hb1.mono (by simp))); clear hb1 hm1 ho1) | (go_at_call 10; refine (PL.out l _ HB.out (fun b hb => by have := HO.out b hb; omega) HM.out).mono ?_; rintro e w4 ⟨va, rfl, -, hm4, hr4⟩; replace HT := Lib.hid (HT.out.kept' (hr4.below (B := w.heap.size + 1) (by have := cell_lt HT.out.1; exact this) HO.out) (Nat.lt_succ_self _)); clear x0 x1 x2 x3 x4; have xs := HT.out; obtain ⟨x0, x1, x2, x3, x4⟩ := xs; replace HM := Lib.hid hm4; replace HB := Lib.hid (HB.out.trans (hr4.below HB.out.size (fun b hb => by have := HO.out b hb; omega))); clear hm4 hr4) | (go_at_call 13; first | ((with_reducible refine (RG0.out l _ HM.out).mono ?_); rintro e w5 ⟨rfl, hb5⟩; replace HM := Lib.hid (HM.out.kept hb5); replace HT := Lib.hid (HT.out.kept hb5); clear x0 x1 x2 x3 x4; have xs := HT.out; obtain ⟨x0, x1, x2, x3, x4⟩ := xs; replace HB := Lib.hid (HB.out.trans (hb5.mono HB.out.size)); clear hb5) | ((with_reducible refine (RG1.out l _ HM.out).mono ?_); rintro e w5 ⟨rfl, hb5⟩; replace HM := Lib.hid (HM.out.kept hb5); replace HT := Lib.hid (HT.out.kept hb5); clear x0 x1 x2 x3 x4; have xs := HT.out; obtain ⟨x0, x1, x2, x3, x4⟩ := xs; replace HB := Lib.hid (HB.out.trans (hb5.mono HB.out.size)); clear hb5) | ((with_reducible refine (RGN.out _).mono ?_); rintro e w5 ⟨rfl, hb5⟩; replace HM := Lib.hid (HM.out.kept hb5); replace HT := Lib.hid (HT.out.kept hb5); clear x0 x1 x2 x3 x4; have xs := HT.out; obtain ⟨x0, x1, x2, x3, x4⟩ := xs; replace HB := Lib.hid (HB.out.trans (hb5.mono HB.out.size)); clear hb5)) | (go_at_call 15; first | ((with_reducible refine (LDN.out _).mono ?_); rintro e w5 ⟨rfl, hb5⟩; replace HM := Lib.hid (HM.out.kept hb5); replace HT := Lib.hid (HT.out.kept hb5); clear x0 x1 x2 x3 x4; have xs := HT.out; obtain ⟨x0, x1, x2, x3, x4⟩ := xs; replace HB := Lib.hid (HB.out.trans (hb5.mono HB.out.size)); clear hb5)) | (go_at_call 16; first | ((with_reducible refine (SAT.out l _ HM.out).mono ?_); rintro e w4 ⟨rfl, hm4, hr4⟩; replace HT := Lib.hid (HT.out.kept' (hr4.below (B := w.heap.size + 1) (by have := cell_lt HT.out.1; exact this) HO.out) (Nat.lt_succ_self _)); clear x0 x1 x2 x3 x4; have xs := HT.out; obtain ⟨x0, x1, x2, x3, x4⟩ := xs; replace HM := Lib.hid hm4; replace HB := Lib.hid (HB.out.trans (hr4.below HB.out.size (fun b hb => by have := HO.out b hb; omega))); clear hm4 hr4) | ((with_reducible refine (STN.out _).mono ?_); rintro e w5 ⟨rfl, hb5⟩; replace HM := Lib.hid (HM.out.kept hb5); replace HT := Lib.hid (HT.out.kept hb5); clear x0 x1 x2 x3 x4; have xs := HT.out; obtain ⟨x0, x1, x2, x3, x4⟩ := xs; replace HB := Lib.hid (HB.out.trans (hb5.mono HB.out.size)); clear hb5)) | (go_at_call 7; refine (LV.out _).mono ?_; rintro e w9 ⟨rfl, hb9⟩; replace HB := Lib.hid (HB.out.trans (hb9.mono HB.out.size)); clear hb9))
          go_ret
          exact ⟨rfl, HB.out⟩
        · clear SAT
          go_enter Try.func6, Try.ntmps6
          go_wp2_with (first | (go_at_call 8; refine (NB.out _).mono ?_; rintro e w1 ⟨l, rfl, hm1, ho1, hb1⟩; have HO := Lib.hid (fun b (h : l.own b) => (by have h1 := ho1 b h; simp at h1; omega : w.heap.size + 1 ≤ b)); have HT := Lib.hid (ST.out.kept hb1); clear x0 x1 x2 x3 x4; have xs := HT.out; obtain ⟨x0, x1, x2, x3, x4⟩ := xs; have HM := Lib.hid hm1; have HB := Lib.hid (((Below.refl _ _).alloc (Nat.le_refl _) _).trans (hb1.mono (by simp))); clear hb1 hm1 ho1) | (go_at_call 10; refine (PL.out l _ HB.out (fun b hb => by have := HO.out b hb; omega) HM.out).mono ?_; rintro e w4 ⟨va, rfl, -, hm4, hr4⟩; replace HT := Lib.hid (HT.out.kept' (hr4.below (B := w.heap.size + 1) (by have := cell_lt HT.out.1; exact this) HO.out) (Nat.lt_succ_self _)); clear x0 x1 x2 x3 x4; have xs := HT.out; obtain ⟨x0, x1, x2, x3, x4⟩ := xs; replace HM := Lib.hid hm4; replace HB := Lib.hid (HB.out.trans (hr4.below HB.out.size (fun b hb => by have := HO.out b hb; omega))); clear hm4 hr4) | (go_at_call 13; first | ((with_reducible refine (RG0.out l _ HM.out).mono ?_); rintro e w5 ⟨rfl, hb5⟩; replace HM := Lib.hid (HM.out.kept hb5); replace HT := Lib.hid (HT.out.kept hb5); clear x0 x1 x2 x3 x4; have xs := HT.out; obtain ⟨x0, x1, x2, x3, x4⟩ := xs; replace HB := Lib.hid (HB.out.trans (hb5.mono HB.out.size)); clear hb5) | ((with_reducible refine (RG1.out l _ HM.out).mono ?_); rintro e w5 ⟨rfl, hb5⟩; replace HM := Lib.hid (HM.out.kept hb5); replace HT := Lib.hid (HT.out.kept hb5); clear x0 x1 x2 x3 x4; have xs := HT.out; obtain ⟨x0, x1, x2, x3, x4⟩ := xs; replace HB := Lib.hid (HB.out.trans (hb5.mono HB.out.size)); clear hb5) | ((with_reducible refine (RGN.out _).mono ?_); rintro e w5 ⟨rfl, hb5⟩; replace HM := Lib.hid (HM.out.kept hb5); replace HT := Lib.hid (HT.out.kept hb5); clear x0 x1 x2 x3 x4; have xs := HT.out; obtain ⟨x0, x1, x2, x3, x4⟩ := xs; replace HB := Lib.hid (HB.out.trans (hb5.mono HB.out.size)); clear hb5)) | (go_at_call 15; first | ((with_reducible refine (LDN.out _).mono ?_); rintro e w5 ⟨rfl, hb5⟩; replace HM := Lib.hid (HM.out.kept hb5); replace HT := Lib.hid (HT.out.kept hb5); clear x0 x1 x2 x3 x4; have xs := HT.out; obtain ⟨x0, x1, x2, x3, x4⟩ := xs; replace HB := Lib.hid (HB.out.trans (hb5.mono HB.out.size)); clear hb5)) | (go_at_call 16; ((with_reducible refine (STN.out _).mono ?_); rintro e w5 ⟨rfl, hb5⟩; replace HM := Lib.hid (HM.out.kept hb5); replace HT := Lib.hid (HT.out.kept hb5); clear x0 x1 x2 x3 x4; have xs := HT.out; obtain ⟨x0, x1, x2, x3, x4⟩ := xs; replace HB := Lib.hid (HB.out.trans (hb5.mono HB.out.size)); clear hb5)) | (go_at_call 7; refine (LV.out _).mono ?_; rintro e w9 ⟨rfl, hb9⟩; replace HB := Lib.hid (HB.out.trans (hb9.mono HB.out.size)); clear hb9))
          go_ret
          exact ⟨rfl, HB.out⟩
      · clear SAT
        go_enter Try.func6, Try.ntmps6
        go_wp2_with (first | (go_at_call 8; refine (NB.out _).mono ?_; rintro e w1 ⟨l, rfl, hm1, ho1, hb1⟩; have HO := Lib.hid (fun b (h : l.own b) => (by have h1 := ho1 b h; simp at h1; omega : w.heap.size + 1 ≤ b)); have HT := Lib.hid (ST.out.kept hb1); clear x0 x1 x2 x3 x4; have xs := HT.out; obtain ⟨x0, x1, x2, x3, x4⟩ := xs; have HM := Lib.hid hm1; have HB := Lib.hid (((Below.refl _ _).alloc (Nat.le_refl _) _).trans (hb1.mono (by simp))); clear hb1 hm1 ho1) | (go_at_call 10; refine (PL.out l _ HB.out (fun b hb => by have := HO.out b hb; omega) HM.out).mono ?_; rintro e w4 ⟨va, rfl, -, hm4, hr4⟩; replace HT := Lib.hid (HT.out.kept' (hr4.below (B := w.heap.size + 1) (by have := cell_lt HT.out.1; exact this) HO.out) (Nat.lt_succ_self _)); clear x0 x1 x2 x3 x4; have xs := HT.out; obtain ⟨x0, x1, x2, x3, x4⟩ := xs; replace HM := Lib.hid hm4; replace HB := Lib.hid (HB.out.trans (hr4.below HB.out.size (fun b hb => by have := HO.out b hb; omega))); clear hm4 hr4) | (go_at_call 13; first | ((with_reducible refine (RG0.out l _ HM.out).mono ?_); rintro e w5 ⟨rfl, hb5⟩; replace HM := Lib.hid (HM.out.kept hb5); replace HT := Lib.hid (HT.out.kept hb5); clear x0 x1 x2 x3 x4; have xs := HT.out; obtain ⟨x0, x1, x2, x3, x4⟩ := xs; replace HB := Lib.hid (HB.out.trans (hb5.mono HB.out.size)); clear hb5) | ((with_reducible refine (RG1.out l _ HM.out).mono ?_); rintro e w5 ⟨rfl, hb5⟩; replace HM := Lib.hid (HM.out.kept hb5); replace HT := Lib.hid (HT.out.kept hb5); clear x0 x1 x2 x3 x4; have xs := HT.out; obtain ⟨x0, x1, x2, x3, x4⟩ := xs; replace HB := Lib.hid (HB.out.trans (hb5.mono HB.out.size)); clear hb5) | ((with_reducible refine (RGN.out _).mono ?_); rintro e w5 ⟨rfl, hb5⟩; replace HM := Lib.hid (HM.out.kept hb5); replace HT := Lib.hid (HT.out.kept hb5); clear x0 x1 x2 x3 x4; have xs := HT.out; obtain ⟨x0, x1, x2, x3, x4⟩ := xs; replace HB := Lib.hid (HB.out.trans (hb5.mono HB.out.size)); clear hb5)) | (go_at_call 15; first | ((with_reducible refine (LDN.out _).mono ?_); rintro e w5 ⟨rfl, hb5⟩; replace HM := Lib.hid (HM.out.kept hb5); replace HT := Lib.hid (HT.out.kept hb5); clear x0 x1 x2 x3 x4; have xs := HT.out; obtain ⟨x0, x1, x2, x3, x4⟩ := xs; replace HB := Lib.hid (HB.out.trans (hb5.mono HB.out.size)); clear hb5)) | (go_at_call 16; ((with_reducible refine (STN.out _).mono ?_); rintro e w5 ⟨rfl, hb5⟩; replace HM := Lib.hid (HM.out.kept hb5); replace HT := Lib.hid (HT.out.kept hb5); clear x0 x1 x2 x3 x4; have xs := HT.out; obtain ⟨x0, x1, x2, x3, x4⟩ := xs; replace HB := Lib.hid (HB.out.trans (hb5.mono HB.out.size)); clear hb5)) | (go_at_call 7; refine (LV.out _).mono ?_; rintro e w9 ⟨rfl, hb9⟩; replace HB := Lib.hid (HB.out.trans (hb9.mono HB.out.size)); clear hb9))
        go_ret
        exact ⟨rfl, HB.out⟩
    · have hE : ¬ My.err s0 = 0 := fun h => hg (My.err_0.1 h)
      have NB : Hid (∀ w : World, Calls Try.prog 8 #[.agg #[.int .i64 s0.i, .int .i64 s0.o, .int .i64 s0.r], .string s0.fl, .string s0.inp] w fun e w' => e = .returned (.tuple #[.pointer none, .int .i64 (My.err s0)]) ∧ Below w.heap.size w w') := Lib.hid fun w => new_bad s0 w hg
      generalize My.err s0 = E at *
      have hEb : (E != 0) = true := by simpa using hE
      clear hg WR
      generalize s0.i = i at *
      generalize s0.o = o at *
      generalize s0.r = r at *
      generalize s0.fl = fl at *
      generalize s0.inp = inp at *
      go_enter Try.func6, Try.ntmps6
      go_wp2_with (first | (go_at_call 8; refine (NB.out _).mono ?_; rintro e w1 ⟨rfl, hb1⟩; have HB := Lib.hid (((Below.refl _ _).alloc (Nat.le_refl _) _).trans (hb1.mono (by simp))); clear hb1) | (go_at_call 7; refine (LV.out _).mono ?_; rintro e w9 ⟨rfl, hb9⟩; replace HB := Lib.hid (HB.out.trans (hb9.mono HB.out.size)); clear hb9))
      go_ret
      exact ⟨rfl, HB.out⟩

set_option maxRecDepth 100000 in
theorem lifted (os : Os) (started : os.Started) (H : Type) (enc : TypeId × Value → H) :
    ReturnsInHanded {} Try.checked os 6 .any (Rows.memoryFlashSpec.pre6 enc Try.prog Try.f6 Rows.memoryFlashRow.domain false) (Rows.memoryFlashSpec.post enc Try.prog Try.f6 false true false false) := by
  refine returnsInHanded_of_change (C := Try.checked) own started (by kernel_rfl) Try.func6
    (ChangeSpec.witness6 (enc := enc) (C := Try.checked) false ⟨#[], #[.agg #[.int .i64 0, .int .i64 0, .int .i64 0, .string ByteArray.empty, .string ByteArray.empty], .slice none 0 0, .int .i64 0], []⟩ 8 (by kernel_rfl) (by kernel_rfl) (by kernel_rfl) (by kernel_rfl)) ?_
  intro W base args ds gs before hval0 hW hcnd _
  have hval : ∀ (j : Nat) t v, Try.f6.params[j]? = some t → args[j]? = some v → Value.okWide Try.prog W .any base t v := hval0
  have hW' := hW
  obtain ⟨p, q, hA0, hV, rfl, hfz, hnd⟩ := hW
  have hA : DataW.TrodAll enc Try.prog W 0 (fun _ => true) true Try.f6.params.toList args.toList ds p := hA0
  rw [Try.params6] at hA hval
  obtain ⟨v0, vs0, d0, ds0, p0, q0, hargs, rfl, rfl, h0, r0⟩ := trodAll_cons hA
  obtain ⟨v1, vs1, d1, ds1, p1, q1, rfl, rfl, rfl, h1, r1⟩ := trodAll_cons r0
  obtain ⟨v2, vs2, d2, ds2, p2, q2, rfl, rfl, rfl, h2, r2⟩ := trodAll_cons r1
  obtain ⟨rfl, rfl, rfl⟩ := trodAll_nil r2
  obtain rfl : args = #[v0, v1, v2] := by cases args; simp_all
  obtain ⟨rfl, rfl⟩ := trodVars_none hV
  have k0 := h0
  have lt0 : ∀ x ∈ p0, x.block < W.heap.size := by obtain ⟨m, hm⟩ := k0; exact DataW.trod_lt m _ _ _ hm
  obtain ⟨s0, rfl, wr0⟩ := open_start (hval 0 25 v0 rfl rfl) h0
  have k1 := h1
  have lt1 : ∀ x ∈ p1, x.block < W.heap.size := by obtain ⟨m, hm⟩ := k1; exact DataW.trod_lt m _ _ _ hm
  obtain ⟨L1, p1v, c1v, rfl, t1, f1, k1c⟩ := open_steps (hval 1 26 v1 rfl rfl) h1
  obtain ⟨a2, rfl, rfl, rfl, w2⟩ := open_int Try.underlying3 (hval 2 3 v2 rfl rfl) h2
  clear hA0 hval0
  refine (walk s0 p1v c1v L1 a2 wr0 w2 W t1 f1 k1c).mono fun e W' ⟨he, bel⟩ => ?_
  subst he
  exact ⟨_, rfl, _, _, _, [], _, [], hW', trodAll_mk1 (shut_bool Try.underlying4 _), (trodAll_cons_mk (Below.trod laidOut (by kernel_rfl) (of_decide_eq_true (by kernel_rfl)) k0 bel lt0) (trodAll_cons_mk (Below.trod laidOut (by kernel_rfl) (of_decide_eq_true (by kernel_rfl)) k1 bel lt1) (trodAll_cons_mk (shut_int Try.underlying3 w2) trodAll_mk0))), rfl, bel.frame _, fun h => by cases h⟩

theorem over : Rows.memoryFlashRow.holds Try.pinned (OpenSpec.ofChange Rows.memoryFlashSpec) :=
  OpenClaim.holds_of_wide 6 Try.f6 rfl rfl rfl rfl rfl rfl rfl ⟨rfl, rfl, rfl, rfl, rfl⟩ rfl rfl rfl rfl rfl (by kernel_rfl) Try.func6 (by kernel_rfl)
    (of_decide_eq_true (by kernel_rfl)) (by unfold Func.isWrapper; first | (rw [if_pos (by decide +kernel)]; kernel_rfl) | (rw [if_neg (by decide +kernel)]; exact ⟨rfl, rfl⟩))
    (fun os started H enc _ => lifted os started H enc)

/-- the statement -/
theorem proved : Rows.MemoryFlashSaid := over
#print axioms proved
end Go.Proofs.Ytchljdcjlkfbfaa.memoryFlash
