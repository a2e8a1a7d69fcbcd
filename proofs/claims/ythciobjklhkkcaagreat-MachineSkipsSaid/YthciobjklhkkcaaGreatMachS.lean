/-
 Package machine: Run's contract.
-/
import Derived.Test.YthciobjklhkkcaaGreatMachR
namespace Go.Proofs.YthciobjklhkkcaaGreat
open Go.ChangeShapes Go.WideShapes Go.ChangeAt Go.RowKit Go.Shelf
set_option maxHeartbeats 8000000
set_option maxRecDepth 10000
set_option linter.unusedVariables false
set_option linter.unusedSimpArgs false
attribute [local go_sem] Oper.semAt_some

theorem run_arg (n : Nat) (hn : 3 ≤ n) (img inp : ByteArray) (kind sn reg bit bud : Int) (s : My.St) (hd : Int) (m0 : Mc.M) (C : Int) (w : World) (hbad : ¬ C = 0 ∨ C = 0 ∧ bud < 0 ∨ C = 0 ∧ ¬ bud < 0 ∧ 67108864 < bud)
  (CN : Hid (∀ W : World, Calls Tryz.prog 17 #[.string img, .string inp] W fun e w' => ∃ b lo, e = .returned (.tuple #[.pointer (some ⟨b, 0, none⟩), .int .i64 0]) ∧ MacAt w' b lo s hd m0 ∧ (∀ k, Mc.mine b lo k → W.heap.size ≤ k) ∧ Below W.heap.size W w'))
  (CK : Hid (∀ W : World, Calls Tryz.prog 11 #[.agg #[.int .i64 kind, .int .i64 sn, .int .i64 reg, .int .i64 bit]] W fun e w' => e = .returned (.int .i64 C) ∧ Below W.heap.size W w')) :
  CallsIn Fence.wide n Tryz.prog 9 #[.string img, .string inp, .agg #[.int .i64 kind, .int .i64 sn, .int .i64 reg, .int .i64 bit], .int .i64 bud] w fun e w' => e = .returned (.tuple #[.agg zeroR, .int .i64 2]) ∧ Below w.heap.size w w' := by
 have h1 : 1 ≤ n := by omega
 obtain ⟨W2, hW⟩ : ∃ W2, (w.alloc (.cells #[.int .i64 kind, .int .i64 sn, .int .i64 reg, .int .i64 bit] 23)).alloc (.cells zeroR 27) = W2 := ⟨_, rfl⟩
 have H2 := Lib.hid (run_start w kind sn reg bit hW)
 refine callsIn_of_wp_marks Tryz.func9 rfl trivial ?_ rfl
 simp only [Tryz.ntmps9, List.size_toArray, List.length_cons, List.length_nil, Nat.reduceAdd, Nat.reduceSub, Array.replicate_succ, Array.replicate_zero, List.push_toArray, List.append_toArray, List.nil_append, List.cons_append]
 rcases hbad with hC | ⟨rfl, hb⟩ | ⟨rfl, hb0, hb⟩
 ·have hC' : (C != 0) = true := by simpa using hC
  gi_wp2_with (first | (refine ⟨trivial, ?_⟩; gi_at_call 17; refine (callsIn_wide.2 (CN.out _)).mono ?_; rintro e w1 ⟨b, lo, rfl, hM1, hmine, hb1⟩; have H1 := Lib.hid (rn_start H2.out hM1 hmine hb1); clear hM1 hmine hb1) | ((with_reducible refine wpListIn_load_blk faultT H1.out.flt ?_ ?_); exact rfl) | (refine ⟨trivial, ?_⟩; gi_at_call 11; refine (callsIn_wide.2 (CK.out _)).mono ?_; rintro e w3 ⟨rfl, hb3⟩; have H3 := Lib.hid (H1.out.kept hb3); clear hb3) | ((with_reducible refine wpListIn_store_blk resT H3.out.out (fits9 false 0 0 0 0 0 ⟨#[]⟩ ⟨#[]⟩ ⟨#[]⟩) ?_ ?_); exact rfl))
  exact leaves_blk2 resT rfl rfl (H3.out.out.row rfl) ⟨rfl, below_setRow H3.out.bel (by omega) _⟩
 all_goals
  gi_wp2_with (first | (refine ⟨trivial, ?_⟩; gi_at_call 17; refine (callsIn_wide.2 (CN.out _)).mono ?_; rintro e w1 ⟨b, lo, rfl, hM1, hmine, hb1⟩; have H1 := Lib.hid (rn_start H2.out hM1 hmine hb1); clear hM1 hmine hb1) | ((with_reducible refine wpListIn_load_blk faultT H1.out.flt ?_ ?_); exact rfl) | (refine ⟨trivial, ?_⟩; gi_at_call 11; refine (callsIn_wide.2 (CK.out _)).mono ?_; rintro e w3 ⟨rfl, hb3⟩; have H3 := Lib.hid (H1.out.kept hb3); clear hb3) | ((with_reducible refine wpListIn_store_blk resT H3.out.out (fits9 false 0 0 0 0 0 ⟨#[]⟩ ⟨#[]⟩ ⟨#[]⟩) ?_ ?_); exact rfl))
  exact leaves_blk2 resT rfl rfl (H3.out.out.row rfl) ⟨rfl, below_setRow H3.out.bel (by omega) _⟩
/-- a run: what it leaves, its error -/
def Mc.sOf (img inp : ByteArray) : My.St := ⟨(Im.parse img).1.i, (Im.parse img).1.o, (Im.parse img).1.l, img, inp⟩
def Mc.newE (img inp : ByteArray) : Int := if (Im.parse img).2 = 0 then My.err (Mc.sOf img inp) else (Im.parse img).2
def Mc.m0 (img inp : ByteArray) : Mc.M := Mc.start (Mc.sOf img inp) (Im.parse img).1.r
def Mc.ran (img inp : ByteArray) (f : Mc.F) (bud : Nat) : Mc.M × List Mc.Ev × Nat := Mc.go (Mc.xOf (Mc.sOf img inp) (Im.parse img).1.h) f bud 0 (Mc.m0 img inp)
def Mc.run (img inp : ByteArray) (f : Mc.F) (bud : Int) : Array Value × Int :=
 if Mc.newE img inp = 0 then (if Mc.okF f = true ∧ 0 ≤ bud ∧ bud ≤ 67108864 then (Mc.resOf (Mc.sOf img inp) (Im.parse img).1.h (Mc.ran img inp f bud.toNat).1 (Mc.ran img inp f bud.toNat).2.1, 0) else (zeroR, 2)) else (zeroR, Mc.newE img inp)
theorem My.err_good {s : My.St} : My.err s = 0 ↔ My.good s := by
 unfold My.err My.good
 constructor
 ·intro h
  split at h
  ·next h1 =>
   split at h
   ·next h2 => exact ⟨h1, h2⟩
   ·cases h
  ·next h1 => exact absurd h h1
 ·rintro ⟨h1, h2⟩
  rw [if_pos h1, if_pos h2]
theorem Im.parse_ok {img : ByteArray} (h : (Im.parse img).2 = 0) : 0 ≤ (Im.parse img).1.h ∧ 0 ≤ (Im.parse img).1.r := by
 unfold Im.parse at h ⊢
 split at h
 ·cases h
 ·next h1 =>
  split at h
  ·next h2 =>
   rw [if_neg h1, if_pos h2]
   have he := h2.1
   unfold Im.err at he
   split at he
   ·split at he
    ·next h3 =>
     have a := h3.2.2.1
     have b := h3.2.2.2
     unfold Im.start at a b
     simp only [Bool.and_eq_true, decide_eq_true_eq] at a b
     constructor
     ·show 0 ≤ (Im.read img 2).h; omega
     ·show 0 ≤ (Im.read img 2).r; omega
    ·cases he
   ·next h3 => exact absurd he h3
  ·cases h
theorem run_any (n : Nat) (hn : 3 ≤ n) (img inp : ByteArray) (f : Mc.F) (bud : Int) (w : World) :
  CallsIn Fence.wide n Tryz.prog 9 #[.string img, .string inp, .agg #[.int .i64 f.kind, .int .i64 f.step, .int .i64 f.reg, .int .i64 f.bit], .int .i64 bud] w fun e w' => e = .returned (.tuple #[.agg (Mc.run img inp f bud).1, .int .i64 (Mc.run img inp f bud).2]) ∧ Below w.heap.size w w' := by
 have hok := @Im.parse_ok img
 unfold Mc.run Mc.ran Mc.newE Mc.m0 Mc.sOf
 rcases hx : Im.parse img with ⟨⟨r, h, i, o, l, md⟩, E⟩
 rw [hx] at hok
 dsimp only at hok ⊢
 by_cases hE : E = 0
 rotate_left
 ·rw [if_neg hE, if_neg hE]
  exact run_bad n (by omega) img inp _ _ _ _ bud E w hE (Lib.hid fun W => new_p img inp r h i o l md E W (Lib.hid hx) hE)
 subst hE
 rw [if_pos rfl]
 obtain ⟨hh, hr⟩ := hok rfl
 by_cases hg : My.err ⟨i, o, l, img, inp⟩ = 0
 rotate_left
 ·rw [if_neg hg]
  exact run_bad n (by omega) img inp _ _ _ _ bud _ w hg (Lib.hid fun W => new_m img inp r h i o l md _ W (Lib.hid hx) hg (Lib.hid fun W => new_bad ⟨i, o, l, img, inp⟩ W (fun g => hg (My.err_good.2 g))))
 rw [if_pos hg]
 have CN := Lib.hid (fun W : World => new_y img inp r h i o l md W (Lib.hid hx) (Lib.hid (My.err_good.1 hg)))
 have CK := fun W : World => mcheck9_any f.kind f.step f.reg f.bit W
 by_cases ha : Mc.okF f = true ∧ 0 ≤ bud ∧ bud ≤ 67108864
 ·rw [if_pos ha]
  obtain ⟨h1, h2, h3⟩ := ha
  obtain ⟨b, rfl⟩ := Int.eq_ofNat_of_zero_le h2
  have h1' : Mc.okF ⟨f.kind, f.step, f.reg, f.bit⟩ = true := h1
  rw [h1'] at CK
  exact run_y n hn img inp f.kind f.step f.reg f.bit b _ h _ w (by omega) hh hr CN (Lib.hid CK)
 ·rw [if_neg ha]
  refine run_arg n hn img inp f.kind f.step f.reg f.bit bud _ h _ _ w ?_ CN (Lib.hid CK)
  by_cases hk : Mc.okF f = true
  ·have h1' : Mc.okF ⟨f.kind, f.step, f.reg, f.bit⟩ = true := hk
   rw [h1']
   by_cases h2 : bud < 0
   ·exact .inr (.inl ⟨rfl, h2⟩)
   ·exact .inr (.inr ⟨rfl, h2, by have : ¬ (0 ≤ bud ∧ bud ≤ 67108864) := fun h => ha ⟨hk, h⟩; omega⟩)
  ·have h1' : Mc.okF ⟨f.kind, f.step, f.reg, f.bit⟩ = false := by simpa using hk
   rw [h1']
   exact .inl (by decide)
end Go.Proofs.YthciobjklhkkcaaGreat
