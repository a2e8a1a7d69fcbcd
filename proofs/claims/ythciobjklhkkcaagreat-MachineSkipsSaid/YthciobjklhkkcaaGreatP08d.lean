/-
Package memory: what New returns; the document's New.
What package decode's there returns.
-/
import Derived.Test.YthciobjklhkkcaaGreatP07a
import Derived.Test.YthciobjklhkkcaaGreatP07b
import Derived.Test.YthciobjklhkkcaaGreatP02b
section
namespace Go.Proofs.YthciobjklhkkcaaGreat
open Go.ChangeShapes Go.WideShapes Go.ChangeAt Go.RowKit
set_option maxHeartbeats 4000000
set_option maxRecDepth 100000
set_option linter.unusedVariables false

/-- the memory as it is ahead of the flash, behind it -/
def My.noughts : Int → UInt8 := fun _ => 0
def My.flash (s : My.St) : Int → UInt8 := fun a => if a < 536936448 then My.first s a else 0
theorem My.row_noughts (b : Int) (n : Nat) : My.row My.noughts b n = List.replicate n 0 := My.row_zero b n (fun _ _ => rfl)
theorem My.bs_hi {s : My.St} {k : Nat} (hk : k < 7) (h1 : 1 ≤ k) : 536936448 ≤ My.bs s k := by
 unfold My.bs My.sev Mm.seven
 rcases (by omega : k = 1 ∨ k = 2 ∨ k = 3 ∨ k = 4 ∨ k = 5 ∨ k = 6) with rfl | rfl | rfl | rfl | rfl | rfl <;> simp
theorem My.flash_hi {s : My.St} {k : Nat} (hk : k < 7) (h1 : 1 ≤ k) : My.row (My.flash s) (My.bs s k) (My.ln s k) = List.replicate (My.ln s k) 0 := by
 apply My.row_zero
 intro j hj
 have := My.bs_hi (s := s) hk h1
 unfold My.flash
 rw [if_neg (by omega)]
theorem My.flash_0 {s : My.St} (h : My.good s) : My.row (My.flash s) (My.bs s 0) (My.ln s 0) = s.fl.data.toList := by
 have ok := My.okay h
 unfold Mm.okay at ok
 rw [My.bs_0, My.ln_0, ← My.row_flash s]
 apply My.row_same
 intro j hj
 unfold My.flash
 rw [if_pos (by omega)]
theorem My.first_0 (s : My.St) : My.row (My.first s) (My.bs s 0) (My.ln s 0) = s.fl.data.toList := by
 rw [My.bs_0, My.ln_0, ← My.row_flash s]
theorem My.first_1 {s : My.St} (h : My.good s) : My.row (My.first s) (My.bs s 1) (My.ln s 1) = s.inp.data.toList := by
 rw [My.bs_1, My.ln_1 h, ← My.row_input h]
theorem BlAt.mem {W : World} {B : Nat} {s : My.St} {G : Nat → Nat} (h : BlAt W B s 7 G) (ra : Addr) (rc : Nat) (hr : SliceC rgC 3 W (.slice (some ra) 7 rc) (My.sev s)) (hB : ra.block < B) :
  MemAt (W.alloc (.cells #[.slice (some ra) 7 rc, .slice (some ⟨B, 0, none⟩) 7 7] 114)) ⟨W.heap.size, ra, rc, B, G⟩ s My.noughts := by
 have hb : Below W.heap.size W (W.alloc (.cells #[.slice (some ra) 7 rc, .slice (some ⟨B, 0, none⟩) 7 7] 114)) := (Below.refl _ _).alloc (Nat.le_refl _) _
 obtain ⟨⟨cs, hB', h7, hc⟩, hr', hne⟩ := h
 have hBlt : B < W.heap.size := (Array.getElem?_eq_some_iff.1 hB').1
 refine ⟨by simp, by simp, hr.kept hb, fun k hk => ?_, fun k hk => ?_, fun k hk => ?_, hne⟩
 ·rw [hb.cell (p := ⟨B, k, none⟩) hBlt]
  simp only [World.cell?, hB']
  exact hc k hk
 ·rw [My.row_noughts]
  exact (hr' k hk).2.kept hb
 ·obtain ⟨h1, h2⟩ := hr' k hk
  have := h2.lt
  exact ⟨(by omega : G k ≠ W.heap.size), (by omega : G k ≠ ra.block), (by omega : G k ≠ B)⟩
theorem cell_slice_block {W : World} {s : My.St} {ra : Addr} {rc : Nat} (h : SliceC rgC 3 W (.slice (some ra) 7 rc) (My.sev s)) : ra.block < W.heap.size := by
 obtain ⟨p', c', e', hat⟩ := h
 obtain ⟨a2, hpa, hOn⟩ := hat 0 (by show 0 < 7; decide)
 injection e' with ep en ec
 rw [hpa] at ep
 injection ep with ep
 subst ep
 have h0 := cell_lt (hOn 0 _ rfl)
 rw [add_block, add_block] at h0
 exact h0
theorem new_no (s : My.St) (E : Int) (w : World) (hE : Hid (My.merr s = E)) (h0 : ¬ E = 0) :
  Calls Tryz.prog 31 #[.agg #[.int .i64 s.i, .int .i64 s.o, .int .i64 s.r], .string s.fl, .string s.inp] w fun e w' => e = .returned (.tuple #[.pointer none, .int .i64 E]) ∧ Below w.heap.size w w' := by
 obtain ⟨i, o, r, fl, inp⟩ := s
 go_enter Tryz.func31, Tryz.ntmps31
 go_wp2_with (go_at_call 50; refine (regions_no i o r (fl.size : Nat) E _ hE h0).mono ?_; rintro e w1 ⟨rfl, hb1⟩; have HB := Lib.hid (((Below.refl _ _).alloc (Nat.le_refl _) _).trans (hb1.mono (by simp))); clear hb1)
 exact bodyPost_ret (v := .tuple #[.pointer none, .int .i64 E]) (by simp [results, Tryz.results31, go_sem]) rfl ⟨rfl, HB.out⟩
theorem new_arg (s : My.St) (w : World) (hE : Hid (My.merr s = 0)) (h0 : ((s.inp.size : Int) != s.i) = true) :
  Calls Tryz.prog 31 #[.agg #[.int .i64 s.i, .int .i64 s.o, .int .i64 s.r], .string s.fl, .string s.inp] w fun e w' => e = .returned (.tuple #[.pointer none, .int .i64 2]) ∧ Below w.heap.size w w' := by
 obtain ⟨i, o, r, fl, inp⟩ := s
 simp only at h0
 go_enter Tryz.func31, Tryz.ntmps31
 go_wp2_with (go_at_call 50; refine (regions_ok i o r (fl.size : Nat) _ hE).mono ?_; rintro e w1 ⟨a1, c1, rfl, hs1, hb1⟩; obtain ⟨x0, x1, x2⟩ := box3 hb1; have HB := Lib.hid (((Below.refl _ _).alloc (Nat.le_refl _) _).trans (hb1.mono (by simp))); clear hb1 hs1)
 exact bodyPost_ret (v := .tuple #[.pointer none, .int .i64 2]) (by simp [results, Tryz.results31, go_sem]) rfl ⟨rfl, HB.out⟩
theorem new_ok (s : My.St) (w : World) (hg : Hid (My.good s)) :
  Calls Tryz.prog 31 #[.agg #[.int .i64 s.i, .int .i64 s.o, .int .i64 s.r], .string s.fl, .string s.inp] w fun e w' => ∃ l : My.Loc, e = .returned (.tuple #[.pointer (some ⟨l.p, 0, none⟩), .int .i64 0]) ∧ (MemAt w' l s (My.first s) ∧ (∀ b, l.own b → w.heap.size ≤ b) ∧ Below w.heap.size w w') := by
 have hi : ((s.inp.size : Int) != s.i) = false := by simpa using hg.out.2
 have hE : Hid (Mm.err s.i s.o s.r (s.fl.size : Nat) = 0) := Lib.hid hg.out.1
 have HF : Hid (∀ (W : World) (l : My.Loc), MemAt W l s My.noughts → (Builtin.copy_ #[115, 9] 3 #[.slice (some ⟨l.G 0, 0, none⟩) (My.ln s 0) (My.ln s 0), .string s.fl]).run Tryz.prog W = .ok (goInt s.fl.size) (W.setRow (l.G 0) (Lib.byteCells s.fl.data.toList).toArray) ∧ MemAt (W.setRow (l.G 0) (Lib.byteCells s.fl.data.toList).toArray) l s (My.flash s)) := Lib.hid fun W l h => by
  have h1 := run_over (o := 0) (d := My.ln s 0) (c := My.ln s 0) (n := s.fl.size) (h.bytes 0 (by decide)) s.fl (by rw [My.ln_0]; exact Nat.min_self _) (by rw [My.row_len, My.ln_0]; omega)
  rw [List.take_zero, List.nil_append, List.take_of_length_le (by rw [My.bl]; exact Nat.le_refl _), List.drop_eq_nil_of_le (by rw [My.row_len, My.ln_0]; omega), List.append_nil] at h1
  refine ⟨h1, h.set (k := 0) (by decide) (fun j hj hne => ?_) (by rw [My.flash_0 hg.out])⟩
  rw [My.flash_hi hj (by omega), My.row_noughts]
 have HI : Hid (∀ (W : World) (l : My.Loc), MemAt W l s (My.flash s) → (Builtin.copy_ #[115, 9] 3 #[.slice (some ⟨l.G 1, 0, none⟩) (My.ln s 1) (My.ln s 1), .string s.inp]).run Tryz.prog W = .ok (goInt s.inp.size) (W.setRow (l.G 1) (Lib.byteCells s.inp.data.toList).toArray) ∧ MemAt (W.setRow (l.G 1) (Lib.byteCells s.inp.data.toList).toArray) l s (My.first s)) := Lib.hid fun W l h => by
  have h1 := run_over (o := 0) (d := My.ln s 1) (c := My.ln s 1) (n := s.inp.size) (h.bytes 1 (by decide)) s.inp (by rw [My.ln_1 hg.out]; exact Nat.min_self _) (by rw [My.row_len, My.ln_1 hg.out]; omega)
  rw [List.take_zero, List.nil_append, List.take_of_length_le (by rw [My.bl]; exact Nat.le_refl _), List.drop_eq_nil_of_le (by rw [My.row_len, My.ln_1 hg.out]; omega), List.append_nil] at h1
  refine ⟨h1, h.set (k := 1) (by decide) (fun j hj hne => ?_) (by rw [My.first_1 hg.out])⟩
  by_cases h0 : j = 0
  ·subst h0
   rw [My.first_0, My.flash_0 hg.out]
  ·rw [My.row_none hg.out hj (by omega), My.flash_hi hj (by omega)]
 have HM : Hid (∀ (W : World) (G : Nat → Nat) (B rc : Nat) (ra : Addr), BlAt W B s 7 G → SliceC rgC 3 W (.slice (some ra) 7 rc) (My.sev s) → ra.block < B → MemAt (W.alloc (.cells #[.slice (some ra) 7 rc, .slice (some ⟨B, 0, none⟩) 7 7] 114)) ⟨W.heap.size, ra, rc, B, G⟩ s My.noughts) := Lib.hid fun W G B rc ra h hr hB => h.mem ra rc hr hB
 have HS := hg
 have HL : Hid (My.sev s = Mm.seven s.i s.o s.r (s.fl.size : Nat)) := Lib.hid rfl
 generalize s.i = i at *
 generalize s.o = o at *
 generalize s.r = r at *
 generalize s.fl = fl at *
 generalize s.inp = inp at *
 go_enter Tryz.func31, Tryz.ntmps31
 go_wp2_with (first
  | (go_at_call 50; refine (regions_ok i o r (fl.size : Nat) _ hE).mono ?_; rintro e w1 ⟨a1, c1, rfl, hs1, hb1⟩; obtain ⟨x0, x1, x2⟩ := box3 hb1; rw [← HL.out] at hs1; have HS1 := Lib.hid hs1; have HB := Lib.hid (((Below.refl _ _).alloc (Nat.le_refl _) _).trans (hb1.mono (by simp))); clear hb1 hs1)
  | (go_at_call 51; refine (blank_any s a1 c1 w1 HS HS1).mono ?_; rintro e w2 ⟨rfl, ⟨G, hbl⟩, hb2⟩; have m0 := HM.out w2 G w1.heap.size c1 a1 hbl (HS1.out.kept hb2) (cell_slice_block HS1.out); have HB2 := Lib.hid (HB.out.trans (hb2.mono HB.out.size)); have HM0 := Lib.hid m0; have HBL := Lib.hid hbl; have f1 := m0.f1; have r0 := m0.row 0 (by decide); dsimp only at f1 r0; clear hb2 m0 hbl))
 have HB3 : Hid (Below w.heap.size w (w2.alloc (.cells #[.slice (some a1) 7 c1, .slice (some ⟨w1.heap.size, 0, none⟩) 7 7] 114))) := Lib.hid (HB2.out.alloc HB2.out.size _)
 have HO : Hid (∀ b, (My.Loc.mk w2.heap.size a1 c1 w1.heap.size G).own b → w.heap.size ≤ b) := Lib.hid (by
  rintro b ⟨k, hk, rfl⟩
  have h1 := (HBL.out.rows k hk).1
  have h2 := HB.out.size
  show w.heap.size ≤ G k
  omega)
 obtain ⟨hc, hm⟩ := HF.out _ _ HM0.out
 rw [hc]
 simp only [Result.andThen]
 rw [Oper.upon_value]
 have HB4 := Lib.hid (below_setRow HB3.out (HO.out (G 0) ⟨0, by decide, rfl⟩) (Lib.byteCells fl.data.toList).toArray)
 simp only at hm
 generalize (w2.alloc (.cells #[.slice (some a1) 7 c1, .slice (some ⟨w1.heap.size, 0, none⟩) 7 7] 114)).setRow (G 0) (Lib.byteCells fl.data.toList).toArray = W4 at *
 have g1 := hm.f1
 have g2 := hm.row 1 (by decide)
 dsimp only at g1 g2
 obtain ⟨hc2, hm2⟩ := HI.out _ _ hm
 have HC2 := Lib.hid hc2
 have HM2 := Lib.hid hm2
 clear hc hm hc2 hm2 f1 r0 HF HI HM HM0 HBL
 go_wp2
 rw [HC2.out]
 simp only [Result.andThen]
 rw [Oper.upon_value]
 clear HC2
 go_wp2
 exact bodyPost_ret (v := .tuple #[.pointer (some ⟨w2.heap.size, 0, none⟩), .int .i64 0]) (by simp [results, Tryz.results31, go_sem]) rfl ⟨⟨w2.heap.size, a1, c1, w1.heap.size, G⟩, rfl, HM2.out, HO.out, below_setRow HB4.out (HO.out (G 1) ⟨1, by decide, rfl⟩) _⟩
/-- New's error -/
theorem new_bad (s : My.St) (w : World) (hE : ¬ My.good s) :
  Calls Tryz.prog 31 #[.agg #[.int .i64 s.i, .int .i64 s.o, .int .i64 s.r], .string s.fl, .string s.inp] w fun e w' => e = .returned (.tuple #[.pointer none, .int .i64 (My.err s)]) ∧ Below w.heap.size w w' := by
 by_cases h1 : My.merr s = 0
 ·have h2 : ¬ (s.inp.size : Int) = s.i := fun h => hE ⟨h1, h⟩
  have h := new_arg s w (Lib.hid h1) (by simpa using h2)
  unfold My.err
  rw [if_pos h1, if_neg h2]
  exact h
 ·have h := new_no s _ w (Lib.hid rfl) h1
  unfold My.err
  rw [if_neg h1]
  exact h
end Go.Proofs.YthciobjklhkkcaaGreat
end
section
namespace Go.Proofs.YthciobjklhkkcaaGreat
open Go.ChangeShapes Go.WideShapes Go.ChangeAt Go.RowKit
set_option maxHeartbeats 4000000
set_option linter.unusedVariables false

theorem there_any (op rd rn rm ra imm cond : Int) (wide : Bool) (w : World) :
  Calls Tryz.prog 111 #[.agg #[.int .i64 op, .int .i64 rd, .int .i64 rn, .int .i64 rm, .int .i64 ra, .int .i64 imm, .int .i64 cond, .bool wide]] w fun e w' => e = .returned (.bool (De.there ⟨op, rd, rn, rm, ra, imm, cond, wide⟩)) ∧ Below w.heap.size w w' := by
 go_enter Tryz.func111, Tryz.ntmps111
 go_wp2
 all_goals
  go_ret
  refine ⟨ret_bool ?_, by go_grown⟩
  simp_all [De.there] <;> omega
end Go.Proofs.YthciobjklhkkcaaGreat
end
