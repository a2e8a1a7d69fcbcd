/-
  What package thumb's Encode returns.
-/
import Derived.Test.YtplfpaffjaldoaaThumbG
import Derived.Test.YtplfpaffjaldoaaThumbK
import Derived.Test.YtplfpaffjaldoaaThumbM
namespace Go.Proofs.Ytplfpaffjaldoaa
open Go.ChangeShapes Go.WideShapes Go.ChangeAt Go.RowKit

theorem sy_step {W w1 w2 : World} {b : Nat} {op rd rn rm ra imm cond : Int} {wide : Bool}
    (hb : Below w1.heap.size w1 w2) (h : Below W.heap.size W w1 ∧ InsAt w1 b op rd rn rm ra imm cond wide) (h1 : b < W.heap.size) :
    Below W.heap.size W w2 ∧ InsAt w2 b op rd rn rm ra imm cond wide := by
  obtain ⟨h0, g1⟩ := h
  have := h0.size
  exact ⟨h0.trans (hb.mono h0.size), g1.below hb (by omega)⟩
theorem size_any' (op rd rn rm ra imm cond : Int) (wide : Bool) (n : Int) (w : World) (h : Th.size ⟨op, rd, rn, rm, ra, imm, cond, wide⟩ = n) :
    Calls Try.prog 12 #[.agg #[.int .i64 op, .int .i64 rd, .int .i64 rn, .int .i64 rm, .int .i64 ra, .int .i64 imm, .int .i64 cond, .bool wide]] w fun e w' => e = .returned (.int .i64 n) ∧ Below w.heap.size w w' := by
  rw [← h]; exact size_any _ _ _ _ _ _ _ _ w
set_option maxHeartbeats 4000000 in
theorem enc_some2 (op rd rn rm ra imm cond : Int) (wide : Bool) (w : World) (h0 : Th.check ⟨op, rd, rn, rm, ra, imm, cond, wide⟩ = 0) (h1 : op ≠ 1) (hs : Th.size ⟨op, rd, rn, rm, ra, imm, cond, wide⟩ = 2) (hn : Th.num ⟨op, rd, rn, rm, ra, imm, cond, wide⟩ < 65536) :
    Calls Try.prog 37 #[.agg #[.int .i64 op, .int .i64 rd, .int .i64 rn, .int .i64 rm, .int .i64 ra, .int .i64 imm, .int .i64 cond, .bool wide]] w fun e w' => e = .returned (.tuple #[.string (Th.str2 (Th.num ⟨op, rd, rn, rm, ra, imm, cond, wide⟩)), .int .i64 0]) ∧ Below w.heap.size w w' := by
  have hc : (Th.check ⟨op, rd, rn, rm, ra, imm, cond, wide⟩ != 0) = false := by rw [h0]; rfl
  have H0 := Lib.hid h0
  have HS := Lib.hid hs
  clear h0 hs
  go_enter Try.func37, Try.ntmps37
  go_wp2_with (go_at_call 28; refine (check_any _ _ _ _ _ _ _ _ _).mono ?_; rintro e w0 ⟨rfl, hb⟩)
  have hz := hb.size
  simp at hz
  have HC := (ins_alloc w 39 op rd rn rm ra imm cond wide).below hb (by simp)
  have HB : Hid (Below w.heap.size w w0) := ((Below.refl _ _).alloc (Nat.le_refl _) _).trans (hb.mono (by simp))
  have hs1 : w.heap.size < w0.heap.size := by omega
  clear hb hz
  generalize Value.agg #[.int .i64 op, _, _, _, _, _, _, _] = u0
  go_region_held3 (fun wx => Below w0.heap.size w0 wx ∧ InsAt wx w.heap.size op rd rn rm ra imm cond wide)
    (first | exact ⟨(Below.refl _ _).drew, HC⟩ | exact sy_step (by assumption) (by assumption) hs1)
    (first | (go_at_call 59; refine (fixed_any _ _ _ _ _ _ _ _ _).mono ?_; rintro e w1 ⟨rfl, hb1⟩) | (go_at_call 60; refine (fields_any _ _ _ _ _ _ _ _ _ H0.out h1).mono ?_; rintro e w2 ⟨b, rfl, hfl, hbl, hb2⟩) | (go_at_call 58; refine (put_any _ _ b _ (Th.fixed_lt _ _) (Th.fields_ok _ H0.out) (by assumption) (by assumption) (Th.fields_len _)).mono ?_; rintro e w3 ⟨rfl, hb3⟩) | (go_at_call 12; refine (size_any' _ _ _ _ _ _ _ _ 2 _ HS.out).mono ?_; rintro e w4 ⟨rfl, hb4⟩) | (go_at_call 57; refine (join2 _ hn _).mono ?_; rintro e w5 ⟨rfl, hb5⟩))
  rename_i hH
  go_wp2
  go_ret2
  exact ⟨rfl, HB.out.trans (hH.1.mono (by omega))⟩
set_option maxHeartbeats 4000000 in
theorem enc_some4 (op rd rn rm ra imm cond : Int) (wide : Bool) (w : World) (h0 : Th.check ⟨op, rd, rn, rm, ra, imm, cond, wide⟩ = 0) (h1 : op ≠ 1) (hs : Th.size ⟨op, rd, rn, rm, ra, imm, cond, wide⟩ = 4) (hn : Th.num ⟨op, rd, rn, rm, ra, imm, cond, wide⟩ < 4294967296) :
    Calls Try.prog 37 #[.agg #[.int .i64 op, .int .i64 rd, .int .i64 rn, .int .i64 rm, .int .i64 ra, .int .i64 imm, .int .i64 cond, .bool wide]] w fun e w' => e = .returned (.tuple #[.string (Th.str4 (Th.num ⟨op, rd, rn, rm, ra, imm, cond, wide⟩)), .int .i64 0]) ∧ Below w.heap.size w w' := by
  have hc : (Th.check ⟨op, rd, rn, rm, ra, imm, cond, wide⟩ != 0) = false := by rw [h0]; rfl
  have H0 := Lib.hid h0
  have HS := Lib.hid hs
  clear h0 hs
  go_enter Try.func37, Try.ntmps37
  go_wp2_with (go_at_call 28; refine (check_any _ _ _ _ _ _ _ _ _).mono ?_; rintro e w0 ⟨rfl, hb⟩)
  have hz := hb.size
  simp at hz
  have HC := (ins_alloc w 39 op rd rn rm ra imm cond wide).below hb (by simp)
  have HB : Hid (Below w.heap.size w w0) := ((Below.refl _ _).alloc (Nat.le_refl _) _).trans (hb.mono (by simp))
  have hs1 : w.heap.size < w0.heap.size := by omega
  clear hb hz
  generalize Value.agg #[.int .i64 op, _, _, _, _, _, _, _] = u0
  go_region_held3 (fun wx => Below w0.heap.size w0 wx ∧ InsAt wx w.heap.size op rd rn rm ra imm cond wide)
    (first | exact ⟨(Below.refl _ _).drew, HC⟩ | exact sy_step (by assumption) (by assumption) hs1)
    (first | (go_at_call 59; refine (fixed_any _ _ _ _ _ _ _ _ _).mono ?_; rintro e w1 ⟨rfl, hb1⟩) | (go_at_call 60; refine (fields_any _ _ _ _ _ _ _ _ _ H0.out h1).mono ?_; rintro e w2 ⟨b, rfl, hfl, hbl, hb2⟩) | (go_at_call 58; refine (put_any _ _ b _ (Th.fixed_lt _ _) (Th.fields_ok _ H0.out) (by assumption) (by assumption) (Th.fields_len _)).mono ?_; rintro e w3 ⟨rfl, hb3⟩) | (go_at_call 12; refine (size_any' _ _ _ _ _ _ _ _ 4 _ HS.out).mono ?_; rintro e w4 ⟨rfl, hb4⟩) | (go_at_call 57; refine (join4 _ hn _).mono ?_; rintro e w5 ⟨rfl, hb5⟩))
  rename_i hH
  go_wp2
  go_ret2
  exact ⟨rfl, HB.out.trans (hH.1.mono (by omega))⟩
set_option maxHeartbeats 4000000 in
theorem enc_nop (rd rn rm ra imm cond : Int) (wide : Bool) (w : World) (h0 : Th.check ⟨1, rd, rn, rm, ra, imm, cond, wide⟩ = 0) (hs : Th.size ⟨1, rd, rn, rm, ra, imm, cond, wide⟩ = 2) :
    Calls Try.prog 37 #[.agg #[.int .i64 1, .int .i64 rd, .int .i64 rn, .int .i64 rm, .int .i64 ra, .int .i64 imm, .int .i64 cond, .bool wide]] w fun e w' => e = .returned (.tuple #[.string (Th.str2 48896), .int .i64 0]) ∧ Below w.heap.size w w' := by
  have hc : (Th.check ⟨1, rd, rn, rm, ra, imm, cond, wide⟩ != 0) = false := by rw [h0]; rfl
  have H0 := Lib.hid h0
  have HS := Lib.hid hs
  clear h0 hs
  go_enter Try.func37, Try.ntmps37
  go_wp2_with (go_at_call 28; refine (check_any _ _ _ _ _ _ _ _ _).mono ?_; rintro e w0 ⟨rfl, hb⟩)
  have hz := hb.size
  simp at hz
  have HC := (ins_alloc w 39 1 rd rn rm ra imm cond wide).below hb (by simp)
  have HB : Hid (Below w.heap.size w w0) := ((Below.refl _ _).alloc (Nat.le_refl _) _).trans (hb.mono (by simp))
  have hs1 : w.heap.size < w0.heap.size := by omega
  clear hb hz
  generalize Value.agg #[.int .i64 1, _, _, _, _, _, _, _] = u0
  go_region_held3 (fun wx => Below w0.heap.size w0 wx ∧ InsAt wx w.heap.size 1 rd rn rm ra imm cond wide)
    (first | exact ⟨(Below.refl _ _).drew, HC⟩ | exact sy_step (by assumption) (by assumption) hs1)
    (first | (go_at_call 59; refine (fixed_any _ _ _ _ _ _ _ _ _).mono ?_; rintro e w1 ⟨rfl, hb1⟩) | (go_at_call 60; refine (fields_nop _ _ _ _ _ _ _ _).mono ?_; rintro e w2 ⟨rfl, hb2⟩) | (go_at_call 58; refine (put_nil _ _).mono ?_; rintro e w3 ⟨rfl, hb3⟩) | (go_at_call 12; refine (size_any' _ _ _ _ _ _ _ _ 2 _ HS.out).mono ?_; rintro e w4 ⟨rfl, hb4⟩) | (go_at_call 57; refine (join2 48896 (by decide) _).mono ?_; rintro e w5 ⟨rfl, hb5⟩))
  rename_i hH
  go_wp2
  go_ret2
  exact ⟨rfl, HB.out.trans (hH.1.mono (by omega))⟩
set_option maxHeartbeats 1000000 in
theorem enc_err (op rd rn rm ra imm cond : Int) (wide : Bool) (w : World) (h0 : Th.check ⟨op, rd, rn, rm, ra, imm, cond, wide⟩ ≠ 0) :
    Calls Try.prog 37 #[.agg #[.int .i64 op, .int .i64 rd, .int .i64 rn, .int .i64 rm, .int .i64 ra, .int .i64 imm, .int .i64 cond, .bool wide]] w fun e w' => e = .returned (.tuple #[.string ⟨#[]⟩, .int .i64 (Th.check ⟨op, rd, rn, rm, ra, imm, cond, wide⟩)]) ∧ Below w.heap.size w w' := by
  have hc : (Th.check ⟨op, rd, rn, rm, ra, imm, cond, wide⟩ != 0) = true := by simp [h0]
  clear h0
  go_enter Try.func37, Try.ntmps37
  go_wp2_with (go_at_call 28; refine (check_any _ _ _ _ _ _ _ _ _).mono ?_; rintro e w0 ⟨rfl, hb⟩)
  go_ret2
  exact ⟨rfl, ((Below.refl _ _).alloc (Nat.le_refl _) _).trans (hb.mono (by simp))⟩
theorem encode_any (op rd rn rm ra imm cond : Int) (wide : Bool) (w : World) :
    Calls Try.prog 37 #[.agg #[.int .i64 op, .int .i64 rd, .int .i64 rn, .int .i64 rm, .int .i64 ra, .int .i64 imm, .int .i64 cond, .bool wide]] w fun e w' => e = .returned (.tuple #[.string (Th.encS ⟨op, rd, rn, rm, ra, imm, cond, wide⟩), .int .i64 (Th.check ⟨op, rd, rn, rm, ra, imm, cond, wide⟩)]) ∧ Below w.heap.size w w' := by
  by_cases h0 : Th.check ⟨op, rd, rn, rm, ra, imm, cond, wide⟩ = 0
  · have hn := Th.size_num ⟨op, rd, rn, rm, ra, imm, cond, wide⟩ h0
    have he : Th.encS ⟨op, rd, rn, rm, ra, imm, cond, wide⟩ = if Th.size ⟨op, rd, rn, rm, ra, imm, cond, wide⟩ = 2 then Th.str2 (Th.num ⟨op, rd, rn, rm, ra, imm, cond, wide⟩) else Th.str4 (Th.num ⟨op, rd, rn, rm, ra, imm, cond, wide⟩) := if_pos h0
    rw [he, h0]
    by_cases h1 : op = 1
    · subst h1
      have hs := Th.size1 _ _ _ _ _ _ _ h0
      rw [if_pos hs, Th.num1]
      exact enc_nop _ _ _ _ _ _ _ w h0 hs
    · rcases hn with ⟨hs, hn⟩ | ⟨hs, _, hn⟩
      · rw [if_pos hs]; exact enc_some2 _ _ _ _ _ _ _ _ w h0 h1 hs hn
      · rw [if_neg (by rw [hs]; decide)]; exact enc_some4 _ _ _ _ _ _ _ _ w h0 h1 hs hn
  · have he : Th.encS ⟨op, rd, rn, rm, ra, imm, cond, wide⟩ = ⟨#[]⟩ := if_neg h0
    rw [he]
    exact enc_err _ _ _ _ _ _ _ _ w h0

/-- the document's examples -/
theorem lives_a : Th.encS ⟨3, 1, 0, 0, 0, 4660, 0, false⟩ = ⟨#[65, 242, 52, 33]⟩ := by decide +kernel
theorem lives_b : Th.encS ⟨24, 0, 0, 0, 0, -4, 0, false⟩ = ⟨#[254, 231]⟩ := by decide +kernel
theorem encode_a (w : World) : Calls Try.prog 37 #[.agg #[.int .i64 3, .int .i64 1, .int .i64 0, .int .i64 0, .int .i64 0, .int .i64 4660, .int .i64 0, .bool false]] w fun e w' => e = .returned (.tuple #[.string ⟨#[65, 242, 52, 33]⟩, .int .i64 0]) ∧ Below w.heap.size w w' := by
  have := encode_any 3 1 0 0 0 4660 0 false w
  rw [lives_a] at this
  exact this
theorem encode_b (w : World) : Calls Try.prog 37 #[.agg #[.int .i64 24, .int .i64 0, .int .i64 0, .int .i64 0, .int .i64 0, .int .i64 (-4), .int .i64 0, .bool false]] w fun e w' => e = .returned (.tuple #[.string ⟨#[254, 231]⟩, .int .i64 0]) ∧ Below w.heap.size w w' := by
  have := encode_any 24 0 0 0 0 (-4) 0 false w
  rw [lives_b] at this
  exact this
end Go.Proofs.Ytplfpaffjaldoaa
