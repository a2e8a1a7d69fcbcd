/-
What package decode's Decode returns, as one; and that the document's examples are told.
-/
import Derived.Test.YthciobjklhkkcaaGreatP11a
import Derived.Test.YthciobjklhkkcaaGreatP07b
namespace Go.Proofs.YthciobjklhkkcaaGreat
open Go.ChangeShapes Go.WideShapes Go.ChangeAt Go.RowKit
set_option linter.unusedVariables false

theorem decode_any (s : ByteArray) (w : World) (hm : s.size ≤ maxLen) :
  Calls Tryz.prog 84 #[.string s] w fun e w' => e = .returned (.tuple #[insV (De.ins s), .int .i64 (De.len s : Int), .int .i64 (De.err s)]) ∧ Below w.heap.size w w' := by
 by_cases h : De.size s = 0 ∨ s.size < De.size s
 ·have he : De.err s = 3 := by unfold De.err; rw [if_pos h]
  have hi : De.ins s = Th.none0 := by unfold De.ins; rw [he, if_neg (by decide)]
  have hl : De.len s = 0 := by unfold De.len; rw [he, if_neg (by decide)]
  rw [he, hi, hl]
  exact dec_short s w hm h
 ·have hA : ∀ b, De.there (De.told s) = b → De.err s = if b then 0 else 7 := fun b hb => by
   unfold De.err; rw [if_neg h, hb]
  obtain ⟨x, hx⟩ : ∃ x, De.word s (De.size s) = x := ⟨_, rfl⟩
  obtain ⟨O, hO⟩ : ∃ O, De.find x = O := ⟨_, rfl⟩
  obtain ⟨⟨op, rd, rn, rm, ra, imm, cond, wide⟩, hR⟩ : ∃ i, De.read O x = i := ⟨_, rfl⟩
  have ht : De.told s = ⟨op, rd, rn, rm, ra, imm, cond, wide⟩ := by unfold De.told; rw [hx, hO, hR]
  rcases De.size_cases s with g | ⟨g, g2, g3⟩ | ⟨g, g2⟩
  ·exact absurd (Or.inl g) h
  ·have hX : De.half s 0 = x := by rw [← hx, g]; rfl
   cases hT : De.there ⟨op, rd, rn, rm, ra, imm, cond, wide⟩ with
   | true =>
    have he : De.err s = 0 := hA true (by rw [ht, hT])
    have hi : De.ins s = ⟨op, rd, rn, rm, ra, imm, cond, wide⟩ := by unfold De.ins; rw [if_pos he, ht]
    have hl : De.len s = 2 := by unfold De.len; rw [if_pos he, g]
    rw [he, hi, hl]
    exact dec_2y s O op rd rn rm ra imm cond wide x w hm g3 g hX hO hR hT
   | false =>
    have he : De.err s = 7 := hA false (by rw [ht, hT])
    have hi : De.ins s = Th.none0 := by unfold De.ins; rw [he, if_neg (by decide)]
    have hl : De.len s = 0 := by unfold De.len; rw [he, if_neg (by decide)]
    rw [he, hi, hl]
    exact dec_2n s O op rd rn rm ra imm cond wide x w hm g3 g hX hO hR hT
  ·have hX : De.half s 0 * 65536 + De.half s 1 = x := by rw [← hx, g]; rfl
   have g4 : 4 ≤ s.size := by omega
   cases hT : De.there ⟨op, rd, rn, rm, ra, imm, cond, wide⟩ with
   | true =>
    have he : De.err s = 0 := hA true (by rw [ht, hT])
    have hi : De.ins s = ⟨op, rd, rn, rm, ra, imm, cond, wide⟩ := by unfold De.ins; rw [if_pos he, ht]
    have hl : De.len s = 4 := by unfold De.len; rw [if_pos he, g]
    rw [he, hi, hl]
    exact dec_4y s O op rd rn rm ra imm cond wide x w hm g4 g hX hO hR hT
   | false =>
    have he : De.err s = 7 := hA false (by rw [ht, hT])
    have hi : De.ins s = Th.none0 := by unfold De.ins; rw [he, if_neg (by decide)]
    have hl : De.len s = 0 := by unfold De.len; rw [he, if_neg (by decide)]
    rw [he, hi, hl]
    exact dec_4n s O op rd rn rm ra imm cond wide x w hm g4 g hX hO hR hT
/-- what bytes are told as -/
def Told (s : ByteArray) (i : Th.Ins) (n e : Int) : Prop := De.ins s = i ∧ (De.len s : Int) = n ∧ De.err s = e
theorem decode_lit (s : ByteArray) (op rd rn rm ra imm cond : Int) (wide : Bool) (n e : Int) (w : World) (hm : s.size ≤ maxLen) (h : Told s ⟨op, rd, rn, rm, ra, imm, cond, wide⟩ n e) :
  Calls Tryz.prog 84 #[.string s] w fun r w' => r = .returned (.tuple #[.agg #[.int .i64 op, .int .i64 rd, .int .i64 rn, .int .i64 rm, .int .i64 ra, .int .i64 imm, .int .i64 cond, .bool wide], .int .i64 n, .int .i64 e]) ∧ Below w.heap.size w w' := by
 have := decode_any s w hm
 rw [h.1, h.2.1, h.2.2] at this
 exact this
end Go.Proofs.YthciobjklhkkcaaGreat
