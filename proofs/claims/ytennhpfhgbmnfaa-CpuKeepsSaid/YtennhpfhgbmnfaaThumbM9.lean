/-
  The document's own table of instructions: what it asks is what the program asks. It names nothing of the translated program.
-/
import Derived.Test.YtennhpfhgbmnfaaThumbM8
namespace Go.Proofs.Ytennhpfhgbmnfaa.Th
open Go.RowKit

def rchain (i : Ins) : Bool := rnumber i.op i.imm && rreg (rbits i.op i.wide) 100 i.rd && rreg (rbits i.op i.wide) 110 i.rn && rreg (rbits i.op i.wide) 109 i.rm && rreg (rbits i.op i.wide) 97 (if i.op == 18 then 0 else i.ra)
def rextra (i : Ins) : Bool :=
  if i.op == 18 then decide (1 ≤ i.ra) && decide (i.ra ≤ 32 - i.imm) && i.cond == 0
  else if i.op == 17 then i.ra != i.rd && i.cond == 0
  else if i.op == 25 then decide (0 ≤ i.cond) && decide (i.cond ≤ 13)
  else i.cond == 0
theorem rreg_y (s : ByteArray) (c n M : Int) (h : rhas s c = true) (hM : (if s.size = 16 then (7 : Int) else 12) = M) : rreg s c n = (decide (0 ≤ n) && decide (n ≤ M)) := by
  unfold rreg; rw [h, hM]; rfl
theorem rreg_n (s : ByteArray) (c n : Int) (h : rhas s c = false) : rreg s c n = (n == 0) := by
  unfold rreg; rw [h]; rfl
theorem known_no (op rd ra : Int) (h : ¬ (1 ≤ op ∧ op ≤ 25)) : known op rd ra = false := by
  cases e : known op rd ra
  · rfl
  · exact absurd (known_op e) h
theorem rbits_no (op : Int) (wide : Bool) (h : ¬ (1 ≤ op ∧ op ≤ 25)) : rbits op wide = ⟨#[]⟩ := by
  have e : ∀ k : Int, 1 ≤ k → k ≤ 25 → (op == k) = false := fun k h1 h2 => by rw [beq_eq_false_iff_ne]; omega
  unfold rbits rmore
  cases wide <;> simp [e]
theorem fits_chain (i : Ins) : (rbits i.op i.wide = ⟨#[]⟩ ∧ fits i = false) ∨ (¬ (rbits i.op i.wide).toList = [] ∧ (rbits i.op i.wide).size ≤ 64 ∧ fits i = (rchain i && rextra i)) := by
  obtain ⟨op, rd, rn, rm, ra, imm, cond, wide⟩ := i
  by_cases h : 1 ≤ op ∧ op ≤ 25
  case neg => exact .inl ⟨rbits_no op wide h, by simp [fits, known_no op rd ra h]⟩
  rcases op_cases h with rfl | rfl | rfl | rfl | rfl | rfl | rfl | rfl | rfl | rfl | rfl | rfl | rfl | rfl | rfl | rfl | rfl | rfl | rfl | rfl | rfl | rfl | rfl | rfl | rfl
  · cases wide
    ·
      have r0 := rreg_n (rbits 1 false) 100 rd (by decide)
      have r1 := rreg_n (rbits 1 false) 110 rn (by decide)
      have r2 := rreg_n (rbits 1 false) 109 rm (by decide)
      have r3 := rreg_n (rbits 1 false) 97 ra (by decide)
      refine .inr ⟨(show ¬ (rbits 1 false).toList = [] from by rw [ByteArray.toList_eq]; decide), (show (rbits 1 false).size ≤ 64 from by decide), ?_⟩
      show fits ⟨1, rd, rn, rm, ra, imm, cond, false⟩ = (rnumber 1 imm && rreg (rbits 1 false) 100 rd && rreg (rbits 1 false) 110 rn && rreg (rbits 1 false) 109 rm && rreg (rbits 1 false) 97 ra && rextra ⟨1, rd, rn, rm, ra, imm, cond, false⟩)
      rw [r0, r1, r2, r3]
      clear r0 r1 r2 r3
      rw [Bool.eq_iff_iff]
      simp [fits, known, within, most, least, none0, rnumber, rextra]
      omega
    · exact .inl ⟨rfl, by simp [fits, within, most, none0]⟩
  · cases wide
    ·
      have r0 := rreg_n (rbits 2 false) 100 rd (by decide)
      have r1 := rreg_n (rbits 2 false) 110 rn (by decide)
      have r2 := rreg_n (rbits 2 false) 109 rm (by decide)
      have r3 := rreg_n (rbits 2 false) 97 ra (by decide)
      refine .inr ⟨(show ¬ (rbits 2 false).toList = [] from by rw [ByteArray.toList_eq]; decide), (show (rbits 2 false).size ≤ 64 from by decide), ?_⟩
      show fits ⟨2, rd, rn, rm, ra, imm, cond, false⟩ = (rnumber 2 imm && rreg (rbits 2 false) 100 rd && rreg (rbits 2 false) 110 rn && rreg (rbits 2 false) 109 rm && rreg (rbits 2 false) 97 ra && rextra ⟨2, rd, rn, rm, ra, imm, cond, false⟩)
      rw [r0, r1, r2, r3]
      clear r0 r1 r2 r3
      rw [Bool.eq_iff_iff]
      simp [fits, known, within, most, least, none0, rnumber, rextra]
      omega
    · exact .inl ⟨rfl, by simp [fits, within, most, none0]⟩
  · cases wide
    ·
      have r0 := rreg_y (rbits 3 false) 100 rd 12 (by decide) (by decide)
      have r1 := rreg_n (rbits 3 false) 110 rn (by decide)
      have r2 := rreg_n (rbits 3 false) 109 rm (by decide)
      have r3 := rreg_n (rbits 3 false) 97 ra (by decide)
      refine .inr ⟨(show ¬ (rbits 3 false).toList = [] from by rw [ByteArray.toList_eq]; decide), (show (rbits 3 false).size ≤ 64 from by decide), ?_⟩
      show fits ⟨3, rd, rn, rm, ra, imm, cond, false⟩ = (rnumber 3 imm && rreg (rbits 3 false) 100 rd && rreg (rbits 3 false) 110 rn && rreg (rbits 3 false) 109 rm && rreg (rbits 3 false) 97 ra && rextra ⟨3, rd, rn, rm, ra, imm, cond, false⟩)
      rw [r0, r1, r2, r3]
      clear r0 r1 r2 r3
      rw [Bool.eq_iff_iff]
      simp [fits, known, within, most, least, none0, rnumber, rextra]
      omega
    · exact .inl ⟨rfl, by simp [fits, within, most, none0]⟩
  · cases wide
    ·
      have r0 := rreg_y (rbits 4 false) 100 rd 12 (by decide) (by decide)
      have r1 := rreg_n (rbits 4 false) 110 rn (by decide)
      have r2 := rreg_n (rbits 4 false) 109 rm (by decide)
      have r3 := rreg_n (rbits 4 false) 97 ra (by decide)
      refine .inr ⟨(show ¬ (rbits 4 false).toList = [] from by rw [ByteArray.toList_eq]; decide), (show (rbits 4 false).size ≤ 64 from by decide), ?_⟩
      show fits ⟨4, rd, rn, rm, ra, imm, cond, false⟩ = (rnumber 4 imm && rreg (rbits 4 false) 100 rd && rreg (rbits 4 false) 110 rn && rreg (rbits 4 false) 109 rm && rreg (rbits 4 false) 97 ra && rextra ⟨4, rd, rn, rm, ra, imm, cond, false⟩)
      rw [r0, r1, r2, r3]
      clear r0 r1 r2 r3
      rw [Bool.eq_iff_iff]
      simp [fits, known, within, most, least, none0, rnumber, rextra]
      omega
    · exact .inl ⟨rfl, by simp [fits, within, most, none0]⟩
  · cases wide
    ·
      have r0 := rreg_y (rbits 5 false) 100 rd 12 (by decide) (by decide)
      have r1 := rreg_n (rbits 5 false) 110 rn (by decide)
      have r2 := rreg_y (rbits 5 false) 109 rm 12 (by decide) (by decide)
      have r3 := rreg_n (rbits 5 false) 97 ra (by decide)
      refine .inr ⟨(show ¬ (rbits 5 false).toList = [] from by rw [ByteArray.toList_eq]; decide), (show (rbits 5 false).size ≤ 64 from by decide), ?_⟩
      show fits ⟨5, rd, rn, rm, ra, imm, cond, false⟩ = (rnumber 5 imm && rreg (rbits 5 false) 100 rd && rreg (rbits 5 false) 110 rn && rreg (rbits 5 false) 109 rm && rreg (rbits 5 false) 97 ra && rextra ⟨5, rd, rn, rm, ra, imm, cond, false⟩)
      rw [r0, r1, r2, r3]
      clear r0 r1 r2 r3
      rw [Bool.eq_iff_iff]
      simp [fits, known, within, most, least, none0, rnumber, rextra]
      omega
    · exact .inl ⟨rfl, by simp [fits, within, most, none0]⟩
  · cases wide
    ·
      have r0 := rreg_y (rbits 6 false) 100 rd 12 (by decide) (by decide)
      have r1 := rreg_n (rbits 6 false) 110 rn (by decide)
      have r2 := rreg_y (rbits 6 false) 109 rm 12 (by decide) (by decide)
      have r3 := rreg_n (rbits 6 false) 97 ra (by decide)
      refine .inr ⟨(show ¬ (rbits 6 false).toList = [] from by rw [ByteArray.toList_eq]; decide), (show (rbits 6 false).size ≤ 64 from by decide), ?_⟩
      show fits ⟨6, rd, rn, rm, ra, imm, cond, false⟩ = (rnumber 6 imm && rreg (rbits 6 false) 100 rd && rreg (rbits 6 false) 110 rn && rreg (rbits 6 false) 109 rm && rreg (rbits 6 false) 97 ra && rextra ⟨6, rd, rn, rm, ra, imm, cond, false⟩)
      rw [r0, r1, r2, r3]
      clear r0 r1 r2 r3
      rw [Bool.eq_iff_iff]
      simp [fits, known, within, most, least, none0, rnumber, rextra]
      omega
    · exact .inl ⟨rfl, by simp [fits, within, most, none0]⟩
  · cases wide
    ·
      have r0 := rreg_y (rbits 7 false) 100 rd 12 (by decide) (by decide)
      have r1 := rreg_n (rbits 7 false) 110 rn (by decide)
      have r2 := rreg_y (rbits 7 false) 109 rm 12 (by decide) (by decide)
      have r3 := rreg_n (rbits 7 false) 97 ra (by decide)
      refine .inr ⟨(show ¬ (rbits 7 false).toList = [] from by rw [ByteArray.toList_eq]; decide), (show (rbits 7 false).size ≤ 64 from by decide), ?_⟩
      show fits ⟨7, rd, rn, rm, ra, imm, cond, false⟩ = (rnumber 7 imm && rreg (rbits 7 false) 100 rd && rreg (rbits 7 false) 110 rn && rreg (rbits 7 false) 109 rm && rreg (rbits 7 false) 97 ra && rextra ⟨7, rd, rn, rm, ra, imm, cond, false⟩)
      rw [r0, r1, r2, r3]
      clear r0 r1 r2 r3
      rw [Bool.eq_iff_iff]
      simp [fits, known, within, most, least, none0, rnumber, rextra]
      omega
    · exact .inl ⟨rfl, by simp [fits, within, most, none0]⟩
  · cases wide
    ·
      have r0 := rreg_y (rbits 8 false) 100 rd 12 (by decide) (by decide)
      have r1 := rreg_n (rbits 8 false) 110 rn (by decide)
      have r2 := rreg_y (rbits 8 false) 109 rm 12 (by decide) (by decide)
      have r3 := rreg_n (rbits 8 false) 97 ra (by decide)
      refine .inr ⟨(show ¬ (rbits 8 false).toList = [] from by rw [ByteArray.toList_eq]; decide), (show (rbits 8 false).size ≤ 64 from by decide), ?_⟩
      show fits ⟨8, rd, rn, rm, ra, imm, cond, false⟩ = (rnumber 8 imm && rreg (rbits 8 false) 100 rd && rreg (rbits 8 false) 110 rn && rreg (rbits 8 false) 109 rm && rreg (rbits 8 false) 97 ra && rextra ⟨8, rd, rn, rm, ra, imm, cond, false⟩)
      rw [r0, r1, r2, r3]
      clear r0 r1 r2 r3
      rw [Bool.eq_iff_iff]
      simp [fits, known, within, most, least, none0, rnumber, rextra]
      omega
    · exact .inl ⟨rfl, by simp [fits, within, most, none0]⟩
  · cases wide
    ·
      have r0 := rreg_y (rbits 9 false) 100 rd 12 (by decide) (by decide)
      have r1 := rreg_n (rbits 9 false) 110 rn (by decide)
      have r2 := rreg_y (rbits 9 false) 109 rm 12 (by decide) (by decide)
      have r3 := rreg_n (rbits 9 false) 97 ra (by decide)
      refine .inr ⟨(show ¬ (rbits 9 false).toList = [] from by rw [ByteArray.toList_eq]; decide), (show (rbits 9 false).size ≤ 64 from by decide), ?_⟩
      show fits ⟨9, rd, rn, rm, ra, imm, cond, false⟩ = (rnumber 9 imm && rreg (rbits 9 false) 100 rd && rreg (rbits 9 false) 110 rn && rreg (rbits 9 false) 109 rm && rreg (rbits 9 false) 97 ra && rextra ⟨9, rd, rn, rm, ra, imm, cond, false⟩)
      rw [r0, r1, r2, r3]
      clear r0 r1 r2 r3
      rw [Bool.eq_iff_iff]
      simp [fits, known, within, most, least, none0, rnumber, rextra]
      omega
    · exact .inl ⟨rfl, by simp [fits, within, most, none0]⟩
  · cases wide
    ·
      have r0 := rreg_y (rbits 10 false) 100 rd 12 (by decide) (by decide)
      have r1 := rreg_y (rbits 10 false) 110 rn 12 (by decide) (by decide)
      have r2 := rreg_y (rbits 10 false) 109 rm 12 (by decide) (by decide)
      have r3 := rreg_n (rbits 10 false) 97 ra (by decide)
      refine .inr ⟨(show ¬ (rbits 10 false).toList = [] from by rw [ByteArray.toList_eq]; decide), (show (rbits 10 false).size ≤ 64 from by decide), ?_⟩
      show fits ⟨10, rd, rn, rm, ra, imm, cond, false⟩ = (rnumber 10 imm && rreg (rbits 10 false) 100 rd && rreg (rbits 10 false) 110 rn && rreg (rbits 10 false) 109 rm && rreg (rbits 10 false) 97 ra && rextra ⟨10, rd, rn, rm, ra, imm, cond, false⟩)
      rw [r0, r1, r2, r3]
      clear r0 r1 r2 r3
      rw [Bool.eq_iff_iff]
      simp [fits, known, within, most, least, none0, rnumber, rextra]
      omega
    · exact .inl ⟨rfl, by simp [fits, within, most, none0]⟩
  · cases wide
    ·
      have r0 := rreg_y (rbits 11 false) 100 rd 12 (by decide) (by decide)
      have r1 := rreg_y (rbits 11 false) 110 rn 12 (by decide) (by decide)
      have r2 := rreg_y (rbits 11 false) 109 rm 12 (by decide) (by decide)
      have r3 := rreg_n (rbits 11 false) 97 ra (by decide)
      refine .inr ⟨(show ¬ (rbits 11 false).toList = [] from by rw [ByteArray.toList_eq]; decide), (show (rbits 11 false).size ≤ 64 from by decide), ?_⟩
      show fits ⟨11, rd, rn, rm, ra, imm, cond, false⟩ = (rnumber 11 imm && rreg (rbits 11 false) 100 rd && rreg (rbits 11 false) 110 rn && rreg (rbits 11 false) 109 rm && rreg (rbits 11 false) 97 ra && rextra ⟨11, rd, rn, rm, ra, imm, cond, false⟩)
      rw [r0, r1, r2, r3]
      clear r0 r1 r2 r3
      rw [Bool.eq_iff_iff]
      simp [fits, known, within, most, least, none0, rnumber, rextra]
      omega
    · exact .inl ⟨rfl, by simp [fits, within, most, none0]⟩
  · cases wide
    ·
      have r0 := rreg_y (rbits 12 false) 100 rd 12 (by decide) (by decide)
      have r1 := rreg_y (rbits 12 false) 110 rn 12 (by decide) (by decide)
      have r2 := rreg_y (rbits 12 false) 109 rm 12 (by decide) (by decide)
      have r3 := rreg_n (rbits 12 false) 97 ra (by decide)
      refine .inr ⟨(show ¬ (rbits 12 false).toList = [] from by rw [ByteArray.toList_eq]; decide), (show (rbits 12 false).size ≤ 64 from by decide), ?_⟩
      show fits ⟨12, rd, rn, rm, ra, imm, cond, false⟩ = (rnumber 12 imm && rreg (rbits 12 false) 100 rd && rreg (rbits 12 false) 110 rn && rreg (rbits 12 false) 109 rm && rreg (rbits 12 false) 97 ra && rextra ⟨12, rd, rn, rm, ra, imm, cond, false⟩)
      rw [r0, r1, r2, r3]
      clear r0 r1 r2 r3
      rw [Bool.eq_iff_iff]
      simp [fits, known, within, most, least, none0, rnumber, rextra]
      omega
    · exact .inl ⟨rfl, by simp [fits, within, most, none0]⟩
  · cases wide
    ·
      have r0 := rreg_y (rbits 13 false) 100 rd 12 (by decide) (by decide)
      have r1 := rreg_y (rbits 13 false) 110 rn 12 (by decide) (by decide)
      have r2 := rreg_y (rbits 13 false) 109 rm 12 (by decide) (by decide)
      have r3 := rreg_n (rbits 13 false) 97 ra (by decide)
      refine .inr ⟨(show ¬ (rbits 13 false).toList = [] from by rw [ByteArray.toList_eq]; decide), (show (rbits 13 false).size ≤ 64 from by decide), ?_⟩
      show fits ⟨13, rd, rn, rm, ra, imm, cond, false⟩ = (rnumber 13 imm && rreg (rbits 13 false) 100 rd && rreg (rbits 13 false) 110 rn && rreg (rbits 13 false) 109 rm && rreg (rbits 13 false) 97 ra && rextra ⟨13, rd, rn, rm, ra, imm, cond, false⟩)
      rw [r0, r1, r2, r3]
      clear r0 r1 r2 r3
      rw [Bool.eq_iff_iff]
      simp [fits, known, within, most, least, none0, rnumber, rextra]
      omega
    · exact .inl ⟨rfl, by simp [fits, within, most, none0]⟩
  · cases wide
    ·
      have r0 := rreg_y (rbits 14 false) 100 rd 12 (by decide) (by decide)
      have r1 := rreg_y (rbits 14 false) 110 rn 12 (by decide) (by decide)
      have r2 := rreg_y (rbits 14 false) 109 rm 12 (by decide) (by decide)
      have r3 := rreg_n (rbits 14 false) 97 ra (by decide)
      refine .inr ⟨(show ¬ (rbits 14 false).toList = [] from by rw [ByteArray.toList_eq]; decide), (show (rbits 14 false).size ≤ 64 from by decide), ?_⟩
      show fits ⟨14, rd, rn, rm, ra, imm, cond, false⟩ = (rnumber 14 imm && rreg (rbits 14 false) 100 rd && rreg (rbits 14 false) 110 rn && rreg (rbits 14 false) 109 rm && rreg (rbits 14 false) 97 ra && rextra ⟨14, rd, rn, rm, ra, imm, cond, false⟩)
      rw [r0, r1, r2, r3]
      clear r0 r1 r2 r3
      rw [Bool.eq_iff_iff]
      simp [fits, known, within, most, least, none0, rnumber, rextra]
      omega
    · exact .inl ⟨rfl, by simp [fits, within, most, none0]⟩
  · cases wide
    ·
      have r0 := rreg_y (rbits 15 false) 100 rd 12 (by decide) (by decide)
      have r1 := rreg_y (rbits 15 false) 110 rn 12 (by decide) (by decide)
      have r2 := rreg_y (rbits 15 false) 109 rm 12 (by decide) (by decide)
      have r3 := rreg_n (rbits 15 false) 97 ra (by decide)
      refine .inr ⟨(show ¬ (rbits 15 false).toList = [] from by rw [ByteArray.toList_eq]; decide), (show (rbits 15 false).size ≤ 64 from by decide), ?_⟩
      show fits ⟨15, rd, rn, rm, ra, imm, cond, false⟩ = (rnumber 15 imm && rreg (rbits 15 false) 100 rd && rreg (rbits 15 false) 110 rn && rreg (rbits 15 false) 109 rm && rreg (rbits 15 false) 97 ra && rextra ⟨15, rd, rn, rm, ra, imm, cond, false⟩)
      rw [r0, r1, r2, r3]
      clear r0 r1 r2 r3
      rw [Bool.eq_iff_iff]
      simp [fits, known, within, most, least, none0, rnumber, rextra]
      omega
    · exact .inl ⟨rfl, by simp [fits, within, most, none0]⟩
  · cases wide
    ·
      have r0 := rreg_y (rbits 16 false) 100 rd 12 (by decide) (by decide)
      have r1 := rreg_y (rbits 16 false) 110 rn 12 (by decide) (by decide)
      have r2 := rreg_y (rbits 16 false) 109 rm 12 (by decide) (by decide)
      have r3 := rreg_n (rbits 16 false) 97 ra (by decide)
      refine .inr ⟨(show ¬ (rbits 16 false).toList = [] from by rw [ByteArray.toList_eq]; decide), (show (rbits 16 false).size ≤ 64 from by decide), ?_⟩
      show fits ⟨16, rd, rn, rm, ra, imm, cond, false⟩ = (rnumber 16 imm && rreg (rbits 16 false) 100 rd && rreg (rbits 16 false) 110 rn && rreg (rbits 16 false) 109 rm && rreg (rbits 16 false) 97 ra && rextra ⟨16, rd, rn, rm, ra, imm, cond, false⟩)
      rw [r0, r1, r2, r3]
      clear r0 r1 r2 r3
      rw [Bool.eq_iff_iff]
      simp [fits, known, within, most, least, none0, rnumber, rextra]
      omega
    · exact .inl ⟨rfl, by simp [fits, within, most, none0]⟩
  · cases wide
    ·
      have r0 := rreg_y (rbits 17 false) 100 rd 12 (by decide) (by decide)
      have r1 := rreg_y (rbits 17 false) 110 rn 12 (by decide) (by decide)
      have r2 := rreg_y (rbits 17 false) 109 rm 12 (by decide) (by decide)
      have r3 := rreg_y (rbits 17 false) 97 ra 12 (by decide) (by decide)
      refine .inr ⟨(show ¬ (rbits 17 false).toList = [] from by rw [ByteArray.toList_eq]; decide), (show (rbits 17 false).size ≤ 64 from by decide), ?_⟩
      show fits ⟨17, rd, rn, rm, ra, imm, cond, false⟩ = (rnumber 17 imm && rreg (rbits 17 false) 100 rd && rreg (rbits 17 false) 110 rn && rreg (rbits 17 false) 109 rm && rreg (rbits 17 false) 97 ra && rextra ⟨17, rd, rn, rm, ra, imm, cond, false⟩)
      rw [r0, r1, r2, r3]
      clear r0 r1 r2 r3
      rw [Bool.eq_iff_iff]
      simp [fits, known, within, most, least, none0, rnumber, rextra]
      omega
    · exact .inl ⟨rfl, by simp [fits, within, most, none0]⟩
  · cases wide
    ·
      have r0 := rreg_y (rbits 18 false) 100 rd 12 (by decide) (by decide)
      have r1 := rreg_y (rbits 18 false) 110 rn 12 (by decide) (by decide)
      have r2 := rreg_n (rbits 18 false) 109 rm (by decide)
      have r3 := rreg_n (rbits 18 false) 97 0 (by decide)
      refine .inr ⟨(show ¬ (rbits 18 false).toList = [] from by rw [ByteArray.toList_eq]; decide), (show (rbits 18 false).size ≤ 64 from by decide), ?_⟩
      show fits ⟨18, rd, rn, rm, ra, imm, cond, false⟩ = (rnumber 18 imm && rreg (rbits 18 false) 100 rd && rreg (rbits 18 false) 110 rn && rreg (rbits 18 false) 109 rm && rreg (rbits 18 false) 97 0 && rextra ⟨18, rd, rn, rm, ra, imm, cond, false⟩)
      rw [r0, r1, r2, r3]
      clear r0 r1 r2 r3
      rw [Bool.eq_iff_iff]
      simp [fits, known, within, most, least, none0, rnumber, rextra]
      by_cases hi : 0 ≤ imm ∧ imm ≤ 31
      · rw [Wd.wrap64_in _ (by omega) (by omega)]; omega
      · omega
    · exact .inl ⟨rfl, by simp [fits, within, most, none0]⟩
  · cases wide
    ·
      have r0 := rreg_y (rbits 19 false) 100 rd 7 (by decide) (by decide)
      have r1 := rreg_y (rbits 19 false) 110 rn 7 (by decide) (by decide)
      have r2 := rreg_n (rbits 19 false) 109 rm (by decide)
      have r3 := rreg_n (rbits 19 false) 97 ra (by decide)
      refine .inr ⟨(show ¬ (rbits 19 false).toList = [] from by rw [ByteArray.toList_eq]; decide), (show (rbits 19 false).size ≤ 64 from by decide), ?_⟩
      show fits ⟨19, rd, rn, rm, ra, imm, cond, false⟩ = (rnumber 19 imm && rreg (rbits 19 false) 100 rd && rreg (rbits 19 false) 110 rn && rreg (rbits 19 false) 109 rm && rreg (rbits 19 false) 97 ra && rextra ⟨19, rd, rn, rm, ra, imm, cond, false⟩)
      rw [r0, r1, r2, r3]
      clear r0 r1 r2 r3
      rw [Bool.eq_iff_iff]
      simp [fits, known, within, most, least, none0, rnumber, rextra]
      omega
    · exact .inl ⟨rfl, by simp [fits, within, most, none0]⟩
  · cases wide
    ·
      have r0 := rreg_y (rbits 20 false) 100 rd 7 (by decide) (by decide)
      have r1 := rreg_y (rbits 20 false) 110 rn 7 (by decide) (by decide)
      have r2 := rreg_n (rbits 20 false) 109 rm (by decide)
      have r3 := rreg_n (rbits 20 false) 97 ra (by decide)
      refine .inr ⟨(show ¬ (rbits 20 false).toList = [] from by rw [ByteArray.toList_eq]; decide), (show (rbits 20 false).size ≤ 64 from by decide), ?_⟩
      show fits ⟨20, rd, rn, rm, ra, imm, cond, false⟩ = (rnumber 20 imm && rreg (rbits 20 false) 100 rd && rreg (rbits 20 false) 110 rn && rreg (rbits 20 false) 109 rm && rreg (rbits 20 false) 97 ra && rextra ⟨20, rd, rn, rm, ra, imm, cond, false⟩)
      rw [r0, r1, r2, r3]
      clear r0 r1 r2 r3
      rw [Bool.eq_iff_iff]
      simp [fits, known, within, most, least, none0, rnumber, rextra]
      omega
    · exact .inl ⟨rfl, by simp [fits, within, most, none0]⟩
  · cases wide
    ·
      have r0 := rreg_y (rbits 21 false) 100 rd 7 (by decide) (by decide)
      have r1 := rreg_y (rbits 21 false) 110 rn 7 (by decide) (by decide)
      have r2 := rreg_n (rbits 21 false) 109 rm (by decide)
      have r3 := rreg_n (rbits 21 false) 97 ra (by decide)
      refine .inr ⟨(show ¬ (rbits 21 false).toList = [] from by rw [ByteArray.toList_eq]; decide), (show (rbits 21 false).size ≤ 64 from by decide), ?_⟩
      show fits ⟨21, rd, rn, rm, ra, imm, cond, false⟩ = (rnumber 21 imm && rreg (rbits 21 false) 100 rd && rreg (rbits 21 false) 110 rn && rreg (rbits 21 false) 109 rm && rreg (rbits 21 false) 97 ra && rextra ⟨21, rd, rn, rm, ra, imm, cond, false⟩)
      rw [r0, r1, r2, r3]
      clear r0 r1 r2 r3
      rw [Bool.eq_iff_iff]
      simp [fits, known, within, most, least, none0, rnumber, rextra]
      omega
    · exact .inl ⟨rfl, by simp [fits, within, most, none0]⟩
  · cases wide
    ·
      have r0 := rreg_y (rbits 22 false) 100 rd 7 (by decide) (by decide)
      have r1 := rreg_y (rbits 22 false) 110 rn 7 (by decide) (by decide)
      have r2 := rreg_n (rbits 22 false) 109 rm (by decide)
      have r3 := rreg_n (rbits 22 false) 97 ra (by decide)
      refine .inr ⟨(show ¬ (rbits 22 false).toList = [] from by rw [ByteArray.toList_eq]; decide), (show (rbits 22 false).size ≤ 64 from by decide), ?_⟩
      show fits ⟨22, rd, rn, rm, ra, imm, cond, false⟩ = (rnumber 22 imm && rreg (rbits 22 false) 100 rd && rreg (rbits 22 false) 110 rn && rreg (rbits 22 false) 109 rm && rreg (rbits 22 false) 97 ra && rextra ⟨22, rd, rn, rm, ra, imm, cond, false⟩)
      rw [r0, r1, r2, r3]
      clear r0 r1 r2 r3
      rw [Bool.eq_iff_iff]
      simp [fits, known, within, most, least, none0, rnumber, rextra]
      omega
    · exact .inl ⟨rfl, by simp [fits, within, most, none0]⟩
  · cases wide
    ·
      have r0 := rreg_n (rbits 23 false) 100 rd (by decide)
      have r1 := rreg_y (rbits 23 false) 110 rn 7 (by decide) (by decide)
      have r2 := rreg_y (rbits 23 false) 109 rm 7 (by decide) (by decide)
      have r3 := rreg_n (rbits 23 false) 97 ra (by decide)
      refine .inr ⟨(show ¬ (rbits 23 false).toList = [] from by rw [ByteArray.toList_eq]; decide), (show (rbits 23 false).size ≤ 64 from by decide), ?_⟩
      show fits ⟨23, rd, rn, rm, ra, imm, cond, false⟩ = (rnumber 23 imm && rreg (rbits 23 false) 100 rd && rreg (rbits 23 false) 110 rn && rreg (rbits 23 false) 109 rm && rreg (rbits 23 false) 97 ra && rextra ⟨23, rd, rn, rm, ra, imm, cond, false⟩)
      rw [r0, r1, r2, r3]
      clear r0 r1 r2 r3
      rw [Bool.eq_iff_iff]
      simp [fits, known, within, most, least, none0, rnumber, rextra]
      omega
    · exact .inl ⟨rfl, by simp [fits, within, most, none0]⟩
  · cases wide
    ·
      have r0 := rreg_n (rbits 24 false) 100 rd (by decide)
      have r1 := rreg_n (rbits 24 false) 110 rn (by decide)
      have r2 := rreg_n (rbits 24 false) 109 rm (by decide)
      have r3 := rreg_n (rbits 24 false) 97 ra (by decide)
      refine .inr ⟨(show ¬ (rbits 24 false).toList = [] from by rw [ByteArray.toList_eq]; decide), (show (rbits 24 false).size ≤ 64 from by decide), ?_⟩
      show fits ⟨24, rd, rn, rm, ra, imm, cond, false⟩ = (rnumber 24 imm && rreg (rbits 24 false) 100 rd && rreg (rbits 24 false) 110 rn && rreg (rbits 24 false) 109 rm && rreg (rbits 24 false) 97 ra && rextra ⟨24, rd, rn, rm, ra, imm, cond, false⟩)
      rw [r0, r1, r2, r3]
      clear r0 r1 r2 r3
      rw [Bool.eq_iff_iff]
      simp [fits, known, within, most, least, none0, rnumber, rextra]
      omega
    ·
      have r0 := rreg_n (rbits 24 true) 100 rd (by decide)
      have r1 := rreg_n (rbits 24 true) 110 rn (by decide)
      have r2 := rreg_n (rbits 24 true) 109 rm (by decide)
      have r3 := rreg_n (rbits 24 true) 97 ra (by decide)
      refine .inr ⟨(show ¬ (rbits 24 true).toList = [] from by rw [ByteArray.toList_eq]; decide), (show (rbits 24 true).size ≤ 64 from by decide), ?_⟩
      show fits ⟨24, rd, rn, rm, ra, imm, cond, true⟩ = (rnumber 24 imm && rreg (rbits 24 true) 100 rd && rreg (rbits 24 true) 110 rn && rreg (rbits 24 true) 109 rm && rreg (rbits 24 true) 97 ra && rextra ⟨24, rd, rn, rm, ra, imm, cond, true⟩)
      rw [r0, r1, r2, r3]
      clear r0 r1 r2 r3
      rw [Bool.eq_iff_iff]
      simp [fits, known, within, most, least, none0, rnumber, rextra]
      omega
  · cases wide
    ·
      have r0 := rreg_n (rbits 25 false) 100 rd (by decide)
      have r1 := rreg_n (rbits 25 false) 110 rn (by decide)
      have r2 := rreg_n (rbits 25 false) 109 rm (by decide)
      have r3 := rreg_n (rbits 25 false) 97 ra (by decide)
      refine .inr ⟨(show ¬ (rbits 25 false).toList = [] from by rw [ByteArray.toList_eq]; decide), (show (rbits 25 false).size ≤ 64 from by decide), ?_⟩
      show fits ⟨25, rd, rn, rm, ra, imm, cond, false⟩ = (rnumber 25 imm && rreg (rbits 25 false) 100 rd && rreg (rbits 25 false) 110 rn && rreg (rbits 25 false) 109 rm && rreg (rbits 25 false) 97 ra && rextra ⟨25, rd, rn, rm, ra, imm, cond, false⟩)
      rw [r0, r1, r2, r3]
      clear r0 r1 r2 r3
      rw [Bool.eq_iff_iff]
      simp [fits, known, within, most, least, none0, rnumber, rextra]
      omega
    ·
      have r0 := rreg_n (rbits 25 true) 100 rd (by decide)
      have r1 := rreg_n (rbits 25 true) 110 rn (by decide)
      have r2 := rreg_n (rbits 25 true) 109 rm (by decide)
      have r3 := rreg_n (rbits 25 true) 97 ra (by decide)
      refine .inr ⟨(show ¬ (rbits 25 true).toList = [] from by rw [ByteArray.toList_eq]; decide), (show (rbits 25 true).size ≤ 64 from by decide), ?_⟩
      show fits ⟨25, rd, rn, rm, ra, imm, cond, true⟩ = (rnumber 25 imm && rreg (rbits 25 true) 100 rd && rreg (rbits 25 true) 110 rn && rreg (rbits 25 true) 109 rm && rreg (rbits 25 true) 97 ra && rextra ⟨25, rd, rn, rm, ra, imm, cond, true⟩)
      rw [r0, r1, r2, r3]
      clear r0 r1 r2 r3
      rw [Bool.eq_iff_iff]
      simp [fits, known, within, most, least, none0, rnumber, rextra]
      omega
end Go.Proofs.Ytennhpfhgbmnfaa.Th
