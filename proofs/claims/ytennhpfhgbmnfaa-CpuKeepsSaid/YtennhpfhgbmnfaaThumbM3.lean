/-
  Plain mathematics of instructions: what each one keeps to. It names nothing of the translated program.
-/
import Derived.Test.YtennhpfhgbmnfaaThumbM2
namespace Go.Proofs.Ytennhpfhgbmnfaa.Th
open Go.RowKit

theorem check_ok (i : Ins) : check i = 0 ↔ fits i = true ∧ (branch i.op = true → reaches i.op i.imm i.wide = true) := by
  unfold check
  cases fits i <;> cases branch i.op <;> cases reaches i.op i.imm i.wide <;> simp
theorem known_op {op rd ra : Int} (h : known op rd ra = true) : 1 ≤ op ∧ op ≤ 25 := by
  unfold known at h
  by_cases h17 : op = 17
  · omega
  · simp [h17] at h; omega
theorem ok1 (rd rn rm ra imm cond : Int) (wide : Bool) : check ⟨1, rd, rn, rm, ra, imm, cond, wide⟩ = 0 ↔ (rd = 0) ∧ (rn = 0) ∧ (rm = 0) ∧ (ra = 0) ∧ (imm = 0) ∧ (cond = 0) ∧ (wide = false) := by
  rw [check_ok]
  simp [fits, known, within, most, least, none0, branch, reaches, reachLo, reachHi]
  cases wide <;> simp <;> omega
theorem ok2 (rd rn rm ra imm cond : Int) (wide : Bool) : check ⟨2, rd, rn, rm, ra, imm, cond, wide⟩ = 0 ↔ (rd = 0) ∧ (rn = 0) ∧ (rm = 0) ∧ (ra = 0) ∧ (0 ≤ imm ∧ imm ≤ 255) ∧ (cond = 0) ∧ (wide = false) := by
  rw [check_ok]
  simp [fits, known, within, most, least, none0, branch, reaches, reachLo, reachHi]
  cases wide <;> simp <;> omega
theorem ok3 (rd rn rm ra imm cond : Int) (wide : Bool) : check ⟨3, rd, rn, rm, ra, imm, cond, wide⟩ = 0 ↔ (0 ≤ rd ∧ rd ≤ 12) ∧ (rn = 0) ∧ (rm = 0) ∧ (ra = 0) ∧ (0 ≤ imm ∧ imm ≤ 65535) ∧ (cond = 0) ∧ (wide = false) := by
  rw [check_ok]
  simp [fits, known, within, most, least, none0, branch, reaches, reachLo, reachHi]
  cases wide <;> simp <;> omega
theorem ok4 (rd rn rm ra imm cond : Int) (wide : Bool) : check ⟨4, rd, rn, rm, ra, imm, cond, wide⟩ = 0 ↔ (0 ≤ rd ∧ rd ≤ 12) ∧ (rn = 0) ∧ (rm = 0) ∧ (ra = 0) ∧ (0 ≤ imm ∧ imm ≤ 65535) ∧ (cond = 0) ∧ (wide = false) := by
  rw [check_ok]
  simp [fits, known, within, most, least, none0, branch, reaches, reachLo, reachHi]
  cases wide <;> simp <;> omega
theorem ok5 (rd rn rm ra imm cond : Int) (wide : Bool) : check ⟨5, rd, rn, rm, ra, imm, cond, wide⟩ = 0 ↔ (0 ≤ rd ∧ rd ≤ 12) ∧ (rn = 0) ∧ (0 ≤ rm ∧ rm ≤ 12) ∧ (ra = 0) ∧ (0 ≤ imm ∧ imm ≤ 31) ∧ (cond = 0) ∧ (wide = false) := by
  rw [check_ok]
  simp [fits, known, within, most, least, none0, branch, reaches, reachLo, reachHi]
  cases wide <;> simp <;> omega
theorem ok6 (rd rn rm ra imm cond : Int) (wide : Bool) : check ⟨6, rd, rn, rm, ra, imm, cond, wide⟩ = 0 ↔ (0 ≤ rd ∧ rd ≤ 12) ∧ (rn = 0) ∧ (0 ≤ rm ∧ rm ≤ 12) ∧ (ra = 0) ∧ (1 ≤ imm ∧ imm ≤ 31) ∧ (cond = 0) ∧ (wide = false) := by
  rw [check_ok]
  simp [fits, known, within, most, least, none0, branch, reaches, reachLo, reachHi]
  cases wide <;> simp <;> omega
theorem ok7 (rd rn rm ra imm cond : Int) (wide : Bool) : check ⟨7, rd, rn, rm, ra, imm, cond, wide⟩ = 0 ↔ (0 ≤ rd ∧ rd ≤ 12) ∧ (rn = 0) ∧ (0 ≤ rm ∧ rm ≤ 12) ∧ (ra = 0) ∧ (1 ≤ imm ∧ imm ≤ 31) ∧ (cond = 0) ∧ (wide = false) := by
  rw [check_ok]
  simp [fits, known, within, most, least, none0, branch, reaches, reachLo, reachHi]
  cases wide <;> simp <;> omega
theorem ok8 (rd rn rm ra imm cond : Int) (wide : Bool) : check ⟨8, rd, rn, rm, ra, imm, cond, wide⟩ = 0 ↔ (0 ≤ rd ∧ rd ≤ 12) ∧ (rn = 0) ∧ (0 ≤ rm ∧ rm ≤ 12) ∧ (ra = 0) ∧ (1 ≤ imm ∧ imm ≤ 31) ∧ (cond = 0) ∧ (wide = false) := by
  rw [check_ok]
  simp [fits, known, within, most, least, none0, branch, reaches, reachLo, reachHi]
  cases wide <;> simp <;> omega
theorem ok9 (rd rn rm ra imm cond : Int) (wide : Bool) : check ⟨9, rd, rn, rm, ra, imm, cond, wide⟩ = 0 ↔ (0 ≤ rd ∧ rd ≤ 12) ∧ (rn = 0) ∧ (0 ≤ rm ∧ rm ≤ 12) ∧ (ra = 0) ∧ (imm = 0) ∧ (cond = 0) ∧ (wide = false) := by
  rw [check_ok]
  simp [fits, known, within, most, least, none0, branch, reaches, reachLo, reachHi]
  cases wide <;> simp <;> omega
theorem ok10 (rd rn rm ra imm cond : Int) (wide : Bool) : check ⟨10, rd, rn, rm, ra, imm, cond, wide⟩ = 0 ↔ (0 ≤ rd ∧ rd ≤ 12) ∧ (0 ≤ rn ∧ rn ≤ 12) ∧ (0 ≤ rm ∧ rm ≤ 12) ∧ (ra = 0) ∧ (imm = 0) ∧ (cond = 0) ∧ (wide = false) := by
  rw [check_ok]
  simp [fits, known, within, most, least, none0, branch, reaches, reachLo, reachHi]
  cases wide <;> simp <;> omega
theorem ok11 (rd rn rm ra imm cond : Int) (wide : Bool) : check ⟨11, rd, rn, rm, ra, imm, cond, wide⟩ = 0 ↔ (0 ≤ rd ∧ rd ≤ 12) ∧ (0 ≤ rn ∧ rn ≤ 12) ∧ (0 ≤ rm ∧ rm ≤ 12) ∧ (ra = 0) ∧ (imm = 0) ∧ (cond = 0) ∧ (wide = false) := by
  rw [check_ok]
  simp [fits, known, within, most, least, none0, branch, reaches, reachLo, reachHi]
  cases wide <;> simp <;> omega
theorem ok12 (rd rn rm ra imm cond : Int) (wide : Bool) : check ⟨12, rd, rn, rm, ra, imm, cond, wide⟩ = 0 ↔ (0 ≤ rd ∧ rd ≤ 12) ∧ (0 ≤ rn ∧ rn ≤ 12) ∧ (0 ≤ rm ∧ rm ≤ 12) ∧ (ra = 0) ∧ (imm = 0) ∧ (cond = 0) ∧ (wide = false) := by
  rw [check_ok]
  simp [fits, known, within, most, least, none0, branch, reaches, reachLo, reachHi]
  cases wide <;> simp <;> omega
theorem ok13 (rd rn rm ra imm cond : Int) (wide : Bool) : check ⟨13, rd, rn, rm, ra, imm, cond, wide⟩ = 0 ↔ (0 ≤ rd ∧ rd ≤ 12) ∧ (0 ≤ rn ∧ rn ≤ 12) ∧ (0 ≤ rm ∧ rm ≤ 12) ∧ (ra = 0) ∧ (imm = 0) ∧ (cond = 0) ∧ (wide = false) := by
  rw [check_ok]
  simp [fits, known, within, most, least, none0, branch, reaches, reachLo, reachHi]
  cases wide <;> simp <;> omega
theorem ok14 (rd rn rm ra imm cond : Int) (wide : Bool) : check ⟨14, rd, rn, rm, ra, imm, cond, wide⟩ = 0 ↔ (0 ≤ rd ∧ rd ≤ 12) ∧ (0 ≤ rn ∧ rn ≤ 12) ∧ (0 ≤ rm ∧ rm ≤ 12) ∧ (ra = 0) ∧ (imm = 0) ∧ (cond = 0) ∧ (wide = false) := by
  rw [check_ok]
  simp [fits, known, within, most, least, none0, branch, reaches, reachLo, reachHi]
  cases wide <;> simp <;> omega
theorem ok15 (rd rn rm ra imm cond : Int) (wide : Bool) : check ⟨15, rd, rn, rm, ra, imm, cond, wide⟩ = 0 ↔ (0 ≤ rd ∧ rd ≤ 12) ∧ (0 ≤ rn ∧ rn ≤ 12) ∧ (0 ≤ rm ∧ rm ≤ 12) ∧ (ra = 0) ∧ (imm = 0) ∧ (cond = 0) ∧ (wide = false) := by
  rw [check_ok]
  simp [fits, known, within, most, least, none0, branch, reaches, reachLo, reachHi]
  cases wide <;> simp <;> omega
theorem ok16 (rd rn rm ra imm cond : Int) (wide : Bool) : check ⟨16, rd, rn, rm, ra, imm, cond, wide⟩ = 0 ↔ (0 ≤ rd ∧ rd ≤ 12) ∧ (0 ≤ rn ∧ rn ≤ 12) ∧ (0 ≤ rm ∧ rm ≤ 12) ∧ (ra = 0) ∧ (imm = 0) ∧ (cond = 0) ∧ (wide = false) := by
  rw [check_ok]
  simp [fits, known, within, most, least, none0, branch, reaches, reachLo, reachHi]
  cases wide <;> simp <;> omega
theorem ok17 (rd rn rm ra imm cond : Int) (wide : Bool) : check ⟨17, rd, rn, rm, ra, imm, cond, wide⟩ = 0 ↔ (0 ≤ rd ∧ rd ≤ 12) ∧ (0 ≤ rn ∧ rn ≤ 12) ∧ (0 ≤ rm ∧ rm ≤ 12) ∧ (0 ≤ ra ∧ ra ≤ 12 ∧ ra ≠ rd) ∧ (imm = 0) ∧ (cond = 0) ∧ (wide = false) := by
  rw [check_ok]
  simp [fits, known, within, most, least, none0, branch, reaches, reachLo, reachHi]
  cases wide <;> simp <;> omega
theorem ok18 (rd rn rm ra imm cond : Int) (wide : Bool) : check ⟨18, rd, rn, rm, ra, imm, cond, wide⟩ = 0 ↔ (0 ≤ rd ∧ rd ≤ 12) ∧ (0 ≤ rn ∧ rn ≤ 12) ∧ (rm = 0) ∧ (1 ≤ ra ∧ ra ≤ 32 - imm) ∧ (0 ≤ imm ∧ imm ≤ 31) ∧ (cond = 0) ∧ (wide = false) := by
  rw [check_ok]
  simp [fits, known, within, most, least, none0, branch, reaches, reachLo, reachHi]
  cases wide <;> simp
  by_cases hi : 0 ≤ imm ∧ imm ≤ 31
  · rw [Wd.wrap64_in _ (by omega) (by omega)]; omega
  · omega
theorem ok19 (rd rn rm ra imm cond : Int) (wide : Bool) : check ⟨19, rd, rn, rm, ra, imm, cond, wide⟩ = 0 ↔ (0 ≤ rd ∧ rd ≤ 7) ∧ (0 ≤ rn ∧ rn ≤ 7) ∧ (rm = 0) ∧ (ra = 0) ∧ (imm = 0) ∧ (cond = 0) ∧ (wide = false) := by
  rw [check_ok]
  simp [fits, known, within, most, least, none0, branch, reaches, reachLo, reachHi]
  cases wide <;> simp <;> omega
theorem ok20 (rd rn rm ra imm cond : Int) (wide : Bool) : check ⟨20, rd, rn, rm, ra, imm, cond, wide⟩ = 0 ↔ (0 ≤ rd ∧ rd ≤ 7) ∧ (0 ≤ rn ∧ rn ≤ 7) ∧ (rm = 0) ∧ (ra = 0) ∧ (imm = 0) ∧ (cond = 0) ∧ (wide = false) := by
  rw [check_ok]
  simp [fits, known, within, most, least, none0, branch, reaches, reachLo, reachHi]
  cases wide <;> simp <;> omega
theorem ok21 (rd rn rm ra imm cond : Int) (wide : Bool) : check ⟨21, rd, rn, rm, ra, imm, cond, wide⟩ = 0 ↔ (0 ≤ rd ∧ rd ≤ 7) ∧ (0 ≤ rn ∧ rn ≤ 7) ∧ (rm = 0) ∧ (ra = 0) ∧ (imm = 0) ∧ (cond = 0) ∧ (wide = false) := by
  rw [check_ok]
  simp [fits, known, within, most, least, none0, branch, reaches, reachLo, reachHi]
  cases wide <;> simp <;> omega
theorem ok22 (rd rn rm ra imm cond : Int) (wide : Bool) : check ⟨22, rd, rn, rm, ra, imm, cond, wide⟩ = 0 ↔ (0 ≤ rd ∧ rd ≤ 7) ∧ (0 ≤ rn ∧ rn ≤ 7) ∧ (rm = 0) ∧ (ra = 0) ∧ (imm = 0) ∧ (cond = 0) ∧ (wide = false) := by
  rw [check_ok]
  simp [fits, known, within, most, least, none0, branch, reaches, reachLo, reachHi]
  cases wide <;> simp <;> omega
theorem ok23 (rd rn rm ra imm cond : Int) (wide : Bool) : check ⟨23, rd, rn, rm, ra, imm, cond, wide⟩ = 0 ↔ (rd = 0) ∧ (0 ≤ rn ∧ rn ≤ 7) ∧ (0 ≤ rm ∧ rm ≤ 7) ∧ (ra = 0) ∧ (imm = 0) ∧ (cond = 0) ∧ (wide = false) := by
  rw [check_ok]
  simp [fits, known, within, most, least, none0, branch, reaches, reachLo, reachHi]
  cases wide <;> simp <;> omega
theorem ok24 (rd rn rm ra imm cond : Int) (wide : Bool) : check ⟨24, rd, rn, rm, ra, imm, cond, wide⟩ = 0 ↔ (rd = 0) ∧ (rn = 0) ∧ (rm = 0) ∧ (ra = 0) ∧ (imm % 2 = 0 ∧ (wide = true → -16777216 ≤ imm ∧ imm ≤ 16777214) ∧ (wide = false → -2048 ≤ imm ∧ imm ≤ 2046)) ∧ (cond = 0) ∧ (True) := by
  rw [check_ok]
  simp [fits, known, within, most, least, none0, branch, reaches, reachLo, reachHi]
  cases wide <;> simp <;> omega
theorem ok25 (rd rn rm ra imm cond : Int) (wide : Bool) : check ⟨25, rd, rn, rm, ra, imm, cond, wide⟩ = 0 ↔ (rd = 0) ∧ (rn = 0) ∧ (rm = 0) ∧ (ra = 0) ∧ (imm % 2 = 0 ∧ (wide = true → -1048576 ≤ imm ∧ imm ≤ 1048574) ∧ (wide = false → -256 ≤ imm ∧ imm ≤ 254)) ∧ (0 ≤ cond ∧ cond ≤ 13) ∧ (True) := by
  rw [check_ok]
  simp [fits, known, within, most, least, none0, branch, reaches, reachLo, reachHi]
  cases wide <;> simp <;> omega
end Go.Proofs.Ytennhpfhgbmnfaa.Th
