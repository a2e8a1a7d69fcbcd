/-
  Plain: what is an instruction (package thumb's Check) has registers and numbers between these.
-/
import Derived.Test.YtennhpfhgbmnfaaCpuM2
import Derived.Test.YtennhpfhgbmnfaaThumbM2
namespace Go.Proofs.Ytennhpfhgbmnfaa.Cs
open Go.RowKit

theorem least_0 (op imm : Int) : (Th.least op imm).rd = 0 ∧ (Th.least op imm).rn = 0 ∧ (Th.least op imm).rm = 0 := by
  unfold Th.least Th.none0
  split
  · exact ⟨rfl, rfl, rfl⟩
  split
  · exact ⟨rfl, rfl, rfl⟩
  split <;> exact ⟨rfl, rfl, rfl⟩
def bd12 (x : Th.Ins) : Prop := x.rd ≤ 12 ∧ x.rn ≤ 12 ∧ x.rm ≤ 12
theorem bd12_ite {c : Prop} [Decidable c] {a b : Th.Ins} (ha : bd12 a) (hb : bd12 b) : bd12 (if c then a else b) := by
  by_cases h : c
  · rw [if_pos h]; exact ha
  · rw [if_neg h]; exact hb
theorem most_12 (op imm : Int) : bd12 (Th.most op imm) := by
  unfold Th.most Th.none0
  repeat' with_reducible apply bd12_ite
  all_goals (unfold bd12; simp)
theorem fits_of {i : Th.Ins} (h : Th.check i = 0) : Th.fits i = true := by
  cases hf : Th.fits i with
  | true => rfl
  | false => unfold Th.check at h; rw [hf] at h; simp at h
theorem size_check (i : Th.Ins) (h : (Th.size i == 0) = false) : Th.check i = 0 := by
  unfold Th.size at h
  split at h
  · next h0 => simpa using h0
  · simp at h
theorem check_size (i : Th.Ins) (h : Th.check i = 0) : (Th.size i == 0) = false := by
  have h0 : (Th.check i == 0) = true := by simp [h]
  unfold Th.size
  rw [if_pos h0]
  repeat' split
  all_goals decide
theorem size_0 (i : Th.Ins) (h : (Th.size i == 0) = true) : (Th.check i != 0) = true := by
  cases hc : (Th.check i != 0) with
  | true => rfl
  | false => have := check_size i (by simpa using hc); rw [this] at h; cases h
theorem in_regs {i : Th.Ins} (h : Th.check i = 0) : (0 ≤ i.rd ∧ i.rd ≤ 12) ∧ (0 ≤ i.rn ∧ i.rn ≤ 12) ∧ (0 ≤ i.rm ∧ i.rm ≤ 12) := by
  have hf := fits_of h
  unfold Th.fits Th.within at hf
  simp only [Bool.and_eq_true, decide_eq_true_eq] at hf
  obtain ⟨-, ⟨⟨⟨⟨⟨⟨⟨⟨⟨⟨⟨⟨h1, h2⟩, h3⟩, h4⟩, h5⟩, h6⟩, -⟩, -⟩, -⟩, -⟩, -⟩, -⟩, -⟩⟩ := hf
  have hl := least_0 i.op i.imm
  have hm := most_12 i.op i.imm
  unfold bd12 at hm
  omega
theorem in_ops {i : Th.Ins} (h : Th.check i = 0) : i.op = 1 ∨ i.op = 2 ∨ i.op = 3 ∨ i.op = 4 ∨ i.op = 5 ∨ i.op = 6 ∨ i.op = 7 ∨ i.op = 8 ∨ i.op = 9 ∨ i.op = 10 ∨ i.op = 11 ∨ i.op = 12 ∨ i.op = 13 ∨ i.op = 14 ∨ i.op = 15 ∨ i.op = 16 ∨ i.op = 17 ∨ i.op = 18 ∨ i.op = 19 ∨ i.op = 20 ∨ i.op = 21 ∨ i.op = 22 ∨ i.op = 23 ∨ i.op = 24 ∨ i.op = 25 := by
  have hf := fits_of h
  unfold Th.fits at hf
  simp only [Bool.and_eq_true] at hf
  have hk := hf.1
  unfold Th.known at hk
  split at hk
  · next h17 => have : i.op = 17 := by simpa using h17
                omega
  · simp only [Bool.or_eq_true, beq_iff_eq] at hk
    omega
theorem in_17 {rd rn rm ra imm cond : Int} {wide : Bool} (h : Th.check ⟨17, rd, rn, rm, ra, imm, cond, wide⟩ = 0) : 0 ≤ ra ∧ ra ≤ 12 ∧ ra ≠ rd := by
  have hf := fits_of h
  unfold Th.fits Th.within at hf
  simp only [Bool.and_eq_true, decide_eq_true_eq] at hf
  obtain ⟨hk, ⟨⟨⟨⟨⟨⟨⟨⟨⟨⟨⟨⟨-, -⟩, -⟩, -⟩, -⟩, -⟩, h1⟩, h2⟩, -⟩, -⟩, -⟩, -⟩, -⟩⟩ := hf
  have hk' : (ra != rd) = true := hk
  have h1' : (0 : Int) ≤ ra := h1
  have h2' : ra ≤ 12 := h2
  exact ⟨h1', h2', by simpa using hk'⟩
theorem in_18 {rd rn rm ra imm cond : Int} {wide : Bool} (h : Th.check ⟨18, rd, rn, rm, ra, imm, cond, wide⟩ = 0) : 1 ≤ ra ∧ 0 ≤ imm ∧ imm + ra ≤ 32 := by
  have hf := fits_of h
  unfold Th.fits Th.within at hf
  simp only [Bool.and_eq_true, decide_eq_true_eq] at hf
  obtain ⟨-, ⟨⟨⟨⟨⟨⟨⟨⟨⟨⟨⟨⟨-, -⟩, -⟩, -⟩, -⟩, -⟩, h1⟩, h2⟩, h3⟩, h4⟩, -⟩, -⟩, -⟩⟩ := hf
  have h1' : (1 : Int) ≤ ra := h1
  have h2' : ra ≤ wrap64 (32 - imm) := h2
  have h3' : (0 : Int) ≤ imm := h3
  have h4' : imm ≤ 31 := h4
  rw [Wd.wrap64_in _ (by omega) (by omega)] at h2'
  omega
theorem in_4 {rd rn rm ra imm cond : Int} {wide : Bool} (h : Th.check ⟨4, rd, rn, rm, ra, imm, cond, wide⟩ = 0) : 0 ≤ imm ∧ imm ≤ 65535 := by
  have hf := fits_of h
  unfold Th.fits Th.within at hf
  simp only [Bool.and_eq_true, decide_eq_true_eq] at hf
  obtain ⟨-, ⟨⟨⟨⟨⟨⟨⟨⟨⟨⟨⟨⟨-, -⟩, -⟩, -⟩, -⟩, -⟩, -⟩, -⟩, h3⟩, h4⟩, -⟩, -⟩, -⟩⟩ := hf
  exact ⟨h3, h4⟩
theorem words_bd (s : St) (j : Nat) : 0 ≤ (words s).r j ∧ (words s).r j < 4294967296 := Wd.wrap_bd _
theorem add_w (a b : Int) : Wd.add a (wrap64 b) = Wd.add a b := by unfold Wd.add wrap64; omega
theorem add_iw (a b : Int) : Wd.add a (IntKind.i64.wrap b) = Wd.add a b := by rw [IntKind.wrap_i64]; unfold Wd.add; omega
theorem made_pc (s : St) (i : Th.Ins) (l : Int) : (made s i l).pc = s.pc := by
  unfold made
  by_cases h : (i.op == 23) = true
  · rw [if_pos h]; rfl
  · rw [if_neg h]
    by_cases h2 : (i.op == 17) = true
    · simp only [h2, if_true]; rfl
    · simp only [h2]; rfl
theorem taken_23 {s : St} {op cond : Int} (h : taken s op cond = true) : (op == 23) = false := by
  cases h2 : (op == 23) with
  | false => rfl
  | true => have : op = 23 := by simpa using h2
            subst this; simp [taken] at h
theorem wrap_iw (a b : Int) : Wd.wrap (IntKind.i64.wrap (a + b)) = Wd.add a b := by rw [IntKind.wrap_i64]; unfold Wd.wrap Wd.add; omega
theorem wrap_4 (a i : Int) : Wd.wrap (wrap64 (wrap64 (a + 4) + i)) = Wd.add a (4 + i) := by unfold Wd.wrap Wd.add wrap64; omega
theorem wrap_4i (a i : Int) : Wd.wrap (wrap64 (a + 4 + i)) = Wd.add a (4 + i) := by unfold Wd.wrap Wd.add wrap64; omega
theorem made_put (s : St) (i : Th.Ins) (l : Int) (h23 : (i.op == 23) = false) (h17 : (i.op == 17) = false) : made s i l = put s i.rd.toNat (value i.op i.ra i.imm (s.r i.rd.toNat) (s.r i.rn.toNat) (s.r i.rm.toNat) l) := by
  unfold made
  rw [if_neg (by rw [h23]; decide)]
  simp only [h17]
  rfl
end Go.Proofs.Ytennhpfhgbmnfaa.Cs
