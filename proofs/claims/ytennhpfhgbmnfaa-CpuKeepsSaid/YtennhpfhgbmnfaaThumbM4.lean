/-
  Plain mathematics of instructions: the bits and fields of each one, as the program writes them. It names nothing of the translated program.
-/
import Derived.Test.YtennhpfhgbmnfaaThumbM3
namespace Go.Proofs.Ytennhpfhgbmnfaa.Th
open Go.RowKit

def off (imm : Int) : Int := if imm < 0 then imm + 33554432 else imm
def alike (n : Int) (a b : Nat) : Int := if n / 2 ^ a % 2 = n / 2 ^ b % 2 then 1 else 0
def fixed (op : Int) (wide : Bool) : Nat :=
  if op == 1 then 48896 else
  if op == 2 then 48640 else
  if op == 3 then 4064280576 else
  if op == 4 then 4072669184 else
  if op == 5 then 3931045888 else
  if op == 6 then 3931045904 else
  if op == 7 then 3931045920 else
  if op == 8 then 3931045936 else
  if op == 9 then 3933143040 else
  if op == 10 then 3925868544 else
  if op == 11 then 3927965696 else
  if op == 12 then 3930062848 else
  if op == 13 then 3934257152 else
  if op == 14 then 3942645760 else
  if op == 15 then 3953131520 else
  if op == 16 then 4211142656 else
  if op == 17 then 4221566976 else
  if op == 18 then 4083154944 else
  if op == 19 then 26624 else
  if op == 20 then 24576 else
  if op == 21 then 30720 else
  if op == 22 then 28672 else
  if op == 23 then 17024 else
  if op == 24 then (if wide then 4026568704 else 57344) else
  if op == 25 then (if wide then 4026564608 else 53248) else
  0
def fields (i : Ins) : List Fld :=
  if i.op == 2 then [⟨i.imm, 8, 0, 0⟩] else
  if i.op == 3 || i.op == 4 then [⟨i.imm, 1, 11, 26⟩, ⟨i.imm, 4, 12, 16⟩, ⟨i.imm, 3, 8, 12⟩, ⟨i.rd, 4, 0, 8⟩, ⟨i.imm, 8, 0, 0⟩] else
  if i.op == 5 || i.op == 6 || i.op == 7 || i.op == 8 then [⟨i.imm, 3, 2, 12⟩, ⟨i.rd, 4, 0, 8⟩, ⟨i.imm, 2, 0, 6⟩, ⟨i.rm, 4, 0, 0⟩] else
  if i.op == 9 then [⟨i.rd, 4, 0, 8⟩, ⟨i.rm, 4, 0, 0⟩] else
  if i.op == 10 || i.op == 11 || i.op == 12 || i.op == 13 || i.op == 14 || i.op == 15 || i.op == 16 then [⟨i.rn, 4, 0, 16⟩, ⟨i.rd, 4, 0, 8⟩, ⟨i.rm, 4, 0, 0⟩] else
  if i.op == 17 then [⟨i.rn, 4, 0, 16⟩, ⟨i.rd, 4, 0, 12⟩, ⟨i.ra, 4, 0, 8⟩, ⟨i.rm, 4, 0, 0⟩] else
  if i.op == 18 then [⟨i.rn, 4, 0, 16⟩, ⟨i.imm, 3, 2, 12⟩, ⟨i.rd, 4, 0, 8⟩, ⟨i.imm, 2, 0, 6⟩, ⟨(i.imm + i.ra - 1), 5, 0, 0⟩] else
  if i.op == 19 || i.op == 20 || i.op == 21 || i.op == 22 then [⟨i.rn, 3, 0, 3⟩, ⟨i.rd, 3, 0, 0⟩] else
  if i.op == 23 then [⟨i.rm, 3, 0, 3⟩, ⟨i.rn, 3, 0, 0⟩] else
  if i.op == 24 then (if i.wide then [⟨(off i.imm), 1, 24, 26⟩, ⟨(off i.imm), 10, 12, 16⟩, ⟨(alike (off i.imm) 23 24), 1, 0, 13⟩, ⟨(alike (off i.imm) 22 24), 1, 0, 11⟩, ⟨(off i.imm), 11, 1, 0⟩] else [⟨(off i.imm), 11, 1, 0⟩]) else
  if i.op == 25 then (if i.wide then [⟨(off i.imm), 1, 20, 26⟩, ⟨i.cond, 4, 0, 22⟩, ⟨(off i.imm), 6, 12, 16⟩, ⟨(off i.imm), 1, 18, 13⟩, ⟨(off i.imm), 1, 19, 11⟩, ⟨(off i.imm), 11, 1, 0⟩] else [⟨i.cond, 4, 0, 8⟩, ⟨(off i.imm), 8, 1, 0⟩]) else
  []
def num (i : Ins) : Nat := put (fixed i.op i.wide) (fields i)
def encS (i : Ins) : ByteArray := if check i = 0 then (if size i = 2 then str2 (num i) else str4 (num i)) else ⟨#[]⟩
theorem off_bd (imm : Int) (h : -16777216 ≤ imm ∧ imm ≤ 16777214) : 0 ≤ off imm ∧ off imm < 33554432 := by unfold off; split <;> omega
theorem alike_bd (n : Int) (a b : Nat) : 0 ≤ alike n a b ∧ alike n a b ≤ 1 := by unfold alike; split <;> omega
theorem ite_lt {c : Prop} [Decidable c] {a b n : Nat} (h1 : a < n) (h2 : b < n) : (if c then a else b) < n := by split <;> assumption
theorem fixed_lt (op : Int) (wide : Bool) : fixed op wide < 4294967296 := by
  unfold fixed
  repeat' (refine ite_lt ?_ ?_)
  all_goals decide
theorem ite_len {c : Prop} [Decidable c] {a b : List Fld} {n : Nat} (h1 : a.length ≤ n) (h2 : b.length ≤ n) : (if c then a else b).length ≤ n := by split <;> assumption
theorem fields_len (i : Ins) : (fields i).length ≤ 8 := by
  unfold fields
  repeat' (refine ite_len ?_ ?_)
  all_goals simp
theorem op_cases {op : Int} (h : 1 ≤ op ∧ op ≤ 25) : op = 1 ∨ op = 2 ∨ op = 3 ∨ op = 4 ∨ op = 5 ∨ op = 6 ∨ op = 7 ∨ op = 8 ∨ op = 9 ∨ op = 10 ∨ op = 11 ∨ op = 12 ∨ op = 13 ∨ op = 14 ∨ op = 15 ∨ op = 16 ∨ op = 17 ∨ op = 18 ∨ op = 19 ∨ op = 20 ∨ op = 21 ∨ op = 22 ∨ op = 23 ∨ op = 24 ∨ op = 25 := by omega
theorem fields_ok (i : Ins) (h : check i = 0) : ∀ f ∈ fields i, okFld f := by
  obtain ⟨op, rd, rn, rm, ra, imm, cond, wide⟩ := i
  have hk : 1 ≤ op ∧ op ≤ 25 := by
    rw [check_ok] at h
    have := h.1; unfold fits at this; rw [Bool.and_eq_true] at this
    exact known_op this.1
  rcases op_cases hk with rfl | rfl | rfl | rfl | rfl | rfl | rfl | rfl | rfl | rfl | rfl | rfl | rfl | rfl | rfl | rfl | rfl | rfl | rfl | rfl | rfl | rfl | rfl | rfl | rfl
  · rw [ok1] at h
    show ∀ f ∈ ([] : List Fld), okFld f
    simp
  · rw [ok2] at h
    show ∀ f ∈ ([⟨imm, 8, 0, 0⟩] : List Fld), okFld f
    intro f hf
    simp only [List.mem_cons, List.not_mem_nil, or_false] at hf
    rcases hf with rfl
    all_goals (simp only [okFld]; omega)
  · rw [ok3] at h
    show ∀ f ∈ ([⟨imm, 1, 11, 26⟩, ⟨imm, 4, 12, 16⟩, ⟨imm, 3, 8, 12⟩, ⟨rd, 4, 0, 8⟩, ⟨imm, 8, 0, 0⟩] : List Fld), okFld f
    intro f hf
    simp only [List.mem_cons, List.not_mem_nil, or_false] at hf
    rcases hf with rfl | rfl | rfl | rfl | rfl
    all_goals (simp only [okFld]; omega)
  · rw [ok4] at h
    show ∀ f ∈ ([⟨imm, 1, 11, 26⟩, ⟨imm, 4, 12, 16⟩, ⟨imm, 3, 8, 12⟩, ⟨rd, 4, 0, 8⟩, ⟨imm, 8, 0, 0⟩] : List Fld), okFld f
    intro f hf
    simp only [List.mem_cons, List.not_mem_nil, or_false] at hf
    rcases hf with rfl | rfl | rfl | rfl | rfl
    all_goals (simp only [okFld]; omega)
  · rw [ok5] at h
    show ∀ f ∈ ([⟨imm, 3, 2, 12⟩, ⟨rd, 4, 0, 8⟩, ⟨imm, 2, 0, 6⟩, ⟨rm, 4, 0, 0⟩] : List Fld), okFld f
    intro f hf
    simp only [List.mem_cons, List.not_mem_nil, or_false] at hf
    rcases hf with rfl | rfl | rfl | rfl
    all_goals (simp only [okFld]; omega)
  · rw [ok6] at h
    show ∀ f ∈ ([⟨imm, 3, 2, 12⟩, ⟨rd, 4, 0, 8⟩, ⟨imm, 2, 0, 6⟩, ⟨rm, 4, 0, 0⟩] : List Fld), okFld f
    intro f hf
    simp only [List.mem_cons, List.not_mem_nil, or_false] at hf
    rcases hf with rfl | rfl | rfl | rfl
    all_goals (simp only [okFld]; omega)
  · rw [ok7] at h
    show ∀ f ∈ ([⟨imm, 3, 2, 12⟩, ⟨rd, 4, 0, 8⟩, ⟨imm, 2, 0, 6⟩, ⟨rm, 4, 0, 0⟩] : List Fld), okFld f
    intro f hf
    simp only [List.mem_cons, List.not_mem_nil, or_false] at hf
    rcases hf with rfl | rfl | rfl | rfl
    all_goals (simp only [okFld]; omega)
  · rw [ok8] at h
    show ∀ f ∈ ([⟨imm, 3, 2, 12⟩, ⟨rd, 4, 0, 8⟩, ⟨imm, 2, 0, 6⟩, ⟨rm, 4, 0, 0⟩] : List Fld), okFld f
    intro f hf
    simp only [List.mem_cons, List.not_mem_nil, or_false] at hf
    rcases hf with rfl | rfl | rfl | rfl
    all_goals (simp only [okFld]; omega)
  · rw [ok9] at h
    show ∀ f ∈ ([⟨rd, 4, 0, 8⟩, ⟨rm, 4, 0, 0⟩] : List Fld), okFld f
    intro f hf
    simp only [List.mem_cons, List.not_mem_nil, or_false] at hf
    rcases hf with rfl | rfl
    all_goals (simp only [okFld]; omega)
  · rw [ok10] at h
    show ∀ f ∈ ([⟨rn, 4, 0, 16⟩, ⟨rd, 4, 0, 8⟩, ⟨rm, 4, 0, 0⟩] : List Fld), okFld f
    intro f hf
    simp only [List.mem_cons, List.not_mem_nil, or_false] at hf
    rcases hf with rfl | rfl | rfl
    all_goals (simp only [okFld]; omega)
  · rw [ok11] at h
    show ∀ f ∈ ([⟨rn, 4, 0, 16⟩, ⟨rd, 4, 0, 8⟩, ⟨rm, 4, 0, 0⟩] : List Fld), okFld f
    intro f hf
    simp only [List.mem_cons, List.not_mem_nil, or_false] at hf
    rcases hf with rfl | rfl | rfl
    all_goals (simp only [okFld]; omega)
  · rw [ok12] at h
    show ∀ f ∈ ([⟨rn, 4, 0, 16⟩, ⟨rd, 4, 0, 8⟩, ⟨rm, 4, 0, 0⟩] : List Fld), okFld f
    intro f hf
    simp only [List.mem_cons, List.not_mem_nil, or_false] at hf
    rcases hf with rfl | rfl | rfl
    all_goals (simp only [okFld]; omega)
  · rw [ok13] at h
    show ∀ f ∈ ([⟨rn, 4, 0, 16⟩, ⟨rd, 4, 0, 8⟩, ⟨rm, 4, 0, 0⟩] : List Fld), okFld f
    intro f hf
    simp only [List.mem_cons, List.not_mem_nil, or_false] at hf
    rcases hf with rfl | rfl | rfl
    all_goals (simp only [okFld]; omega)
  · rw [ok14] at h
    show ∀ f ∈ ([⟨rn, 4, 0, 16⟩, ⟨rd, 4, 0, 8⟩, ⟨rm, 4, 0, 0⟩] : List Fld), okFld f
    intro f hf
    simp only [List.mem_cons, List.not_mem_nil, or_false] at hf
    rcases hf with rfl | rfl | rfl
    all_goals (simp only [okFld]; omega)
  · rw [ok15] at h
    show ∀ f ∈ ([⟨rn, 4, 0, 16⟩, ⟨rd, 4, 0, 8⟩, ⟨rm, 4, 0, 0⟩] : List Fld), okFld f
    intro f hf
    simp only [List.mem_cons, List.not_mem_nil, or_false] at hf
    rcases hf with rfl | rfl | rfl
    all_goals (simp only [okFld]; omega)
  · rw [ok16] at h
    show ∀ f ∈ ([⟨rn, 4, 0, 16⟩, ⟨rd, 4, 0, 8⟩, ⟨rm, 4, 0, 0⟩] : List Fld), okFld f
    intro f hf
    simp only [List.mem_cons, List.not_mem_nil, or_false] at hf
    rcases hf with rfl | rfl | rfl
    all_goals (simp only [okFld]; omega)
  · rw [ok17] at h
    show ∀ f ∈ ([⟨rn, 4, 0, 16⟩, ⟨rd, 4, 0, 12⟩, ⟨ra, 4, 0, 8⟩, ⟨rm, 4, 0, 0⟩] : List Fld), okFld f
    intro f hf
    simp only [List.mem_cons, List.not_mem_nil, or_false] at hf
    rcases hf with rfl | rfl | rfl | rfl
    all_goals (simp only [okFld]; omega)
  · rw [ok18] at h
    show ∀ f ∈ ([⟨rn, 4, 0, 16⟩, ⟨imm, 3, 2, 12⟩, ⟨rd, 4, 0, 8⟩, ⟨imm, 2, 0, 6⟩, ⟨(imm + ra - 1), 5, 0, 0⟩] : List Fld), okFld f
    intro f hf
    simp only [List.mem_cons, List.not_mem_nil, or_false] at hf
    rcases hf with rfl | rfl | rfl | rfl | rfl
    all_goals (simp only [okFld]; omega)
  · rw [ok19] at h
    show ∀ f ∈ ([⟨rn, 3, 0, 3⟩, ⟨rd, 3, 0, 0⟩] : List Fld), okFld f
    intro f hf
    simp only [List.mem_cons, List.not_mem_nil, or_false] at hf
    rcases hf with rfl | rfl
    all_goals (simp only [okFld]; omega)
  · rw [ok20] at h
    show ∀ f ∈ ([⟨rn, 3, 0, 3⟩, ⟨rd, 3, 0, 0⟩] : List Fld), okFld f
    intro f hf
    simp only [List.mem_cons, List.not_mem_nil, or_false] at hf
    rcases hf with rfl | rfl
    all_goals (simp only [okFld]; omega)
  · rw [ok21] at h
    show ∀ f ∈ ([⟨rn, 3, 0, 3⟩, ⟨rd, 3, 0, 0⟩] : List Fld), okFld f
    intro f hf
    simp only [List.mem_cons, List.not_mem_nil, or_false] at hf
    rcases hf with rfl | rfl
    all_goals (simp only [okFld]; omega)
  · rw [ok22] at h
    show ∀ f ∈ ([⟨rn, 3, 0, 3⟩, ⟨rd, 3, 0, 0⟩] : List Fld), okFld f
    intro f hf
    simp only [List.mem_cons, List.not_mem_nil, or_false] at hf
    rcases hf with rfl | rfl
    all_goals (simp only [okFld]; omega)
  · rw [ok23] at h
    show ∀ f ∈ ([⟨rm, 3, 0, 3⟩, ⟨rn, 3, 0, 0⟩] : List Fld), okFld f
    intro f hf
    simp only [List.mem_cons, List.not_mem_nil, or_false] at hf
    rcases hf with rfl | rfl
    all_goals (simp only [okFld]; omega)
  · rw [ok24] at h
    have ho := off_bd imm (by cases wide <;> simp at h <;> omega)
    have h1 := alike_bd (off imm) 23 24
    have h2 := alike_bd (off imm) 22 24
    cases wide
    · show ∀ f ∈ ([⟨(off imm), 11, 1, 0⟩] : List Fld), okFld f
      intro f hf
      simp only [List.mem_cons, List.not_mem_nil, or_false] at hf
      rcases hf with rfl
      all_goals (simp only [okFld]; omega)
    · show ∀ f ∈ ([⟨(off imm), 1, 24, 26⟩, ⟨(off imm), 10, 12, 16⟩, ⟨(alike (off imm) 23 24), 1, 0, 13⟩, ⟨(alike (off imm) 22 24), 1, 0, 11⟩, ⟨(off imm), 11, 1, 0⟩] : List Fld), okFld f
      intro f hf
      simp only [List.mem_cons, List.not_mem_nil, or_false] at hf
      rcases hf with rfl | rfl | rfl | rfl | rfl
      all_goals (simp only [okFld]; omega)
  · rw [ok25] at h
    have ho := off_bd imm (by cases wide <;> simp at h <;> omega)
    have h1 := alike_bd (off imm) 23 24
    have h2 := alike_bd (off imm) 22 24
    cases wide
    · show ∀ f ∈ ([⟨cond, 4, 0, 8⟩, ⟨(off imm), 8, 1, 0⟩] : List Fld), okFld f
      intro f hf
      simp only [List.mem_cons, List.not_mem_nil, or_false] at hf
      rcases hf with rfl | rfl
      all_goals (simp only [okFld]; omega)
    · show ∀ f ∈ ([⟨(off imm), 1, 20, 26⟩, ⟨cond, 4, 0, 22⟩, ⟨(off imm), 6, 12, 16⟩, ⟨(off imm), 1, 18, 13⟩, ⟨(off imm), 1, 19, 11⟩, ⟨(off imm), 11, 1, 0⟩] : List Fld), okFld f
      intro f hf
      simp only [List.mem_cons, List.not_mem_nil, or_false] at hf
      rcases hf with rfl | rfl | rfl | rfl | rfl | rfl
      all_goals (simp only [okFld]; omega)
end Go.Proofs.Ytennhpfhgbmnfaa.Th
