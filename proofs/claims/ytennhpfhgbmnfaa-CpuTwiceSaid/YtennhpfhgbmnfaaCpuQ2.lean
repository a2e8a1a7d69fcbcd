/-
  Plain mathematics of stage 8: what is done twice.
-/
import Derived.Test.YtennhpfhgbmnfaaCpuQ
namespace Go.Proofs.Ytennhpfhgbmnfaa.Cs
open Go.RowKit

/-- does an instruction make registers out of other ones alone? -/
def other (op rd rn rm ra : Int) : Bool :=
  if op == 17 then rd != rn && rd != rm && ra != rn && ra != rm
  else if op == 5 || op == 6 || op == 7 || op == 8 || op == 9 then rd != rm
  else if op == 10 || op == 11 || op == 12 || op == 13 || op == 14 || op == 15 || op == 16 then rd != rn && rd != rm
  else if op == 18 || op == 19 || op == 21 then rd != rn
  else if op == 24 || op == 25 || op == 2 then false else true

theorem movt_twice (imm d : Int) : Wd.or (Wd.shl imm 16) (Wd.and (Wd.or (Wd.shl imm 16) (Wd.and d 65535)) 65535) = Wd.or (Wd.shl imm 16) (Wd.and d 65535) := by
  refine (Wd.isWord_or _ _).ext (Wd.isWord_or _ _) fun k hk => ?_
  rw [(Wd.isWord_and _ _).tb k hk, (Wd.isWord_or _ _).tb k hk, (Wd.isWord_and d _).tb k hk]
  cases (Wd.wrap (Wd.shl imm 16)).toNat.testBit k <;> cases (Wd.wrap d).toNat.testBit k <;> cases (Wd.wrap 65535).toNat.testBit k <;> rfl
theorem select_twice (m x d : Int) : Wd.select m x (Wd.select m x d) = Wd.select m x d := by
  refine (Wd.isWord_select _ _ _).ext (Wd.isWord_select _ _ _) fun k hk => ?_
  rw [(Wd.isWord_select m x d).tb k hk]
  cases (Wd.wrap m).toNat.testBit k <;> rfl
theorem value_twice (op ra imm d n m l : Int) : value op ra imm (value op ra imm d n m l) n m l = value op ra imm d n m l := by
  by_cases h4 : op = 4
  · subst h4; exact movt_twice imm d
  by_cases h18 : op = 18
  · subst h18; exact select_twice _ _ _
  unfold value
  repeat' split
  all_goals first | rfl | (simp_all; done)
theorem shl_bd (a n : Int) : 0 ≤ Wd.shl a n ∧ Wd.shl a n < 4294967296 := by unfold Wd.shl; omega
theorem sar_bd (a n : Int) : 0 ≤ Wd.sar a n ∧ Wd.sar a n < 4294967296 := by
  have := Wd.sarN_lt (Wd.wrap a).toNat (Wd.cnt n) (Wd.wn a) (by have := Wd.cnt_lt n; omega)
  unfold Wd.sar; omega
theorem ror_bd (a n : Int) : 0 ≤ Wd.ror a n ∧ Wd.ror a n < 4294967296 := by
  have := Wd.rorN_lt (Wd.wrap a).toNat (Wd.cnt n) (Wd.wn a) (by have := Wd.cnt_lt n; omega)
  unfold Wd.ror; omega
theorem shifted_bd (op m k : Int) : 0 ≤ shifted op m k ∧ shifted op m k < 4294967296 := by
  unfold shifted
  split
  · exact shl_bd _ _
  split
  · exact Wd.shr_bd _ _
  split
  · exact sar_bd _ _
  · exact ror_bd _ _
theorem add_bd (a b : Int) : 0 ≤ Wd.add a b ∧ Wd.add a b < 4294967296 := by unfold Wd.add; omega
theorem sub_bd (a b : Int) : 0 ≤ Wd.sub a b ∧ Wd.sub a b < 4294967296 := by unfold Wd.sub; omega
theorem mul_bd (a b : Int) : 0 ≤ Wd.mul a b ∧ Wd.mul a b < 4294967296 := by unfold Wd.mul; omega
theorem high_bd (a b : Int) : 0 ≤ Wd.high a b ∧ Wd.high a b < 4294967296 := by
  have := Wd.prod_bd a b
  unfold Wd.high
  generalize Wd.wrap a * Wd.wrap b = p at *
  omega
theorem joined_bd (op n m : Int) : 0 ≤ joined op n m ∧ joined op n m < 4294967296 := by
  unfold joined
  split
  · exact (Wd.isWord_and _ _).bd
  split
  · exact (Wd.isWord_and _ _).bd
  split
  · exact (Wd.isWord_or _ _).bd
  split
  · exact (Wd.isWord_xor _ _).bd
  split
  · exact add_bd _ _
  split
  · exact sub_bd _ _
  · exact mul_bd _ _
theorem value_bd (op ra imm d n m l : Int) (d0 : 0 ≤ d ∧ d < 4294967296) (h3 : op = 3 → 0 ≤ imm ∧ imm ≤ 65535) : 0 ≤ value op ra imm d n m l ∧ value op ra imm d n m l < 4294967296 := by
  unfold value
  split
  · next h => have := h3 (by simpa using h); omega
  split
  · exact (Wd.isWord_or _ _).bd
  split
  · exact shifted_bd _ _ _
  split
  · exact (Wd.isWord_not _).bd
  split
  · exact joined_bd _ _ _
  split
  · exact mul_bd _ _
  split
  · exact (Wd.isWord_select _ _ _).bd
  split
  · exact Wd.wrap_bd _
  split
  · have := Wd.wrap_bd l; omega
  · exact d0
theorem in_3 {rd rn rm ra imm cond : Int} {wide : Bool} (h : Th.check ⟨3, rd, rn, rm, ra, imm, cond, wide⟩ = 0) : 0 ≤ imm ∧ imm ≤ 65535 := by
  have hf := fits_of h
  unfold Th.fits Th.within at hf
  simp only [Bool.and_eq_true, decide_eq_true_eq] at hf
  obtain ⟨-, ⟨⟨⟨⟨⟨⟨⟨⟨⟨⟨⟨⟨-, -⟩, -⟩, -⟩, -⟩, -⟩, -⟩, -⟩, h3⟩, h4⟩, -⟩, -⟩, -⟩⟩ := hf
  exact ⟨h3, h4⟩
theorem made_bd (s : St) (i : Th.Ins) (l : Int) (hw : ∀ j, 0 ≤ s.r j ∧ s.r j < 4294967296) (h3 : i.op = 3 → 0 ≤ i.imm ∧ i.imm ≤ 65535) (j : Nat) : 0 ≤ (made s i l).r j ∧ (made s i l).r j < 4294967296 := by
  have hp : ∀ (t : St) (k : Nat) (x : Int), (∀ j, 0 ≤ t.r j ∧ t.r j < 4294967296) → (0 ≤ x ∧ x < 4294967296) → ∀ j, 0 ≤ (put t k x).r j ∧ (put t k x).r j < 4294967296 := fun t k x ht hx j => by
    by_cases h : j = k
    · subst h; rw [put_at]; exact hx
    · rw [put_other _ _ _ _ h]; exact ht j
  unfold made
  by_cases h23 : (i.op == 23) = true
  · rw [if_pos h23]; exact hw j
  · rw [if_neg h23]
    have hv := value_bd i.op i.ra i.imm (s.r i.rd.toNat) (s.r i.rn.toNat) (s.r i.rm.toNat) l (hw _) h3
    by_cases h17 : (i.op == 17) = true
    · simp only [h17, if_true]
      exact hp _ _ _ (hp _ _ _ hw hv) (high_bd _ _) j
    · simp only [h17]
      exact hp _ _ _ hw hv j
theorem made_gen (s : St) (i : Th.Ins) (l p : Int) (h23 : (i.op == 23) = false) (h17 : (i.op == 17) = false) (v : Int) (hv : v = value i.op i.ra i.imm (s.r i.rd.toNat) (s.r i.rn.toNat) (s.r i.rm.toNat) l)
    (h : value i.op i.ra i.imm v ((put s i.rd.toNat v).r i.rn.toNat) ((put s i.rd.toNat v).r i.rm.toNat) l = v) :
    made { made s i l with pc := p } i l = { made s i l with pc := p } := by
  rw [made_put s i l h23 h17, ← hv]
  rw [made_put _ i l h23 h17]
  show put { put s i.rd.toNat v with pc := p } i.rd.toNat (value i.op i.ra i.imm ((put s i.rd.toNat v).r i.rd.toNat) ((put s i.rd.toNat v).r i.rn.toNat) ((put s i.rd.toNat v).r i.rm.toNat) l) = _
  rw [put_at, h]
  have e := put_same { put s i.rd.toNat v with pc := p } i.rd.toNat
  rw [show ({ put s i.rd.toNat v with pc := p } : St).r i.rd.toNat = v from put_at s _ v] at e
  exact e
theorem ne_nat {a b : Int} (ha : 0 ≤ a) (hb : 0 ≤ b) (h : (a != b) = true) : b.toNat ≠ a.toNat := by
  have : a ≠ b := by simpa using h
  omega
theorem made_twice (s : St) (op rd rn rm ra imm cond : Int) (wide : Bool) (l p : Int) (h0 : Th.check ⟨op, rd, rn, rm, ra, imm, cond, wide⟩ = 0) (ho : other op rd rn rm ra = true) :
    made { made s ⟨op, rd, rn, rm, ra, imm, cond, wide⟩ l with pc := p } ⟨op, rd, rn, rm, ra, imm, cond, wide⟩ l = { made s ⟨op, rd, rn, rm, ra, imm, cond, wide⟩ l with pc := p } := by
  have hr := in_regs h0
  have hops := in_ops h0
  simp only at hr hops
  have key : ∀ K : Int, op = K → (K == 23) = false → (K == 17) = false → (rd != rn) = true → (rd != rm) = true → made { made s ⟨op, rd, rn, rm, ra, imm, cond, wide⟩ l with pc := p } ⟨op, rd, rn, rm, ra, imm, cond, wide⟩ l = { made s ⟨op, rd, rn, rm, ra, imm, cond, wide⟩ l with pc := p } := by
    intro K hK h1 h2 a b
    subst hK
    refine made_gen s _ l p h1 h2 _ rfl ?_
    rw [put_other _ _ _ _ (ne_nat hr.1.1 hr.2.1.1 a), put_other _ _ _ _ (ne_nat hr.1.1 hr.2.2.1 b)]
    exact value_twice _ _ _ _ _ _ _
  have keym : ∀ K : Int, op = K → (K == 23) = false → (K == 17) = false → (rd != rm) = true → (∀ d n n' m l, value K ra imm d n m l = value K ra imm d n' m l) → made { made s ⟨op, rd, rn, rm, ra, imm, cond, wide⟩ l with pc := p } ⟨op, rd, rn, rm, ra, imm, cond, wide⟩ l = { made s ⟨op, rd, rn, rm, ra, imm, cond, wide⟩ l with pc := p } := by
    intro K hK h1 h2 b hi
    subst hK
    refine made_gen s _ l p h1 h2 _ rfl ?_
    rw [put_other _ _ _ _ (ne_nat hr.1.1 hr.2.2.1 b)]
    exact (hi _ _ _ _ _).trans (value_twice _ _ _ _ _ _ _)
  have keyn : ∀ K : Int, op = K → (K == 23) = false → (K == 17) = false → (rd != rn) = true → (∀ d n m m' l, value K ra imm d n m l = value K ra imm d n m' l) → made { made s ⟨op, rd, rn, rm, ra, imm, cond, wide⟩ l with pc := p } ⟨op, rd, rn, rm, ra, imm, cond, wide⟩ l = { made s ⟨op, rd, rn, rm, ra, imm, cond, wide⟩ l with pc := p } := by
    intro K hK h1 h2 a hi
    subst hK
    refine made_gen s _ l p h1 h2 _ rfl ?_
    rw [put_other _ _ _ _ (ne_nat hr.1.1 hr.2.1.1 a)]
    exact (hi _ _ _ _ _).trans (value_twice _ _ _ _ _ _ _)
  have key0 : ∀ K : Int, op = K → (K == 23) = false → (K == 17) = false → (∀ d n n' m m' l, value K ra imm d n m l = value K ra imm d n' m' l) → made { made s ⟨op, rd, rn, rm, ra, imm, cond, wide⟩ l with pc := p } ⟨op, rd, rn, rm, ra, imm, cond, wide⟩ l = { made s ⟨op, rd, rn, rm, ra, imm, cond, wide⟩ l with pc := p } := by
    intro K hK h1 h2 hi
    subst hK
    exact made_gen s _ l p h1 h2 _ rfl ((hi _ _ _ _ _ _).trans (value_twice _ _ _ _ _ _ _))
  rcases hops with h | h | h | h | h | h | h | h | h | h | h | h | h | h | h | h | h | h | h | h | h | h | h | h | h
  · exact key0 1 h rfl rfl (fun _ _ _ _ _ _ => rfl)
  · subst h; cases ho
  · exact key0 3 h rfl rfl (fun _ _ _ _ _ _ => rfl)
  · exact key0 4 h rfl rfl (fun _ _ _ _ _ _ => rfl)
  · exact keym 5 h rfl rfl (by subst h; exact ho) (fun _ _ _ _ _ => rfl)
  · exact keym 6 h rfl rfl (by subst h; exact ho) (fun _ _ _ _ _ => rfl)
  · exact keym 7 h rfl rfl (by subst h; exact ho) (fun _ _ _ _ _ => rfl)
  · exact keym 8 h rfl rfl (by subst h; exact ho) (fun _ _ _ _ _ => rfl)
  · exact keym 9 h rfl rfl (by subst h; exact ho) (fun _ _ _ _ _ => rfl)
  · exact key 10 h rfl rfl (by subst h; exact (Bool.and_eq_true_iff.1 ho).1) (by subst h; exact (Bool.and_eq_true_iff.1 ho).2)
  · exact key 11 h rfl rfl (by subst h; exact (Bool.and_eq_true_iff.1 ho).1) (by subst h; exact (Bool.and_eq_true_iff.1 ho).2)
  · exact key 12 h rfl rfl (by subst h; exact (Bool.and_eq_true_iff.1 ho).1) (by subst h; exact (Bool.and_eq_true_iff.1 ho).2)
  · exact key 13 h rfl rfl (by subst h; exact (Bool.and_eq_true_iff.1 ho).1) (by subst h; exact (Bool.and_eq_true_iff.1 ho).2)
  · exact key 14 h rfl rfl (by subst h; exact (Bool.and_eq_true_iff.1 ho).1) (by subst h; exact (Bool.and_eq_true_iff.1 ho).2)
  · exact key 15 h rfl rfl (by subst h; exact (Bool.and_eq_true_iff.1 ho).1) (by subst h; exact (Bool.and_eq_true_iff.1 ho).2)
  · exact key 16 h rfl rfl (by subst h; exact (Bool.and_eq_true_iff.1 ho).1) (by subst h; exact (Bool.and_eq_true_iff.1 ho).2)
  · subst h
    have h4 : (rd != rn && rd != rm && ra != rn && ra != rm) = true := ho
    simp only [Bool.and_eq_true] at h4
    obtain ⟨⟨⟨a, b⟩, c⟩, d⟩ := h4
    have h17 := in_17 h0
    have hne : ra.toNat ≠ rd.toNat := by omega
    have hc := ne_nat h17.1 hr.2.1.1 c
    have hd := ne_nat h17.1 hr.2.2.1 d
    have ha := ne_nat hr.1.1 hr.2.1.1 a
    have hb := ne_nat hr.1.1 hr.2.2.1 b
    show put (put { put (put s rd.toNat (Wd.mul (s.r rn.toNat) (s.r rm.toNat))) ra.toNat (Wd.high (s.r rn.toNat) (s.r rm.toNat)) with pc := p } rd.toNat (Wd.mul ((put (put s rd.toNat (Wd.mul (s.r rn.toNat) (s.r rm.toNat))) ra.toNat (Wd.high (s.r rn.toNat) (s.r rm.toNat))).r rn.toNat) ((put (put s rd.toNat (Wd.mul (s.r rn.toNat) (s.r rm.toNat))) ra.toNat (Wd.high (s.r rn.toNat) (s.r rm.toNat))).r rm.toNat))) ra.toNat (Wd.high ((put (put s rd.toNat (Wd.mul (s.r rn.toNat) (s.r rm.toNat))) ra.toNat (Wd.high (s.r rn.toNat) (s.r rm.toNat))).r rn.toNat) ((put (put s rd.toNat (Wd.mul (s.r rn.toNat) (s.r rm.toNat))) ra.toNat (Wd.high (s.r rn.toNat) (s.r rm.toNat))).r rm.toNat)) = { put (put s rd.toNat (Wd.mul (s.r rn.toNat) (s.r rm.toNat))) ra.toNat (Wd.high (s.r rn.toNat) (s.r rm.toNat)) with pc := p }
    rw [put_other _ _ _ _ hc, put_other _ _ _ _ hd, put_other _ _ _ _ ha, put_other _ _ _ _ hb]
    generalize Wd.mul (s.r rn.toNat) (s.r rm.toNat) = x
    generalize Wd.high (s.r rn.toNat) (s.r rm.toNat) = y
    have e1 : ({ put (put s rd.toNat x) ra.toNat y with pc := p } : St).r rd.toNat = x := by
      show (put (put s rd.toNat x) ra.toNat y).r rd.toNat = x
      rw [put_other _ _ _ _ (Ne.symm hne), put_at]
    have e2 := put_same { put (put s rd.toNat x) ra.toNat y with pc := p } rd.toNat
    rw [e1] at e2
    rw [e2]
    have e3 := put_same { put (put s rd.toNat x) ra.toNat y with pc := p } ra.toNat
    rw [show ({ put (put s rd.toNat x) ra.toNat y with pc := p } : St).r ra.toNat = y from put_at _ _ y] at e3
    exact e3
  · exact keyn 18 h rfl rfl (by subst h; exact ho) (fun _ _ _ _ _ => rfl)
  · exact key0 19 h rfl rfl (fun _ _ _ _ _ _ => rfl)
  · exact key0 20 h rfl rfl (fun _ _ _ _ _ _ => rfl)
  · exact key0 21 h rfl rfl (fun _ _ _ _ _ _ => rfl)
  · exact key0 22 h rfl rfl (fun _ _ _ _ _ _ => rfl)
  · subst h; rfl
  · subst h; cases ho
  · subst h; cases ho
section
variable (s : St) (op rd rn rm ra imm cond : Int) (wide : Bool) (l : Int) (h0 : Th.check ⟨op, rd, rn, rm, ra, imm, cond, wide⟩ = 0) (ho : other op rd rn rm ra = true)
include h0 ho
theorem other_ops : (op == 2) = false ∧ (op == 24) = false ∧ (op == 25) = false := by
  refine ⟨?_, ?_, ?_⟩ <;> (rw [beq_eq_false_iff_ne]; rintro rfl; cases ho)
theorem other_B : stepB ⟨op, rd, rn, rm, ra, imm, cond, wide⟩ = true := by
  have h := other_ops op rd rn rm ra imm cond wide h0 ho
  unfold stepB
  rw [check_size _ h0]
  simp [h.1]
theorem other_S (s : St) : stepS s ⟨op, rd, rn, rm, ra, imm, cond, wide⟩ l = { made (words s) ⟨op, rd, rn, rm, ra, imm, cond, wide⟩ l with pc := Wd.add (Wd.wrap s.pc) (Th.size ⟨op, rd, rn, rm, ra, imm, cond, wide⟩) } := by
  have h := other_ops op rd rn rm ra imm cond wide h0 ho
  rw [stepS_yes s l (other_B op rd rn rm ra imm cond wide h0 ho), if_neg (by simp [taken, h.2.1, h.2.2])]
theorem other_words (p : Int) (hp : 0 ≤ p ∧ p < 4294967296) : words { made (words s) ⟨op, rd, rn, rm, ra, imm, cond, wide⟩ l with pc := p } = { made (words s) ⟨op, rd, rn, rm, ra, imm, cond, wide⟩ l with pc := p } := by
  have hb := made_bd (words s) ⟨op, rd, rn, rm, ra, imm, cond, wide⟩ l (words_bd s) (fun h => by simp only at h; subst h; exact in_3 h0)
  unfold words
  simp only [St.mk.injEq, and_self, and_true]
  refine ⟨?_, by unfold Wd.wrap; omega⟩
  funext j
  have := hb j
  unfold words at this
  unfold Wd.wrap at this ⊢
  omega
/-- done again it makes the same -/
theorem step_twice : { stepS (stepS s ⟨op, rd, rn, rm, ra, imm, cond, wide⟩ l) ⟨op, rd, rn, rm, ra, imm, cond, wide⟩ l with pc := (stepS s ⟨op, rd, rn, rm, ra, imm, cond, wide⟩ l).pc } = stepS s ⟨op, rd, rn, rm, ra, imm, cond, wide⟩ l := by
  rw [other_S op rd rn rm ra imm cond wide l h0 ho (stepS s _ l), other_S op rd rn rm ra imm cond wide l h0 ho s]
  rw [other_words s op rd rn rm ra imm cond wide l h0 ho _ (add_bd _ _), made_twice (words s) op rd rn rm ra imm cond wide l _ h0 ho]
theorem access_twice : access (stepS s ⟨op, rd, rn, rm, ra, imm, cond, wide⟩ l) ⟨op, rd, rn, rm, ra, imm, cond, wide⟩ = access s ⟨op, rd, rn, rm, ra, imm, cond, wide⟩ := by
  have hr := in_regs h0
  simp only at hr
  have hc : (Th.check ⟨op, rd, rn, rm, ra, imm, cond, wide⟩ != 0) = false := by simp [h0]
  rw [other_S op rd rn rm ra imm cond wide l h0 ho s]
  unfold access
  simp only [hc, Bool.false_eq_true, if_false]
  by_cases h19 : op = 19
  · subst h19
    have h1 : (rd != rn) = true := ho
    have e : (made (words s) ⟨19, rd, rn, rm, ra, imm, cond, wide⟩ l).r rn.toNat = Wd.wrap (s.r rn.toNat) := made_r (words s) _ l _ (ne_nat hr.1.1 hr.2.1.1 h1) (fun h => by cases h)
    show (⟨Wd.wrap ((made (words s) ⟨19, rd, rn, rm, ra, imm, cond, wide⟩ l).r rn.toNat), 4, 0, false⟩ : Acc) = ⟨Wd.wrap (s.r rn.toNat), 4, 0, false⟩
    rw [e, Wd.wrap_wrap]
  by_cases h21 : op = 21
  · subst h21
    have h1 : (rd != rn) = true := ho
    have e : (made (words s) ⟨21, rd, rn, rm, ra, imm, cond, wide⟩ l).r rn.toNat = Wd.wrap (s.r rn.toNat) := made_r (words s) _ l _ (ne_nat hr.1.1 hr.2.1.1 h1) (fun h => by cases h)
    show (⟨Wd.wrap ((made (words s) ⟨21, rd, rn, rm, ra, imm, cond, wide⟩ l).r rn.toNat), 1, 0, false⟩ : Acc) = ⟨Wd.wrap (s.r rn.toNat), 1, 0, false⟩
    rw [e, Wd.wrap_wrap]
  by_cases h20 : op = 20
  · subst h20
    have e : made (words s) ⟨20, rd, rn, rm, ra, imm, cond, wide⟩ l = words s := put_same (words s) rd.toNat
    rw [e]
    show (⟨Wd.wrap (Wd.wrap (s.r rn.toNat)), 4, Wd.wrap (Wd.wrap (s.r rd.toNat)), true⟩ : Acc) = ⟨Wd.wrap (s.r rn.toNat), 4, Wd.wrap (s.r rd.toNat), true⟩
    rw [Wd.wrap_wrap, Wd.wrap_wrap]
  by_cases h22 : op = 22
  · subst h22
    have e : made (words s) ⟨22, rd, rn, rm, ra, imm, cond, wide⟩ l = words s := put_same (words s) rd.toNat
    rw [e]
    show (⟨Wd.wrap (Wd.wrap (s.r rn.toNat)), 1, Wd.wrap (Wd.wrap (s.r rd.toNat)) % 256, true⟩ : Acc) = ⟨Wd.wrap (s.r rn.toNat), 1, Wd.wrap (s.r rd.toNat) % 256, true⟩
    rw [Wd.wrap_wrap, Wd.wrap_wrap]
  have a19 : (op == 19) = false := by simpa using h19
  have a20 : (op == 20) = false := by simpa using h20
  have a21 : (op == 21) = false := by simpa using h21
  have a22 : (op == 22) = false := by simpa using h22
  simp only [a19, a20, a21, a22, Bool.false_eq_true, if_false]
end
end Go.Proofs.Ytennhpfhgbmnfaa.Cs
