/-
  Package asm: plain mathematics of what is assembled: where there is no error all items' instructions are there.
-/
import Derived.Test.YtplfpaffjaldoaaAsmZ
namespace Go.Proofs.Ytplfpaffjaldoaa
set_option linter.unusedVariables false
set_option linter.unusedSimpArgs false

def As.fn (L : List As.It) : Int → Option Nat := As.fnd L L.length
theorem fits_b {op : Int} (ho : op = 24 ∨ op = 25) (imm cond : Int) (wd : Bool) : Th.fits ⟨op, 0, 0, 0, 0, imm, cond, wd⟩ = Th.fits ⟨op, 0, 0, 0, 0, 0, cond, false⟩ := by
  rcases ho with rfl | rfl <;> simp [Th.fits, Th.known, Th.within, Th.most, Th.least, Th.none0]
theorem check_b {op : Int} (ho : op = 24 ∨ op = 25) (imm cond : Int) (wd : Bool) (h : Th.check ⟨op, 0, 0, 0, 0, 0, cond, false⟩ = 0) (hr : Th.reaches op imm wd = true) : Th.check ⟨op, 0, 0, 0, 0, imm, cond, wd⟩ = 0 := by
  have hf : Th.fits ⟨op, 0, 0, 0, 0, 0, cond, false⟩ = true := by
    unfold Th.check at h
    split at h
    · assumption
    · omega
  unfold Th.check
  rw [fits_b ho imm cond wd, hf, if_pos rfl]
  dsimp only
  rw [hr]
  simp
theorem none_of {L : List As.It} {base : Int} (h : As.check L base = 0) : (0 ≤ base ∧ base ≤ 262144 ∧ base % 2 = 0) ∧ (∀ i (hi : i < L.length), As.nn L[i] = false) ∧ As.bad L = 0 := by
  unfold As.check at h
  split at h
  · omega
  · rename_i hc
    simp only [Bool.or_eq_true, not_or, decide_eq_true_eq, Bool.not_eq_true, bne_eq_false_iff_eq] at hc
    refine ⟨⟨by omega, by omega, hc.1.2⟩, ?_, h⟩
    have := hc.2
    rw [List.any_eq_false] at this
    intro i hi
    have h2 := this L[i] (List.getElem_mem hi)
    simpa using h2
theorem bad_of : ∀ {L : List As.It}, As.bad L = 0 → ∀ i (hi : i < L.length), L[i].kind = 0 → Th.check L[i].ins = 0 := by
  intro L
  induction L with
  | nil => intro _ i hi; exact absurd hi (Nat.not_lt_zero _)
  | cons x L ih =>
    intro h i hi hk
    rw [As.bad] at h
    cases i with
    | zero =>
      simp only [List.getElem_cons_zero] at hk ⊢
      rw [if_pos (by simp [hk])] at h
      split at h
      · rename_i hc; simpa using hc
      · exact h
    | succ i =>
      simp only [List.getElem_cons_succ] at hk ⊢
      apply ih _ i (by simpa using hi) hk
      split at h
      · split at h
        · exact h
        · rename_i hc; simp [h] at hc
      · exact h
theorem fnd_some {L : List As.It} {label : Int} {t : Nat} (h : As.fn L label = some t) : ∃ ht : t < L.length, L[t].kind = 1 ∧ L[t].label = label := by
  unfold As.fn As.fnd at h
  rw [List.take_length] at h
  obtain ⟨ht, h1, _⟩ := List.findIdx?_eq_some_iff_getElem.1 h
  unfold As.isL at h1
  rw [Bool.and_eq_true, beq_iff_eq, beq_iff_eq] at h1
  exact ⟨ht, h1.1, h1.2⟩
theorem good_of {L : List As.It} {base : Int} (hc : As.check L base = 0) (hf : As.findE L = 0) : As.Good L (As.fn L) := by
  have hnn := (none_of hc).2.1
  refine ⟨fun i hi hk => ?_, fun i hi hk => ?_⟩
  · unfold As.findE at hf
    split at hf
    · omega
    · split at hf
      · omega
      · rename_i hl
        have hl2 : As.lost L L.length = false := by simpa using hl
        unfold As.lost at hl2
        rw [List.take_length, List.any_eq_false] at hl2
        have h2 := hl2 L[i] (List.getElem_mem hi)
        rw [Bool.and_eq_true, not_and, beq_iff_eq] at h2
        have h3 := h2 hk
        cases hx : As.fn L L[i].label with
        | none => unfold As.fn at hx; rw [hx] at h3; simp at h3
        | some t =>
          obtain ⟨ht, h4, _⟩ := fnd_some hx
          exact ⟨t, ht, rfl, h4⟩
  · have h2 := hnn i hi
    unfold As.nn As.none' at h2
    rw [hk] at h2
    simp at h2
    omega
theorem nn_branch {L : List As.It} {i : Nat} (hi : i < L.length) (hk : L[i].kind = 2) (h : As.nn L[i] = false) : Th.check ⟨L[i].ins.op, 0, 0, 0, 0, 0, L[i].ins.cond, false⟩ = 0 := by
  unfold As.nn As.none' at h
  rw [hk] at h
  simp at h
  exact h.2
theorem kinds_of {L : List As.It} {i : Nat} (hi : i < L.length) (h : As.nn L[i] = false) : L[i].kind = 0 ∨ L[i].kind = 1 ∨ L[i].kind = 2 := by
  unfold As.nn As.none' at h
  split at h
  · rename_i hk; simp at hk; omega
  · split at h
    · rename_i hk; simp at hk; omega
    · cases h
theorem reach_wide {op : Int} (h : op = 24 ∨ op = 25) : Th.reachLo op true ≤ -1048576 ∧ 1048574 ≤ Th.reachHi op true := by
  rcases h with rfl | rfl <;> decide
/-- each item's instruction is there -/
theorem ok_of {L : List As.It} {base : Int} (hc : As.check L base = 0) (hf : As.findE L = 0) (hn : L.length ≤ 100000) (k : Nat) (hk : k < L.length) (h1 : L[k].kind ≠ 1) :
    Th.check (As.insAt (As.lay L (As.wideL L (As.fn L)) base) (As.wideL L (As.fn L)) (As.fn L) k L[k]) = 0 := by
  have g := good_of hc hf
  have hn1 := none_of hc
  rcases kinds_of hk (hn1.2.1 k hk) with h0 | h0 | h0
  · unfold As.insAt
    rw [if_neg (by simp [h0])]
    exact bad_of hn1.2.2 k hk h0
  · exact absurd h0 h1
  · obtain ⟨t, ht, hft, ht1⟩ := g.to k hk h0
    have ho := g.op k hk h0
    unfold As.insAt
    rw [if_pos (by simp [h0])]
    apply check_b ho _ _ _ (nn_branch hk h0 (hn1.2.1 k hk))
    rw [hft]
    show Th.reaches _ (As.imm _ k t) _ = true
    have himm : As.imm (As.lay L (As.wideL L (As.fn L)) base) k t = As.dist L (As.wideL L (As.fn L)) base k t := by
      unfold As.imm As.dist
      rw [lat_get L _ base t (by omega), lat_get L _ base k (by omega)]
    rw [himm]
    have hev : As.dist L (As.wideL L (As.fn L)) base k t % 2 = 0 := by
      unfold As.dist
      rw [As.at_wide L _ base t, As.at_wide L _ base k]
      have := As.at_even L t
      have := As.at_even L k
      omega
    unfold Th.reaches
    rw [Bool.and_eq_true, Bool.and_eq_true, decide_eq_true_eq, decide_eq_true_eq, beq_iff_eq]
    cases hw : As.wd (As.wideL L (As.fn L)) k with
    | false =>
      have := As.wide_closed g base k hk h0 hw t hft
      exact ⟨⟨this.1, this.2⟩, hev⟩
    | true =>
      have hr := reach_wide ho
      have b1 := As.at_bd L (As.wideL L (As.fn L)) base t
      have b2 := As.at_bd L (As.wideL L (As.fn L)) base k
      unfold As.dist at hev ⊢
      refine ⟨⟨?_, ?_⟩, hev⟩ <;> omega
end Go.Proofs.Ytplfpaffjaldoaa
