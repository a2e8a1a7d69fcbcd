/-
  Package asm: plain mathematics of branches: the program's rounds make wide just those that each way has to, in which all narrow ones reach.
-/
import Derived.Test.YtplfpaffjaldoaaAsmL2
namespace Go.Proofs.Ytplfpaffjaldoaa
set_option linter.unusedVariables false
set_option linter.unusedSectionVars false

/-- one way with one more wide branch on it, and whether it is late then -/
def As.off (item : Int) (x : As.Way) : Bool := decide (item ≤ x.behind) || decide (x.before ≤ item)
def As.stp (item : Int) (x : As.Way) : As.Way := if As.off item x then x else ⟨x.item, x.behind, x.before, x.spare - 1⟩
def As.hit (item : Int) (x : As.Way) : Bool := !(As.off item x) && (x.spare - 1 == -1)
def As.hitAt (ws : List As.Way) (item : Int) (i : Nat) : Bool := match ws[i]? with | some x => As.hit item x | none => false
theorem lenRun_get (item : Int) (lo : Nat) (ws : List As.Way) (m : Nat) : ∀ i, (As.lenRun item lo m (ws, [])).1[i]? = if lo ≤ i ∧ i < lo + m then (ws[i]?).map (As.stp item) else ws[i]? := by
  induction m with
  | zero => intro i; rw [if_neg (by omega)]; rfl
  | succ m ih =>
    intro i
    have hm := ih (lo + m)
    rw [if_neg (by omega)] at hm
    have hi := ih i
    rw [As.lenRun, As.lenStep, hm]
    cases hx : ws[lo + m]? with
    | none =>
      dsimp only
      rw [hi]
      by_cases h : lo ≤ i ∧ i < lo + m
      · rw [if_pos h, if_pos (by omega)]
      · rw [if_neg h]
        by_cases h2 : i = lo + m
        · subst h2; rw [if_pos (by omega), hx]; rfl
        · rw [if_neg (by omega)]
    | some x =>
      dsimp only
      by_cases ho : (decide (item ≤ x.behind) || decide (x.before ≤ item)) = true
      · rw [if_pos ho, hi]
        by_cases h : lo ≤ i ∧ i < lo + m
        · rw [if_pos h, if_pos (by omega)]
        · rw [if_neg h]
          by_cases h2 : i = lo + m
          · subst h2; rw [if_pos (by omega), hx]
            have : As.stp item x = x := by unfold As.stp As.off; rw [if_pos ho]
            rw [Option.map_some, this]
          · rw [if_neg (by omega)]
      · rw [if_neg ho]
        by_cases h2 : i = lo + m
        · subst h2
          have hl : lo + m < (As.lenRun item lo m (ws, [])).1.length := by rw [lenRun_len]; exact (List.getElem?_eq_some_iff.1 hx).1
          have : As.stp item x = ⟨x.item, x.behind, x.before, x.spare - 1⟩ := by unfold As.stp As.off; rw [if_neg ho]
          rw [List.getElem?_set_self hl, hx, Option.map_some, this, if_pos (by omega)]
        · rw [List.getElem?_set_ne (by omega), hi]
          by_cases h : lo ≤ i ∧ i < lo + m
          · rw [if_pos h, if_pos (by omega)]
          · rw [if_neg h, if_neg (by omega)]
theorem lenRun_two (item : Int) (lo : Nat) (ws : List As.Way) (m : Nat) : (As.lenRun item lo m (ws, [])).2 = (List.range' lo m).filter (As.hitAt ws item) := by
  induction m with
  | zero => rfl
  | succ m ih =>
    have hm := lenRun_get item lo ws m (lo + m)
    rw [if_neg (by omega)] at hm
    rw [List.range'_concat, List.filter_append, ← ih, As.lenRun, As.lenStep, hm]
    cases hx : ws[lo + m]? with
    | none =>
      dsimp only
      have : As.hitAt ws item (lo + 1 * m) = false := by unfold As.hitAt; rw [Nat.one_mul, hx]
      rw [List.filter_cons_of_neg (by rw [this]; decide)]
      simp
    | some x =>
      dsimp only
      have e : As.hitAt ws item (lo + 1 * m) = As.hit item x := by unfold As.hitAt; rw [Nat.one_mul, hx]
      by_cases ho : (decide (item ≤ x.behind) || decide (x.before ≤ item)) = true
      · rw [if_pos ho]
        have : As.hit item x = false := by unfold As.hit As.off; rw [ho]; rfl
        rw [List.filter_cons_of_neg (by rw [e, this]; decide)]
        simp
      · rw [if_neg ho]
        have ho' : As.off item x = false := by unfold As.off; simpa using ho
        dsimp only
        by_cases hs : (x.spare - 1 == -1) = true
        · rw [if_pos hs, List.filter_cons_of_pos (by rw [e]; unfold As.hit; rw [ho', hs]; rfl), Nat.one_mul]; rfl
        · rw [if_neg hs, List.filter_cons_of_neg (by rw [e]; unfold As.hit; rw [ho']; simpa using hs)]
          simp
/-- whether branch b lies on the way of branch j -/
def As.on (S : List As.Way) (j b : Nat) : Bool := match S[j]?, S[b]? with | some x, some y => !(As.off y.item x) | _, _ => false
def As.cnt (S : List As.Way) (D : List Nat) (j : Nat) : Nat := (D.filter (As.on S j)).length
def As.cntY (S : List As.Way) (Y : Nat → Bool) (j : Nat) : Nat := As.cnt S ((List.range S.length).filter Y) j
/-- a way of making branches wide in which all narrow ones reach -/
def As.Closed (S : List As.Way) (Y : Nat → Bool) : Prop := ∀ j (hj : j < S.length), S[j].spare < (As.cntY S Y j : Int) → Y j = true
/-- those on the way of one that reaches are near -/
def As.Win (S : List As.Way) : Prop := ∀ j k (hj : j < S.length), 0 ≤ S[j].spare → As.on S j k = true → j ≤ k + 1025 ∧ k ≤ j + 1025
structure As.Inv (S ws : List As.Way) (D P : List Nat) : Prop where
  len : ws.length = S.length
  stat : ∀ j (h : j < S.length) (h' : j < ws.length), ws[j].item = S[j].item ∧ ws[j].behind = S[j].behind ∧ ws[j].before = S[j].before
  neg : ∀ j (h : j < S.length) (h' : j < ws.length), S[j].spare < 0 → ws[j].spare ≤ S[j].spare
  pos : ∀ j (h : j < S.length) (h' : j < ws.length), 0 ≤ S[j].spare → ws[j].spare = S[j].spare - As.cnt S D j
  pend : ∀ j (h' : j < ws.length), ws[j].spare < 0 ↔ j ∈ D ++ P
  lt : ∀ j ∈ D ++ P, j < S.length
  nodup : (D ++ P).Nodup
  least : ∀ Y : Nat → Bool, As.Closed S Y → ∀ j ∈ D ++ P, Y j = true
  low : ∀ j (h : j < S.length) (h' : j < ws.length), S[j].spare - D.length ≤ ws[j].spare ∧ ws[j].spare ≤ S[j].spare
theorem As.len_sub : ∀ {l m : List Nat}, l.Nodup → (∀ x ∈ l, x ∈ m) → l.length ≤ m.length := by
  intro l
  induction l with
  | nil => intro m _ _; exact Nat.zero_le _
  | cons x l ih =>
    intro m hn hs
    rw [List.nodup_cons] at hn
    have hx : x ∈ m := hs x (by simp)
    have h1 := ih (m := m.erase x) hn.2 (fun y hy => by
      have hne : y ≠ x := fun e => hn.1 (by rw [← e]; exact hy)
      exact (List.mem_erase_of_ne hne).2 (hs y (by simp [hy])))
    have h2 := List.length_erase_of_mem hx
    have h3 : 0 < m.length := List.length_pos_of_mem hx
    simp only [List.length_cons]
    omega
theorem As.cnt_sub {S : List As.Way} {D : List Nat} {Y : Nat → Bool} (j : Nat) (hn : D.Nodup) (hl : ∀ b ∈ D, b < S.length) (hY : ∀ b ∈ D, Y b = true) : As.cnt S D j ≤ As.cntY S Y j := by
  unfold As.cntY As.cnt
  apply As.len_sub (hn.filter _)
  intro b hb
  rw [List.mem_filter] at hb ⊢
  exact ⟨List.mem_filter.2 ⟨List.mem_range.2 (hl b hb.1), hY b hb.1⟩, hb.2⟩
theorem As.cnt_snoc (S : List As.Way) (D : List Nat) (k j : Nat) : As.cnt S (D ++ [k]) j = As.cnt S D j + (if As.on S j k then 1 else 0) := by
  unfold As.cnt
  rw [List.filter_append, List.length_append]
  by_cases h : As.on S j k = true
  · rw [List.filter_cons_of_pos h, if_pos h]; rfl
  · rw [List.filter_cons_of_neg h, if_neg h]; rfl
theorem As.Inv.step {S ws : List As.Way} {D P : List Nat} {k : Nat} {item : Int} (win : As.Win S) (h : As.Inv S ws D (k :: P)) (hit : ∀ h, (ws[k]'h).item = item) (n : Nat) (hn : ws.length = n) (lo m : Nat) (hlo : lo = k - 1025) (hm : m = min n (k + 1026) - lo) :
    As.Inv S (As.lenRun item lo m (ws, [])).1 (D ++ [k]) (P ++ (As.lenRun item lo m (ws, [])).2) := by
  have hkS : k < S.length := h.lt k (by simp)
  have hkw : k < ws.length := by rw [h.len]; exact hkS
  have hitem : S[k].item = item := by rw [← hit hkw]; exact ((h.stat k hkS hkw).1).symm
  have hlen : (As.lenRun item lo m (ws, [])).1.length = ws.length := lenRun_len _ _ _ _ _
  have hmem : ∀ j, j ∈ (As.lenRun item lo m (ws, [])).2 ↔ (lo ≤ j ∧ j < lo + m ∧ As.hitAt ws item j = true) := by
    intro j
    rw [lenRun_two, List.mem_filter, List.mem_range'_1]
    constructor
    · rintro ⟨⟨h1, h2⟩, h3⟩; exact ⟨h1, h2, h3⟩
    · rintro ⟨h1, h2, h3⟩; exact ⟨⟨h1, h2⟩, h3⟩
  have hnd2 : (As.lenRun item lo m (ws, [])).2.Nodup := by
    rw [lenRun_two]; exact (List.nodup_range').filter _
  have hget : ∀ j (hj : j < ws.length) (hj' : j < (As.lenRun item lo m (ws, [])).1.length), (As.lenRun item lo m (ws, [])).1[j] = if lo ≤ j ∧ j < lo + m then As.stp item ws[j] else ws[j] := by
    intro j hj hj'
    have e := lenRun_get item lo ws m j
    rw [List.getElem?_eq_getElem hj', List.getElem?_eq_getElem hj] at e
    by_cases hc : lo ≤ j ∧ j < lo + m
    · rw [if_pos hc, Option.map_some] at e
      rw [if_pos hc]; exact Option.some.inj e
    · rw [if_neg hc] at e
      rw [if_neg hc]; exact Option.some.inj e
  have hoff : ∀ j (hj : j < S.length) (hj' : j < ws.length), As.off item ws[j] = !(As.on S j k) := by
    intro j hj hj'
    obtain ⟨_, s1, s2⟩ := h.stat j hj hj'
    unfold As.on
    rw [List.getElem?_eq_getElem hj, List.getElem?_eq_getElem hkS]
    dsimp only
    rw [Bool.not_not, hitem]
    unfold As.off
    rw [s1, s2]
  generalize As.lenRun item lo m (ws, []) = R at *
  have hstp : ∀ j (hj : j < S.length) (hj' : j < ws.length), As.stp item ws[j] = if As.on S j k then ⟨ws[j].item, ws[j].behind, ws[j].before, ws[j].spare - 1⟩ else ws[j] := by
    intro j hj hj'
    unfold As.stp
    rw [hoff j hj hj']
    cases As.on S j k <;> rfl
  -- what a way has left
  have hsp : ∀ j (hj : j < S.length) (hj' : j < ws.length) (hj2 : j < R.1.length), R.1[j].spare = ws[j].spare ∨ (R.1[j].spare = ws[j].spare - 1 ∧ As.on S j k = true) := by
    intro j hj hj' hj2
    rw [hget j hj' hj2]
    split
    · rw [hstp j hj hj']
      cases ho : As.on S j k
      · left; rfl
      · right; exact ⟨rfl, rfl⟩
    · left; rfl
  have hhit : ∀ j (hj : j < S.length) (hj' : j < ws.length), As.hitAt ws item j = true ↔ (As.on S j k = true ∧ ws[j].spare = 0) := by
    intro j hj hj'
    unfold As.hitAt
    rw [List.getElem?_eq_getElem hj']
    dsimp only
    unfold As.hit
    rw [hoff j hj hj', Bool.not_not, Bool.and_eq_true, beq_iff_eq]
    constructor
    · rintro ⟨h1, h2⟩; exact ⟨h1, by omega⟩
    · rintro ⟨h1, h2⟩; exact ⟨h1, by omega⟩
  have hnew : ∀ j ∈ R.2, ∃ (hj : j < S.length) (hj' : j < ws.length), As.on S j k = true ∧ ws[j].spare = 0 ∧ 0 ≤ S[j].spare ∧ j ∉ D ++ k :: P := by
    intro j hj
    obtain ⟨h1, h2, h3⟩ := (hmem j).1 hj
    have hjw : j < ws.length := by omega
    have hjS : j < S.length := by rw [← h.len]; exact hjw
    obtain ⟨g1, g2⟩ := (hhit j hjS hjw).1 h3
    refine ⟨hjS, hjw, g1, g2, ?_, ?_⟩
    · apply Int.not_lt.1
      intro hneg
      have := h.neg j hjS hjw hneg
      omega
    · intro hin
      have := (h.pend j hjw).2 hin
      omega
  have hassoc : ∀ x : Nat, x ∈ (D ++ [k]) ++ (P ++ R.2) ↔ (x ∈ D ++ k :: P ∨ x ∈ R.2) := by intro x; simp [or_assoc]
  have hdk : (D ++ [k]).Nodup ∧ (∀ b ∈ D ++ [k], b < S.length) := by
    have e : D ++ k :: P = (D ++ [k]) ++ P := by simp
    refine ⟨?_, fun b hb => h.lt b (by rw [e]; exact List.mem_append_left _ hb)⟩
    have := h.nodup
    rw [e] at this
    exact (List.nodup_append.1 this).1
  refine ⟨by rw [hlen, h.len], ?_, ?_, ?_, ?_, ?_, ?_, ?_, ?_⟩
  · intro j hj hj'
    have hjw : j < ws.length := by rw [← hlen]; exact hj'
    rw [hget j hjw hj']
    have hs := h.stat j hj hjw
    split
    · rw [hstp j hj hjw]; split
      · exact hs
      · exact hs
    · exact hs
  · intro j hj hj' hneg
    have hjw : j < ws.length := by rw [← hlen]; exact hj'
    have := h.neg j hj hjw hneg
    rcases hsp j hj hjw hj' with e | ⟨e, _⟩ <;> omega
  · intro j hj hj' hpos
    have hjw : j < ws.length := by rw [← hlen]; exact hj'
    have hp := h.pos j hj hjw hpos
    rw [As.cnt_snoc, hget j hjw hj']
    cases ho : As.on S j k with
    | false =>
      have : (if lo ≤ j ∧ j < lo + m then As.stp item ws[j] else ws[j]) = ws[j] := by
        rw [hstp j hj hjw, ho]; split <;> rfl
      rw [this, hp]; simp
    | true =>
      have hw := win j k hj hpos ho
      rw [if_pos (by omega), hstp j hj hjw, ho, if_pos rfl]
      show ws[j].spare - 1 = _
      rw [hp, if_pos rfl]; omega
  · intro j hj'
    have hjw : j < ws.length := by rw [← hlen]; exact hj'
    have hj : j < S.length := by rw [← h.len]; exact hjw
    have hpd := h.pend j hjw
    rw [hassoc]
    constructor
    · intro hlt
      rcases hsp j hj hjw hj' with e | ⟨e, ho⟩
      · left; exact hpd.1 (by omega)
      · by_cases h0 : ws[j].spare < 0
        · left; exact hpd.1 h0
        · right
          have h00 : ws[j].spare = 0 := by omega
          have hS0 : 0 ≤ S[j].spare := by
            apply Int.not_lt.1
            intro hneg
            have := h.neg j hj hjw hneg
            omega
          have hw := win j k hj hS0 ho
          exact (hmem j).2 ⟨by omega, by omega, (hhit j hj hjw).2 ⟨ho, h00⟩⟩
    · rintro (hin | hin)
      · have := hpd.2 hin
        rcases hsp j hj hjw hj' with e | ⟨e, _⟩ <;> omega
      · obtain ⟨_, _, ho, h00, _, _⟩ := hnew j hin
        obtain ⟨h1, h2, _⟩ := (hmem j).1 hin
        rw [hget j hjw hj', if_pos (by omega), hstp j hj hjw, ho, if_pos rfl]
        show ws[j].spare - 1 < 0
        omega
  · intro j hj
    rcases (hassoc j).1 hj with hin | hin
    · exact h.lt j hin
    · exact (hnew j hin).1
  · have e : (D ++ [k]) ++ (P ++ R.2) = (D ++ k :: P) ++ R.2 := by simp
    rw [e, List.nodup_append]
    refine ⟨h.nodup, hnd2, ?_⟩
    intro a ha b hb hab
    subst hab
    exact (hnew a hb).2.2.2.2.2 ha
  · intro Y hY j hj
    rcases (hassoc j).1 hj with hin | hin
    · exact h.least Y hY j hin
    · obtain ⟨hjS, hjw, ho, h00, hS0, _⟩ := hnew j hin
      apply hY j hjS
      have hp := h.pos j hjS hjw hS0
      have hc := As.cnt_snoc S D k j
      rw [ho, if_pos rfl] at hc
      have hle := As.cnt_sub (S := S) (Y := Y) j hdk.1 hdk.2 (fun b hb => h.least Y hY b (by
        have e : D ++ k :: P = (D ++ [k]) ++ P := by simp
        rw [e]; exact List.mem_append_left _ hb))
      omega
  · intro j hj hj'
    have hjw : j < ws.length := by rw [← hlen]; exact hj'
    have hl := h.low j hj hjw
    rw [List.length_append]
    simp only [List.length_singleton]
    rcases hsp j hj hjw hj' with e | ⟨e, _⟩ <;> omega
/-- the branches that are wide in each way in which all narrow ones reach -/
noncomputable def As.lfp (S : List As.Way) (j : Nat) : Bool := @decide (∀ Y : Nat → Bool, As.Closed S Y → Y j = true) (Classical.propDecidable _)
theorem As.lfp_iff {S : List As.Way} {j : Nat} : As.lfp S j = true ↔ ∀ Y : Nat → Bool, As.Closed S Y → Y j = true := by
  unfold As.lfp; exact @decide_eq_true_iff _ (Classical.propDecidable _)
theorem As.Inv.start {S : List As.Way} {P : List Nat} (hP : ∀ j, j ∈ P ↔ ∃ hj : j < S.length, S[j].spare < 0) (hn : P.Nodup) : As.Inv S S [] P := by
  refine ⟨rfl, fun j _ _ => ⟨rfl, rfl, rfl⟩, fun j _ _ _ => Int.le_refl _, fun j _ _ _ => by simp [As.cnt], fun j hj => ?_, fun j hj => ?_, by simpa using hn, fun Y hY j hj => ?_, fun j _ _ => by simp⟩
  · rw [List.nil_append, hP]; exact ⟨fun h => ⟨hj, h⟩, fun ⟨_, h⟩ => h⟩
  · rw [List.nil_append, hP] at hj; exact hj.1
  · rw [List.nil_append, hP] at hj
    obtain ⟨h1, h2⟩ := hj
    exact hY j h1 (by omega)
theorem As.Inv.done {S ws : List As.Way} {D : List Nat} (h : As.Inv S ws D []) : As.Closed S (fun j => decide (j ∈ D)) ∧ ∀ j, decide (j ∈ D) = (decide (j < S.length) && As.lfp S j) := by
  have hc : As.Closed S (fun j => decide (j ∈ D)) := by
    intro j hj hs
    have hjw : j < ws.length := by rw [h.len]; exact hj
    apply decide_eq_true
    have hpd := h.pend j hjw
    rw [List.append_nil] at hpd
    apply hpd.1
    apply Int.not_le.1
    intro h0
    have hS0 : 0 ≤ S[j].spare := by
      apply Int.not_lt.1
      intro hneg
      have := h.neg j hj hjw hneg
      omega
    have hp := h.pos j hj hjw hS0
    have hle : As.cntY S (fun j => decide (j ∈ D)) j ≤ As.cnt S D j := by
      unfold As.cntY As.cnt
      apply As.len_sub ((List.nodup_range.filter _).filter _)
      intro b hb
      rw [List.mem_filter, List.mem_filter] at hb
      exact List.mem_filter.2 ⟨of_decide_eq_true hb.1.2, hb.2⟩
    omega
  refine ⟨hc, fun j => ?_⟩
  by_cases hj : j < S.length
  · rw [decide_eq_true hj, Bool.true_and]
    cases hl : As.lfp S j with
    | true => exact As.lfp_iff.1 hl _ hc
    | false =>
      apply decide_eq_false
      intro hin
      rw [As.lfp_iff.2 (fun Y hY => h.least Y hY j (by simpa using hin))] at hl
      cases hl
  · rw [decide_eq_false hj, Bool.false_and]
    exact decide_eq_false fun hin => hj (h.lt j (by simpa using hin))
/-- how many have spare left -/
def As.left (ws : List As.Way) : Nat := ((List.range ws.length).filter fun j => match ws[j]? with | some x => decide (0 ≤ x.spare) | none => false).length
theorem As.Inv.left {S ws : List As.Way} {D P : List Nat} (h : As.Inv S ws D P) : As.left ws + (D ++ P).length = S.length := by
  have key : ∀ (p : Nat → Bool) (n : Nat), ((List.range n).filter p).length + ((List.range n).filter fun j => !p j).length = n := by
    intro p n
    induction n with
    | zero => rfl
    | succ n ih =>
      rw [List.range_succ, List.filter_append, List.filter_append, List.length_append, List.length_append]
      cases hp : p n
      · rw [List.filter_cons_of_neg (by rw [hp]; decide), List.filter_cons_of_pos (by rw [hp]; rfl)]; simp; omega
      · rw [List.filter_cons_of_pos hp, List.filter_cons_of_neg (by rw [hp]; decide)]; simp; omega
  have hk := key (fun j => match ws[j]? with | some x => decide (0 ≤ x.spare) | none => false) ws.length
  have e : ((List.range ws.length).filter fun j => !(match ws[j]? with | some x => decide (0 ≤ x.spare) | none => false)).length = (D ++ P).length := by
    apply Nat.le_antisymm
    · apply As.len_sub (List.nodup_range.filter _)
      intro j hj
      rw [List.mem_filter] at hj
      have hjw : j < ws.length := List.mem_range.1 hj.1
      have h2 := hj.2
      rw [List.getElem?_eq_getElem hjw] at h2
      apply (h.pend j hjw).1
      simp at h2
      exact h2
    · apply As.len_sub h.nodup
      intro j hj
      have hjw : j < ws.length := by rw [h.len]; exact h.lt j hj
      rw [List.mem_filter]
      refine ⟨List.mem_range.2 hjw, ?_⟩
      rw [List.getElem?_eq_getElem hjw]
      have := (h.pend j hjw).2 hj
      simp
      exact this
  rw [e, h.len] at hk
  unfold As.left
  rw [h.len]
  exact hk
theorem As.Inv.bound {S ws : List As.Way} {D P : List Nat} (h : As.Inv S ws D P) : (D ++ P).length ≤ S.length := by
  have := h.left; omega
/-- which of so many items are wide, of these branches -/
def As.wideOf (S : List As.Way) (D : List Nat) (m : Nat) : List Bool := (List.range m).map fun (i : Nat) => D.any fun j => match S[j]? with | some x => x.item == (i : Int) | none => false
theorem As.wideOf_len (S : List As.Way) (D : List Nat) (m : Nat) : (As.wideOf S D m).length = m := by unfold As.wideOf; simp
theorem As.wideOf_snoc (S : List As.Way) (D : List Nat) (m k it : Nat) (hk : k < S.length) (hi : S[k].item = (it : Int)) : As.wideOf S (D ++ [k]) m = (As.wideOf S D m).set it true := by
  apply List.ext_getElem?
  intro i
  unfold As.wideOf
  rw [List.getElem?_set, List.getElem?_map, List.getElem?_map, List.length_map, List.length_range]
  by_cases him : i < m
  · rw [List.getElem?_range him]
    simp only [Option.map_some, List.any_append, List.any_cons, List.any_nil, Bool.or_false, List.getElem?_eq_getElem hk, hi]
    by_cases he : it = i
    · subst he
      rw [if_pos rfl, if_pos him]; simp
    · rw [if_neg he]
      have : ((it : Int) == (i : Int)) = false := by simp; omega
      rw [this, Bool.or_false]
  · rw [List.getElem?_eq_none (by simp; omega)]
    by_cases he : it = i
    · rw [if_pos he, if_neg (by omega)]; rfl
    · rw [if_neg he]; rfl
theorem As.wideOf_nil (S : List As.Way) (m : Nat) : As.wideOf S [] m = List.replicate m false := by
  apply List.ext_getElem?
  intro i
  unfold As.wideOf
  rw [List.getElem?_map, List.getElem?_replicate]
  by_cases him : i < m
  · rw [List.getElem?_range him, if_pos him]; rfl
  · rw [List.getElem?_eq_none (by simp; omega), if_neg him]; rfl
theorem Th.size_even (i : Th.Ins) : Th.size i % 2 = 0 := by
  unfold Th.size
  split
  · split
    · omega
    · split <;> omega
  · omega
/-- whether an item is a branch; how many there are ahead of an item, and how many wide ones -/
def As.isB (L : List As.It) (i : Nat) : Bool := match L[i]? with | some x => x.kind == 2 | none => false
def As.bc (L : List As.It) (k : Nat) : Nat := ((List.range k).filter (As.isB L)).length
def As.wc (L : List As.It) (w : Nat → Bool) (k : Nat) : Nat := ((List.range k).filter fun i => As.isB L i && w i).length
theorem filter_snoc {p : Nat → Bool} (k : Nat) : ((List.range (k + 1)).filter p).length = ((List.range k).filter p).length + (if p k then 1 else 0) := by
  rw [List.range_succ, List.filter_append, List.length_append]
  cases h : p k
  · rw [List.filter_cons_of_neg (by rw [h]; decide)]; simp
  · rw [List.filter_cons_of_pos h]; simp
theorem As.at_wide (L : List As.It) (w : List Bool) (base : Int) (k : Nat) : As.at L w base k = base + As.at L [] 0 k + 2 * (As.wc L (As.wd w) k : Int) := by
  induction k with
  | zero => simp [As.at, As.wc]
  | succ k ih =>
    have hs : As.wc L (As.wd w) (k + 1) = As.wc L (As.wd w) k + (if As.isB L k && As.wd w k then 1 else 0) := filter_snoc k
    rw [As.at, As.at, ih]
    have hn : As.wd [] k = false := rfl
    rw [hn]
    cases hx : L[k]? with
    | none =>
      have hB : As.isB L k = false := by unfold As.isB; rw [hx]
      simp [hB] at hs
      rw [hs]; dsimp only; omega
    | some x =>
      have hB : As.isB L k = (x.kind == 2) := by unfold As.isB; rw [hx]
      dsimp only
      unfold As.size
      by_cases h0 : (x.kind == 0) = true
      · have h2 : (x.kind == 2) = false := by simp at h0 ⊢; omega
        rw [if_pos h0, if_pos h0]
        simp [hB, h2] at hs
        rw [hs]; omega
      · rw [if_neg h0, if_neg h0]
        by_cases h2 : (x.kind == 2) = true
        · rw [if_pos h2, if_pos h2]
          cases hw : As.wd w k
          · simp [hw] at hs
            rw [hs]; simp; omega
          · simp [hB, h2, hw] at hs
            rw [hs]; simp; omega
        · have h2' : (x.kind == 2) = false := by simpa using h2
          rw [if_neg h2, if_neg h2]
          simp [hB, h2'] at hs
          rw [hs]; omega
theorem As.at_even (L : List As.It) (k : Nat) : As.at L [] 0 k % 2 = 0 := by
  induction k with
  | zero => rfl
  | succ k ih =>
    rw [As.at]
    split
    · rename_i x _
      have := Th.size_even x.ins
      unfold As.size
      split
      · omega
      · split
        · rw [show As.wd [] k = false from rfl]; simp; omega
        · omega
    · omega
/-- from an item on, each branch has two bytes at least -/
theorem As.at_ge (L : List As.It) (k m : Nat) : As.at L [] 0 k + 2 * ((As.bc L (k + m) : Int) - As.bc L k) ≤ As.at L [] 0 (k + m) := by
  induction m with
  | zero => simp
  | succ m ih =>
    have hs : As.bc L (k + m + 1) = As.bc L (k + m) + (if As.isB L (k + m) then 1 else 0) := filter_snoc (k + m)
    rw [← Nat.add_assoc, As.at]
    cases hx : L[k + m]? with
    | none =>
      have hB : As.isB L (k + m) = false := by unfold As.isB; rw [hx]
      simp [hB] at hs
      rw [hs]; dsimp only; omega
    | some x =>
      have hB : As.isB L (k + m) = (x.kind == 2) := by unfold As.isB; rw [hx]
      dsimp only
      have hb := Th.size_bd x.ins
      unfold As.size
      by_cases h0 : (x.kind == 0) = true
      · have h2 : (x.kind == 2) = false := by simp at h0 ⊢; omega
        rw [if_pos h0]
        simp [hB, h2] at hs
        rw [hs]; omega
      · rw [if_neg h0]
        by_cases h2 : (x.kind == 2) = true
        · rw [if_pos h2, show As.wd [] (k + m) = false from rfl]
          simp [hB, h2] at hs
          rw [hs]; simp; omega
        · have h2' : (x.kind == 2) = false := by simpa using h2
          rw [if_neg h2]
          simp [hB, h2'] at hs
          rw [hs]; omega
/-- wide branches strictly between two items -/
def As.btw (L : List As.It) (w : Nat → Bool) (a b : Nat) : Nat := ((List.range b).filter fun i => As.isB L i && w i && decide (a < i)).length
theorem As.wc_btw (L : List As.It) (w : Nat → Bool) (a : Nat) (ha : (As.isB L a && w a) = false) (m : Nat) : As.wc L w (a + 1 + m) = As.wc L w a + As.btw L w a (a + 1 + m) := by
  induction m with
  | zero =>
    have h1 : As.wc L w (a + 1) = As.wc L w a + (if As.isB L a && w a then 1 else 0) := filter_snoc a
    rw [ha] at h1
    have h2 : As.btw L w a (a + 1) = 0 := by
      unfold As.btw
      rw [List.length_eq_zero_iff, List.filter_eq_nil_iff]
      intro i hi
      have := List.mem_range.1 hi
      rw [decide_eq_false (by omega : ¬ a < i)]; simp
    rw [Nat.add_zero, h1, h2]; simp
  | succ m ih =>
    have h1 : As.wc L w (a + 1 + m + 1) = As.wc L w (a + 1 + m) + (if As.isB L (a + 1 + m) && w (a + 1 + m) then 1 else 0) := filter_snoc _
    have h2 : As.btw L w a (a + 1 + m + 1) = As.btw L w a (a + 1 + m) + (if As.isB L (a + 1 + m) && w (a + 1 + m) && decide (a < a + 1 + m) then 1 else 0) := filter_snoc _
    rw [decide_eq_true (by omega : a < a + 1 + m), Bool.and_true] at h2
    rw [← Nat.add_assoc, h1, h2, ih]; omega
theorem filter_le (p : Nat → Bool) (b m : Nat) : ((List.range (b + m)).filter fun i => p i && decide (i < b)).length = ((List.range b).filter p).length := by
  induction m with
  | zero =>
    congr 1
    apply List.filter_congr
    intro i hi
    rw [decide_eq_true (show i < b by simpa using hi), Bool.and_true]
  | succ m ih =>
    have := filter_snoc (p := fun i => p i && decide (i < b)) (b + m)
    rw [decide_eq_false (by omega : ¬ b + m < b), Bool.and_false] at this
    rw [← Nat.add_assoc, this, ih]; simp
theorem As.bc_succ (L : List As.It) (k : Nat) : As.bc L (k + 1) = As.bc L k + (if As.isB L k then 1 else 0) := filter_snoc k
theorem As.bc_mono (L : List As.It) {a b : Nat} (h : a ≤ b) : As.bc L a ≤ As.bc L b := by
  induction b with
  | zero => obtain rfl : a = 0 := by omega
            exact Nat.le_refl _
  | succ b ih =>
    rw [As.bc_succ]
    by_cases hb : a ≤ b
    · have := ih hb; omega
    · obtain rfl : a = b + 1 := by omega
      rw [As.bc_succ]; omega
section
variable (L : List As.It) (at' : List Int) (f : Int → Option Nat)
theorem wys_bc (k : Nat) (hk : k ≤ L.length) : (As.wys L at' f k).length = As.bc L k := by
  induction k with
  | zero => rfl
  | succ k ih =>
    rw [wys_succ L at' f k (by omega), List.length_append, ih (by omega), As.bc_succ]
    unfold As.isB
    rw [List.getElem?_eq_getElem (by omega)]
    dsimp only
    split <;> simp
theorem wys_le (k m : Nat) (hk : k + m ≤ L.length) : ∃ R, As.wys L at' f (k + m) = As.wys L at' f k ++ R := by
  induction m with
  | zero => exact ⟨[], by simp⟩
  | succ m ih =>
    obtain ⟨R, hR⟩ := ih (by omega)
    exact ⟨_, by rw [← Nat.add_assoc, wys_succ L at' f (k + m) (by omega), hR, List.append_assoc]⟩
theorem wys_at (i k : Nat) (hi : i < k) (hk : k ≤ L.length) (hb : As.isB L i = true) : ∃ x, L[i]? = some x ∧ (As.wys L at' f k)[As.bc L i]? = some (As.way at' x.ins.op i ((f x.label).getD 0)) := by
  have hiL : i < L.length := by omega
  refine ⟨L[i], List.getElem?_eq_getElem hiL, ?_⟩
  obtain ⟨R, hR⟩ := wys_le L at' f (i + 1) (k - (i + 1)) (by omega)
  rw [show i + 1 + (k - (i + 1)) = k by omega] at hR
  rw [hR, wys_succ L at' f i hiL]
  have hkind : (L[i].kind == 2) = true := by unfold As.isB at hb; rw [List.getElem?_eq_getElem hiL] at hb; exact hb
  rw [if_pos hkind, List.append_assoc, List.getElem?_append_right (by rw [wys_bc L at' f i (by omega)]; exact Nat.le_refl _), wys_bc L at' f i (by omega), Nat.sub_self]
  rfl
theorem wys_inv (k j : Nat) (hk : k ≤ L.length) (hj : j < (As.wys L at' f k).length) : ∃ i, i < k ∧ As.isB L i = true ∧ As.bc L i = j := by
  induction k with
  | zero => exact absurd hj (Nat.not_lt_zero _)
  | succ k ih =>
    by_cases h : j < (As.wys L at' f k).length
    · obtain ⟨i, h1, h2, h3⟩ := ih (by omega) h
      exact ⟨i, by omega, h2, h3⟩
    · rw [wys_bc L at' f (k + 1) hk, As.bc_succ] at hj
      rw [wys_bc L at' f k (by omega)] at h
      by_cases hb : As.isB L k = true
      · rw [if_pos hb] at hj
        exact ⟨k, by omega, hb, by omega⟩
      · rw [if_neg hb] at hj; omega
/-- what is counted by ways is counted by items -/
theorem count_items (p : Nat → Bool) (k : Nat) (hk : k ≤ L.length) : ((List.range (As.wys L at' f k).length).filter fun b => match (As.wys L at' f k)[b]? with | some y => p y.item.toNat | none => false).length = ((List.range k).filter fun i => As.isB L i && p i).length := by
  induction k with
  | zero => rfl
  | succ k ih =>
    have ih := ih (by omega)
    have hkL : k < L.length := by omega
    have hr : ((List.range (k + 1)).filter fun i => As.isB L i && p i).length = ((List.range k).filter fun i => As.isB L i && p i).length + (if As.isB L k && p k then 1 else 0) := filter_snoc k
    rw [hr, ← ih, wys_succ L at' f k hkL]
    have hB : As.isB L k = (L[k].kind == 2) := by unfold As.isB; rw [List.getElem?_eq_getElem hkL]
    by_cases hb : (L[k].kind == 2) = true
    · rw [if_pos hb, List.length_append, List.length_singleton]
      rw [filter_snoc (p := fun b => match (As.wys L at' f k ++ [As.way at' L[k].ins.op k ((f L[k].label).getD 0)])[b]? with | some y => p y.item.toNat | none => false)]
      congr 1
      · congr 1
        apply List.filter_congr
        intro b hb'
        rw [List.getElem?_append_left (List.mem_range.1 hb')]
      · rw [List.getElem?_append_right (Nat.le_refl _), Nat.sub_self, hB, hb, Bool.true_and]
        rfl
    · rw [if_neg hb, List.append_nil]
      rw [hB]
      have : (L[k].kind == 2) = false := by simpa using hb
      rw [this]; simp
end
/-- items whose branches have labels -/
structure As.Good (L : List As.It) (f : Int → Option Nat) : Prop where
  to : ∀ i (hi : i < L.length), L[i].kind = 2 → ∃ t, ∃ ht : t < L.length, f L[i].label = some t ∧ L[t].kind = 1
  op : ∀ i (hi : i < L.length), L[i].kind = 2 → L[i].ins.op = 24 ∨ L[i].ins.op = 25
/-- how far a branch goes, with such ones wide -/
def As.dist (L : List As.It) (w : List Bool) (base : Int) (i t : Nat) : Int := As.at L w base t - As.at L w base i - 4
def As.inReach (op d : Int) : Prop := Th.reachLo op false ≤ d ∧ d ≤ Th.reachHi op false
/-- a way of making branches wide in which all narrow ones reach -/
def As.ClosedI (L : List As.It) (f : Int → Option Nat) (base : Int) (w : List Bool) : Prop :=
  ∀ i (hi : i < L.length), L[i].kind = 2 → As.wd w i = false → ∀ t, f L[i].label = some t → As.inReach L[i].ins.op (As.dist L w base i t)
abbrev As.ways (L : List As.It) (f : Int → Option Nat) : List As.Way := As.wys L (As.lay L [] 0) f L.length
def As.toY (L : List As.It) (f : Int → Option Nat) (w : Nat → Bool) (b : Nat) : Bool := match (As.ways L f)[b]? with | some y => w y.item.toNat | none => false
theorem As.isB_iff {L : List As.It} {i : Nat} : As.isB L i = true ↔ ∃ hi : i < L.length, L[i].kind = 2 := by
  unfold As.isB
  by_cases hi : i < L.length
  · rw [List.getElem?_eq_getElem hi]; simp [hi]
  · rw [List.getElem?_eq_none (by omega)]; simp; intro h; omega
theorem reach_op {op : Int} (h : op = 24 ∨ op = 25) : Th.reachLo op false ≤ -256 ∧ 254 ≤ Th.reachHi op false ∧ -2048 ≤ Th.reachLo op false ∧ Th.reachHi op false ≤ 2046 ∧ Th.reachLo op false % 2 = 0 ∧ Th.reachHi op false % 2 = 0 := by
  rcases h with rfl | rfl <;> decide
theorem off_bool (b t i : Nat) : (decide ((b : Int) ≤ (t : Int)) || decide ((i : Int) ≤ (b : Int))) = !(decide (t < b) && decide (b < i)) := by
  rw [Bool.eq_iff_iff]
  simp only [Bool.or_eq_true, decide_eq_true_eq, Bool.not_eq_true', Bool.and_eq_false_iff, decide_eq_false_iff_not]
  omega
section
variable {L : List As.It} {f : Int → Option Nat} (g : As.Good L f)
include g
/-- a branch's way -/
theorem As.way_of {i : Nat} (hb : As.isB L i = true) : ∃ (hi : i < L.length) (t : Nat) (ht : t < L.length), f L[i].label = some t ∧ L[t].kind = 1 ∧ (As.ways L f)[As.bc L i]? = some (As.way (As.lay L [] 0) L[i].ins.op i t) ∧ t ≠ i ∧ As.isB L t = false := by
  obtain ⟨hi, hk⟩ := As.isB_iff.1 hb
  obtain ⟨t, ht, hf, ht1⟩ := g.to i hi hk
  obtain ⟨x, hx, hw⟩ := wys_at L (As.lay L [] 0) f i L.length hi (Nat.le_refl _) hb
  rw [List.getElem?_eq_getElem hi] at hx
  obtain rfl := Option.some.inj hx
  rw [hf] at hw
  refine ⟨hi, t, ht, hf, ht1, hw, ?_, ?_⟩
  · rintro rfl; omega
  · cases hbt : As.isB L t
    · rfl
    · obtain ⟨_, h2⟩ := As.isB_iff.1 hbt; omega
omit g in
theorem As.way_imm {i t : Nat} (hi : i < L.length) (ht : t < L.length) : As.imm (As.lay L [] 0) i t = As.dist L [] 0 i t := by
  unfold As.imm As.dist
  rw [lat_get L [] 0 t (by omega), lat_get L [] 0 i (by omega)]
/-- the count by ways of what is wide on a branch's way -/
theorem As.cnt_way (w : Nat → Bool) {i : Nat} (hb : As.isB L i = true) {t : Nat} (hi : i < L.length) (ht : t < L.length) (hw : (As.ways L f)[As.bc L i]? = some (As.way (As.lay L [] 0) L[i].ins.op i t)) (hne : t ≠ i) :
    As.cntY (As.ways L f) (As.toY L f w) (As.bc L i) = if t < i then As.btw L w t i else As.btw L w i t := by
  have hc := count_items L (As.lay L [] 0) f (fun b => w b && !(As.off (b : Int) (As.way (As.lay L [] 0) L[i].ins.op i t))) L.length (Nat.le_refl _)
  have h1 : As.cntY (As.ways L f) (As.toY L f w) (As.bc L i) = ((List.range (As.ways L f).length).filter fun b => match (As.ways L f)[b]? with | some y => w y.item.toNat && !(As.off ((y.item.toNat : Nat) : Int) (As.way (As.lay L [] 0) L[i].ins.op i t)) | none => false).length := by
    unfold As.cntY As.cnt
    rw [List.filter_filter]
    congr 1
    apply List.filter_congr
    intro b hb'
    have hbl : b < (As.ways L f).length := List.mem_range.1 hb'
    unfold As.on As.toY
    rw [hw, List.getElem?_eq_getElem hbl]
    dsimp only
    obtain ⟨ib, hib, hbb, hbc⟩ := wys_inv L (As.lay L [] 0) f L.length b (Nat.le_refl _) hbl
    obtain ⟨x, _, hx⟩ := wys_at L (As.lay L [] 0) f ib L.length hib (Nat.le_refl _) hbb
    rw [hbc, List.getElem?_eq_getElem hbl] at hx
    have he := Option.some.inj hx
    have hitem : (As.ways L f)[b].item = (ib : Int) := by rw [show (As.ways L f)[b] = _ from he]; rfl
    rw [hitem]
    rw [Int.toNat_natCast, Bool.and_comm]
  rw [h1, hc]
  have hoff : ∀ b : Nat, As.off (b : Int) (As.way (As.lay L [] 0) L[i].ins.op i t) = !(if t < i then decide (t < b) && decide (b < i) else decide (i < b) && decide (b < t)) := by
    intro b
    unfold As.off As.way
    dsimp only
    by_cases hlt : t < i
    · rw [if_pos hlt, if_neg (by omega)]
      rw [show (if t < i then decide (t < b) && decide (b < i) else decide (i < b) && decide (b < t)) = (decide (t < b) && decide (b < i)) from if_pos hlt]
      exact off_bool b t i
    · rw [if_neg hlt, if_pos (by omega)]
      rw [show (if t < i then decide (t < b) && decide (b < i) else decide (i < b) && decide (b < t)) = (decide (i < b) && decide (b < t)) from if_neg hlt]
      exact off_bool b i t
  by_cases hlt : t < i
  · rw [if_pos hlt]
    unfold As.btw
    obtain ⟨m, hm⟩ : ∃ m, L.length = i + m := ⟨L.length - i, by omega⟩
    rw [hm, ← filter_le (fun b => As.isB L b && w b && decide (t < b)) i m]
    congr 1
    apply List.filter_congr
    intro b _
    rw [hoff b, if_pos hlt, Bool.not_not]
    cases As.isB L b <;> cases w b <;> simp
  · rw [if_neg hlt]
    unfold As.btw
    obtain ⟨m, hm⟩ : ∃ m, L.length = t + m := ⟨L.length - t, by omega⟩
    rw [hm, ← filter_le (fun b => As.isB L b && w b && decide (i < b)) t m]
    congr 1
    apply List.filter_congr
    intro b _
    rw [hoff b, if_neg hlt, Bool.not_not]
    cases As.isB L b <;> cases w b <;> simp
/-- a narrow branch reaches just if no more are wide on its way than it has to spare -/
theorem As.reach_iff (base : Int) (w : List Bool) {i : Nat} (hb : As.isB L i = true) (hw0 : As.wd w i = false) {t : Nat} (hi : i < L.length) (ht : t < L.length) (hne : t ≠ i) (hbt : As.isB L t = false) :
    As.inReach L[i].ins.op (As.dist L w base i t) ↔ ((if t < i then As.btw L (As.wd w) t i else As.btw L (As.wd w) i t : Nat) : Int) ≤ (As.way (As.lay L [] 0) L[i].ins.op i t).spare := by
  obtain ⟨hi', hk⟩ := As.isB_iff.1 hb
  have hr := reach_op (g.op i hi hk)
  have e1 := As.at_even L i
  have e2 := As.at_even L t
  have himm : As.imm (As.lay L [] 0) i t = As.at L [] 0 t - As.at L [] 0 i - 4 := As.way_imm hi ht
  have hd : As.dist L w base i t = As.at L [] 0 t - As.at L [] 0 i - 4 + 2 * ((As.wc L (As.wd w) t : Int) - As.wc L (As.wd w) i) := by
    unfold As.dist
    rw [As.at_wide L w base t, As.at_wide L w base i]; omega
  unfold As.inReach As.way
  dsimp only
  rw [himm, hd]
  by_cases hlt : t < i
  · rw [if_pos hlt, if_pos hlt]
    obtain ⟨m, hm⟩ : ∃ m, i = t + 1 + m := ⟨i - (t + 1), by omega⟩
    have hc := As.wc_btw L (As.wd w) t (by rw [hbt]; rfl) m
    rw [← hm] at hc
    have hge := As.at_ge L t (i - t)
    rw [show t + (i - t) = i by omega] at hge
    have hmono := As.bc_mono L (show t ≤ i by omega)
    generalize As.btw L (As.wd w) t i = B at *
    generalize As.wc L (As.wd w) i = W1 at *
    generalize As.wc L (As.wd w) t = W2 at *
    generalize As.at L [] 0 i = A1 at *
    generalize As.at L [] 0 t = A2 at *
    generalize Th.reachLo L[i].ins.op false = lo at *
    generalize Th.reachHi L[i].ins.op false = hi2 at *
    have hdiv : (A2 - A1 - 4 - lo).tdiv 2 * 2 = A2 - A1 - 4 - lo := by
      apply Int.tdiv_mul_cancel
      omega
    omega
  · rw [if_neg hlt, if_neg hlt]
    obtain ⟨m, hm⟩ : ∃ m, t = i + 1 + m := ⟨t - (i + 1), by omega⟩
    have hc := As.wc_btw L (As.wd w) i (by rw [hw0, Bool.and_false]) m
    rw [← hm] at hc
    have hge := As.at_ge L i (t - i)
    rw [show i + (t - i) = t by omega] at hge
    have hmono := As.bc_mono L (show i + 1 ≤ t by omega)
    have hs := As.bc_succ L i
    rw [hb, if_pos rfl] at hs
    generalize As.btw L (As.wd w) i t = B at *
    generalize As.wc L (As.wd w) i = W1 at *
    generalize As.wc L (As.wd w) t = W2 at *
    generalize As.at L [] 0 i = A1 at *
    generalize As.at L [] 0 t = A2 at *
    generalize Th.reachLo L[i].ins.op false = lo at *
    generalize Th.reachHi L[i].ins.op false = hi2 at *
    have hdiv : (hi2 - (A2 - A1 - 4)).tdiv 2 * 2 = hi2 - (A2 - A1 - 4) := by
      apply Int.tdiv_mul_cancel
      omega
    omega
end
theorem As.cntY_mono {S : List As.Way} {Y Z : Nat → Bool} (h : ∀ b, b < S.length → Y b = true → Z b = true) (j : Nat) : As.cntY S Y j ≤ As.cntY S Z j := by
  unfold As.cntY As.cnt
  apply As.len_sub ((List.nodup_range.filter _).filter _)
  intro b hb
  rw [List.mem_filter, List.mem_filter] at hb ⊢
  exact ⟨⟨hb.1.1, h b (List.mem_range.1 hb.1.1) hb.1.2⟩, hb.2⟩
theorem As.lfp_closed (S : List As.Way) : As.Closed S (As.lfp S) := by
  intro j hj hs
  rw [As.lfp_iff]
  intro Y hY
  apply hY j hj
  have := As.cntY_mono (S := S) (Y := As.lfp S) (Z := Y) (fun b _ hb => As.lfp_iff.1 hb Y hY) j
  omega
theorem As.Closed.congr {S : List As.Way} {Y Z : Nat → Bool} (h : As.Closed S Y) (e : ∀ b, b < S.length → Y b = Z b) : As.Closed S Z := by
  intro j hj hs
  rw [← e j hj]
  apply h j hj
  have := As.cntY_mono (S := S) (Y := Z) (Z := Y) (fun b hb hz => by rw [e b hb]; exact hz) j
  omega
/-- which branches are wide -/
noncomputable def As.wideB (L : List As.It) (f : Int → Option Nat) (i : Nat) : Bool := As.isB L i && As.lfp (As.ways L f) (As.bc L i)
noncomputable def As.wideL (L : List As.It) (f : Int → Option Nat) : List Bool := (List.range L.length).map (As.wideB L f)
theorem As.wideL_len (L : List As.It) (f : Int → Option Nat) : (As.wideL L f).length = L.length := by unfold As.wideL; simp
theorem As.wideL_wd (L : List As.It) (f : Int → Option Nat) (i : Nat) : As.wd (As.wideL L f) i = As.wideB L f i := by
  unfold As.wd As.wideL
  by_cases hi : i < L.length
  · rw [List.getD_eq_getElem?_getD, List.getElem?_map, List.getElem?_range hi]; rfl
  · rw [List.getD_eq_getElem?_getD, List.getElem?_map, List.getElem?_eq_none (by simp; omega)]
    have hB : As.isB L i = false := by unfold As.isB; rw [List.getElem?_eq_none (by omega)]
    unfold As.wideB
    rw [hB]; rfl
section
variable {L : List As.It} {f : Int → Option Nat} (g : As.Good L f)
include g
theorem As.item_of {b : Nat} (hb : b < (As.ways L f).length) : ∃ i, As.isB L i = true ∧ As.bc L i = b ∧ (As.ways L f)[b].item = (i : Int) := by
  obtain ⟨i, hi, hbi, hbc⟩ := wys_inv L (As.lay L [] 0) f L.length b (Nat.le_refl _) hb
  obtain ⟨hiL, t, ht, hf, ht1, hw, hne, hbt⟩ := As.way_of g hbi
  rw [hbc, List.getElem?_eq_getElem hb] at hw
  exact ⟨i, hbi, hbc, by rw [Option.some.inj hw]; rfl⟩
theorem As.toY_at (w : Nat → Bool) {i : Nat} (hb : As.isB L i = true) : As.toY L f w (As.bc L i) = w i := by
  obtain ⟨hiL, t, ht, hf, ht1, hw, hne, hbt⟩ := As.way_of g hb
  unfold As.toY
  rw [hw]
  rfl
theorem As.closed_iff (base : Int) (w : List Bool) : As.ClosedI L f base w ↔ As.Closed (As.ways L f) (As.toY L f (As.wd w)) := by
  constructor
  · intro h j hj hs
    obtain ⟨i, hbi, hbc, _⟩ := As.item_of g hj
    obtain ⟨hiL, t, ht, hf, ht1, hw, hne, hbt⟩ := As.way_of g hbi
    subst hbc
    rw [As.toY_at g _ hbi]
    cases hw0 : As.wd w i
    · exfalso
      have hr := (As.reach_iff g base w hbi hw0 hiL ht hne hbt).1 (h i hiL (As.isB_iff.1 hbi).2 hw0 t hf)
      rw [As.cnt_way g (As.wd w) hbi hiL ht hw hne] at hs
      have he : (As.ways L f)[As.bc L i] = As.way (As.lay L [] 0) L[i].ins.op i t := by
        rw [List.getElem?_eq_getElem hj] at hw; exact Option.some.inj hw
      rw [he] at hs
      omega
    · rfl
  · intro h i hi hk hw0 t' hf'
    have hbi : As.isB L i = true := As.isB_iff.2 ⟨hi, hk⟩
    obtain ⟨hiL, t, ht, hf, ht1, hw, hne, hbt⟩ := As.way_of g hbi
    obtain rfl : t' = t := by rw [hf] at hf'; exact (Option.some.inj hf').symm
    rw [As.reach_iff g base w hbi hw0 hiL ht hne hbt]
    have hj : As.bc L i < (As.ways L f).length := by
      apply Nat.lt_of_not_le
      intro hge
      rw [List.getElem?_eq_none hge] at hw
      cases hw
    have he : (As.ways L f)[As.bc L i] = As.way (As.lay L [] 0) L[i].ins.op i t' := by
      rw [List.getElem?_eq_getElem hj] at hw; exact Option.some.inj hw
    apply Int.not_lt.1
    intro hlt
    have := h (As.bc L i) hj (by rw [he, As.cnt_way g (As.wd w) hbi hiL ht hw hne]; exact hlt)
    rw [As.toY_at g _ hbi, hw0] at this
    cases this
theorem As.wide_toY : ∀ b, b < (As.ways L f).length → As.lfp (As.ways L f) b = As.toY L f (As.wd (As.wideL L f)) b := by
  intro b hb
  obtain ⟨i, hbi, hbc, _⟩ := As.item_of g hb
  subst hbc
  rw [As.toY_at g _ hbi, As.wideL_wd]
  unfold As.wideB
  rw [hbi, Bool.true_and]
/-- all narrow ones reach -/
theorem As.wide_closed (base : Int) : As.ClosedI L f base (As.wideL L f) :=
  (As.closed_iff g base _).2 ((As.lfp_closed _).congr (As.wide_toY g))
/-- and no more are wide than in any such way -/
theorem As.wide_least (base : Int) (w : List Bool) (h : As.ClosedI L f base w) (i : Nat) (hi : As.wd (As.wideL L f) i = true) : As.wd w i = true := by
  rw [As.wideL_wd] at hi
  unfold As.wideB at hi
  rw [Bool.and_eq_true] at hi
  have := As.lfp_iff.1 hi.2 _ ((As.closed_iff g base w).1 h)
  rw [As.toY_at g _ hi.1] at this
  exact this
theorem As.win : As.Win (As.ways L f) := by
  intro j k hj hpos hon
  have hk : k < (As.ways L f).length := by
    apply Nat.lt_of_not_le
    intro hge
    unfold As.on at hon
    rw [List.getElem?_eq_none hge, List.getElem?_eq_getElem hj] at hon
    cases hon
  obtain ⟨i, hbi, hbc, _⟩ := As.item_of g hj
  obtain ⟨b, hbb, hbk, hitem⟩ := As.item_of g hk
  obtain ⟨hiL, t, ht, hf, ht1, hw, hne, hbt⟩ := As.way_of g hbi
  have hr := reach_op (g.op i hiL (As.isB_iff.1 hbi).2)
  have himm : As.imm (As.lay L [] 0) i t = As.at L [] 0 t - As.at L [] 0 i - 4 := As.way_imm hiL ht
  rw [hbc, List.getElem?_eq_getElem hj] at hw
  have he := Option.some.inj hw
  unfold As.on at hon
  rw [List.getElem?_eq_getElem hj, List.getElem?_eq_getElem hk] at hon
  dsimp only at hon
  rw [hitem, he] at hon
  rw [he] at hpos
  unfold As.off As.way at hon
  unfold As.way at hpos
  dsimp only at hon hpos
  rw [himm] at hpos
  have hsb := As.bc_succ L b
  rw [hbb, if_pos rfl] at hsb
  have hsi := As.bc_succ L i
  rw [hbi, if_pos rfl] at hsi
  by_cases hlt : t < i
  · rw [if_pos hlt, if_neg (by omega), off_bool, Bool.not_not, Bool.and_eq_true] at hon
    have c1 := of_decide_eq_true hon.1
    have c2 := of_decide_eq_true hon.2
    rw [if_pos hlt] at hpos
    have hge := As.at_ge L t (i - t)
    rw [show t + (i - t) = i by omega] at hge
    have m1 := As.bc_mono L (show t ≤ b by omega)
    have m2 := As.bc_mono L (show b + 1 ≤ i by omega)
    generalize As.at L [] 0 i = A1 at *
    generalize As.at L [] 0 t = A2 at *
    generalize Th.reachLo L[i].ins.op false = lo at *
    have hd : -2 ≤ A2 - A1 - 4 - lo := by
      apply Int.not_lt.1
      intro hlt
      have : (A2 - A1 - 4 - lo).tdiv 2 < 0 := by
        have h1 := Int.mul_tdiv_add_tmod (A2 - A1 - 4 - lo) 2
        have h2 := Int.tmod_lt_of_pos (A2 - A1 - 4 - lo) (show (0 : Int) < 2 by decide)
        have h3 := Int.lt_tmod_of_pos (A2 - A1 - 4 - lo) (show (0 : Int) < 2 by decide)
        omega
      omega
    omega
  · rw [if_neg hlt, if_pos (by omega), off_bool, Bool.not_not, Bool.and_eq_true] at hon
    have c1 := of_decide_eq_true hon.1
    have c2 := of_decide_eq_true hon.2
    rw [if_neg hlt] at hpos
    have hge := As.at_ge L i (t - i)
    rw [show i + (t - i) = t by omega] at hge
    have m1 := As.bc_mono L (show i ≤ b by omega)
    have m2 := As.bc_mono L (show b + 1 ≤ t by omega)
    generalize As.at L [] 0 i = A1 at *
    generalize As.at L [] 0 t = A2 at *
    generalize Th.reachHi L[i].ins.op false = hi at *
    have hd : -2 ≤ hi - (A2 - A1 - 4) := by
      apply Int.not_lt.1
      intro hlt
      have : (hi - (A2 - A1 - 4)).tdiv 2 < 0 := by
        have h1 := Int.mul_tdiv_add_tmod (hi - (A2 - A1 - 4)) 2
        have h2 := Int.tmod_lt_of_pos (hi - (A2 - A1 - 4)) (show (0 : Int) < 2 by decide)
        have h3 := Int.lt_tmod_of_pos (hi - (A2 - A1 - 4)) (show (0 : Int) < 2 by decide)
        omega
      omega
    omega
/-- the program's rounds make just these wide -/
theorem As.Inv.wide {ws : List As.Way} {D : List Nat} (h : As.Inv (As.ways L f) ws D []) : As.wideOf (As.ways L f) D L.length = As.wideL L f := by
  unfold As.wideOf As.wideL
  apply List.map_congr_left
  intro i hi
  have hd := h.done.2
  cases hb : As.isB L i with
  | true =>
    obtain ⟨hiL, t, ht, hf, ht1, hw, hne, hbt⟩ := As.way_of g hb
    have hj : As.bc L i < (As.ways L f).length := by
      apply Nat.lt_of_not_le
      intro hge
      rw [List.getElem?_eq_none hge] at hw
      cases hw
    have e := hd (As.bc L i)
    rw [decide_eq_true hj, Bool.true_and] at e
    unfold As.wideB
    rw [hb, Bool.true_and, ← e]
    rw [Bool.eq_iff_iff, List.any_eq_true, decide_eq_true_iff]
    constructor
    · rintro ⟨j, hjD, hjx⟩
      have hjl : j < (As.ways L f).length := h.lt j (by simpa using hjD)
      obtain ⟨i', hb', hbc', hit⟩ := As.item_of g hjl
      rw [List.getElem?_eq_getElem hjl] at hjx
      dsimp only at hjx
      rw [hit] at hjx
      have : i' = i := by rw [beq_iff_eq] at hjx; omega
      subst this
      rw [hbc']; exact hjD
    · intro hin
      refine ⟨_, hin, ?_⟩
      rw [hw]
      simp [As.way]
  | false =>
    unfold As.wideB
    rw [hb, Bool.false_and]
    rw [List.any_eq_false]
    intro j hjD hjx
    have hjl : j < (As.ways L f).length := h.lt j (by simpa using hjD)
    obtain ⟨i', hb', hbc', hit⟩ := As.item_of g hjl
    rw [List.getElem?_eq_getElem hjl] at hjx
    dsimp only at hjx
    rw [hit] at hjx
    have : i' = i := by rw [beq_iff_eq] at hjx; omega
    subst this
    rw [hb] at hb'
    cases hb'
/-- what does not reach with fewer wide ones is wide -/
theorem As.sub_out (base : Int) (w : List Bool) (hs : ∀ i, As.wd w i = true → As.wd (As.wideL L f) i = true) {i : Nat} (hi : i < L.length) (hk : L[i].kind = 2) {t : Nat} (hf : f L[i].label = some t) (hn : ¬ As.inReach L[i].ins.op (As.dist L w base i t)) : As.wd (As.wideL L f) i = true := by
  cases hw : As.wd (As.wideL L f) i
  · exfalso
    have hb : As.isB L i = true := As.isB_iff.2 ⟨hi, hk⟩
    obtain ⟨hiL, t', ht, hf', ht1, hw', hne, hbt⟩ := As.way_of g hb
    obtain rfl : t' = t := by rw [hf'] at hf; exact Option.some.inj hf
    have hw0 : As.wd w i = false := by
      cases h0 : As.wd w i
      · rfl
      · rw [hs i h0] at hw; cases hw
    apply hn
    rw [As.reach_iff g base w hb hw0 hiL ht hne hbt]
    have hr := (As.reach_iff g base (As.wideL L f) hb hw hiL ht hne hbt).1 (As.wide_closed g base i hi hk hw t' hf)
    have hm : ∀ a b, As.btw L (As.wd w) a b ≤ As.btw L (As.wd (As.wideL L f)) a b := by
      intro a b
      unfold As.btw
      apply As.len_sub (List.nodup_range.filter _)
      intro x hx
      rw [List.mem_filter] at hx ⊢
      refine ⟨hx.1, ?_⟩
      have h2 := hx.2
      rw [Bool.and_eq_true, Bool.and_eq_true] at h2 ⊢
      exact ⟨⟨h2.1.1, hs x h2.1.2⟩, h2.2⟩
    split
    · rename_i hc
      rw [if_pos hc] at hr
      have := hm t' i
      omega
    · rename_i hc
      rw [if_neg hc] at hr
      have := hm i t'
      omega
  · rfl
/-- what is closed and no greater is just this -/
theorem As.wide_eq (base : Int) (w : List Bool) (hl : w.length = L.length) (hs : ∀ i, As.wd w i = true → As.wd (As.wideL L f) i = true) (hc : As.ClosedI L f base w) : w = As.wideL L f := by
  apply List.ext_getElem
  · rw [hl, As.wideL_len]
  · intro i h1 h2
    have e1 : As.wd w i = w[i] := by unfold As.wd; rw [List.getD_eq_getElem?_getD, List.getElem?_eq_getElem h1]; rfl
    have e2 : As.wd (As.wideL L f) i = (As.wideL L f)[i] := by unfold As.wd; rw [List.getD_eq_getElem?_getD, List.getElem?_eq_getElem h2]; rfl
    rw [← e1, ← e2]
    rw [Bool.eq_iff_iff]
    exact ⟨hs i, As.wide_least g base w hc i⟩
end
end Go.Proofs.Ytplfpaffjaldoaa
