/-
The document's reader as a part: its own cells and the tokens; its small functions.
The document's reader: nests, and a token of a kind.
-/
import Derived.Test.YtjfdcnggnldgdaaGreatDoorP24a
import Derived.Test.YtjfdcnggnldgdaaGreatDoorP21a
section
namespace Go.Proofs.YtjfdcnggnldgdaaGreatDoor
open Go.ChangeShapes Go.WideShapes Go.ChangeAt Go.RowKit
set_option linter.unusedVariables false
set_option linter.unusedSimpArgs false

/-- the reader's cells -/
def rrC (a : Addr) (cap : Nat) (L : List Lx.Tok) (t : Nat) (m e p : Int) : Array Value := #[.slice (some a) L.length cap, .int .i64 (t : Int), .int .i64 m, .int .i64 e, .int .i64 p]
structure RrAt (cap : Nat) (L : List Lx.Tok) (σ : Sx.R) (t : Nat) (m e p : Int) : Prop where
  hcap : L.length ≤ cap
  hbig : L.length < 281474976710656
  hat : σ.at' < L.length
  ht : t = σ.at'
  he : e = σ.err
  hp : p = σ.pos
  hm : σ.err = 0 → m = σ.opn ∧ 0 ≤ m ∧ m ≤ 64
def rrHp (b : Nat) (L : List Lx.Tok) (σ : Sx.R) : Hp where
  on w P := ∃ a cap t m e p, RrAt cap L σ t m e p ∧ Sep w [.row b 75 (rrC a cap L t m e p), .hp (toksHp a L)] P
  loc w w' P h e := by obtain ⟨a, cap, t, m, x, p, h1, h2⟩ := h; exact ⟨a, cap, t, m, x, p, h1, h2.loc e⟩
  wide w P P' h e := by obtain ⟨a, cap, t, m, x, p, h1, h2⟩ := h; exact ⟨a, cap, t, m, x, p, h1, h2.wide e⟩
abbrev rr (b : Nat) (L : List Lx.Tok) (σ : Sx.R) : It := .hp (rrHp b L σ)
theorem rr_open {w : World} {b : Nat} {L : List Lx.Tok} {σ : Sx.R} {I : List It} {P : Nat → Prop} (h : Sep w (rr b L σ :: I) P) : ∃ a cap t m e p, RrAt cap L σ t m e p ∧ Sep w (.row b 75 (rrC a cap L t m e p) :: .hp (toksHp a L) :: I) P := by
  obtain ⟨A, B, h1, h2, h3, ⟨a, cap, t, m, e, p, hr, hs⟩, h5⟩ := h
  exact ⟨a, cap, t, m, e, p, hr, Sep.cat hs h5 h1 h2 h3⟩
theorem rr_close {w : World} {b : Nat} {L : List Lx.Tok} {σ : Sx.R} {I : List It} {a : Addr} {cap t : Nat} {m e p : Int} {P : Nat → Prop} (hr : RrAt cap L σ t m e p) (h : Sep w (.row b 75 (rrC a cap L t m e p) :: .hp (toksHp a L) :: I) P) : Sep w (rr b L σ :: I) P := by
  obtain ⟨A, B, h1, h2, h3, h4, h5⟩ := Sep.parts (I := [.row b 75 (rrC a cap L t m e p), .hp (toksHp a L)]) (J := I) h
  exact ⟨A, B, h1, h2, h3, ⟨a, cap, t, m, e, p, hr, h4⟩, h5⟩
theorem St.rrOpen {X : Nat → Prop} {w0 w : World} {b : Nat} {L : List Lx.Tok} {σ : Sx.R} {I : List It} (h : St X w0 w (rr b L σ :: I)) : ∃ a cap t m e p, RrAt cap L σ t m e p ∧ St X w0 w (.row b 75 (rrC a cap L t m e p) :: .hp (toksHp a L) :: I) := by
  obtain ⟨a, cap, t, m, e, p, hr, hs⟩ := rr_open h.sep
  exact ⟨a, cap, t, m, e, p, hr, h.gd, h.rest, hs⟩
theorem St.rrClose {X : Nat → Prop} {w0 w : World} {b : Nat} {L : List Lx.Tok} {σ : Sx.R} {I : List It} {a : Addr} {cap t : Nat} {m e p : Int} (hr : RrAt cap L σ t m e p) (h : St X w0 w (.row b 75 (rrC a cap L t m e p) :: .hp (toksHp a L) :: I)) : St X w0 w (rr b L σ :: I) := ⟨h.gd, h.rest, rr_close hr h.sep⟩
theorem St.rat {X : Nat → Prop} {w0 w : World} {b : Nat} {L : List Lx.Tok} {σ : Sx.R} {I : List It} (h : St X w0 w (rr b L σ :: I)) : σ.at' < L.length := by
  obtain ⟨a, cap, t, m, e, p, hr, _⟩ := h.rrOpen
  exact hr.hat
theorem St.ropn0 {X : Nat → Prop} {w0 w : World} {b : Nat} {L : List Lx.Tok} {σ : Sx.R} {I : List It} (h : St X w0 w (rr b L σ :: I)) : σ.err = 0 → 0 ≤ σ.opn := by
  obtain ⟨a, cap, t, m, e, p, hr, _⟩ := h.rrOpen
  intro he
  have := hr.hm he
  omega
/-- the token at a place, where it lies -/
theorem toks_tk {w : World} {a : Addr} {L : List Lx.Tok} {P : Nat → Prop} (h : (toksHp a L).on w P) {σ : Sx.R} (hi : σ.at' < L.length) : OnC w (a.add (σ.at' * 4)) (tkC (Sx.tk L σ)) := by
  have he : Sx.tk L σ = L[σ.at'] := by unfold Sx.tk; rw [List.getD_eq_getElem?_getD, List.getElem?_eq_getElem hi]; rfl
  rw [he]; exact h.2 _ hi
theorem rbT : StructT 31 2 := ⟨⟨_, Tryz.underlying31⟩, by kernel_rfl⟩
theorem rr_bound {cap : Nat} {L : List Lx.Tok} {σ : Sx.R} {t : Nat} {m e p : Int} (h : RrAt cap L σ t m e p) : (0 : Int) ≤ (t : Int) ∧ (t : Int) < (L.length : Int) ∧ wrap64 ((t : Int) + 1) = ((t + 1 : Nat) : Int) := by
  have h1 := h.hat
  have h2 := h.ht
  have h3 := h.hbig
  refine ⟨by omega, by omega, ?_⟩
  simp only [wrap64]; omega
theorem tk_cells {w : World} {p : Addr} {x : Lx.Tok} (h : OnC w p (tkC x)) : w.cell? p = some (.int .i64 x.kind) ∧ w.cell? ⟨p.block, p.off + 1, none⟩ = some (.int .i64 (x.pos : Int)) ∧ w.cell? ⟨p.block, p.off + 2, none⟩ = some (.int .i64 x.num) ∧ w.cell? ⟨p.block, p.off + 3, none⟩ = some (.string (Lx.S x.text)) := by
  have h0 := h 0 _ rfl
  rw [Addr.add_zero'] at h0
  exact ⟨h0, h 1 _ rfl, h 2 _ rfl, h 3 _ rfl⟩
theorem rr_step {cap : Nat} {L : List Lx.Tok} {σ : Sx.R} {t : Nat} {m e p : Int} (h : RrAt cap L σ t m e p) (hl : σ.at' + 1 < L.length) : RrAt cap L { σ with at' := σ.at' + 1 } (t + 1) m e p :=
  ⟨h.hcap, h.hbig, hl, by rw [h.ht], h.he, h.hp, h.hm⟩
theorem rr_wrong {cap : Nat} {L : List Lx.Tok} {σ : Sx.R} {t : Nat} {m e p : Int} (h : RrAt cap L σ t m e p) (hs : σ.err = 0) (er : Int) (he : er ≠ 0) : RrAt cap L (Sx.wrong L er σ) t m er ((Sx.tk L σ).pos : Int) := by
  rw [Sx.wrong_ok hs]
  exact ⟨h.hcap, h.hbig, h.hat, h.ht, rfl, rfl, fun h0 => absurd h0 he⟩
theorem rr_more {cap : Nat} {L : List Lx.Tok} {σ : Sx.R} {t : Nat} {m e p : Int} (h : RrAt cap L σ t m e p) (hl : σ.err = 0 → σ.opn ≤ 63) : RrAt cap L { σ with opn := σ.opn + 1 } t (wrap64 (m + 1)) e p :=
  ⟨h.hcap, h.hbig, h.hat, h.ht, h.he, h.hp, fun h0 => by
    obtain ⟨h1, h2, h3⟩ := h.hm h0
    have h4 := hl h0
    have h5 : wrap64 (m + 1) = m + 1 := by simp only [wrap64]; omega
    rw [h5]
    refine ⟨?_, ?_, ?_⟩
    · show m + 1 = σ.opn + 1; omega
    · omega
    · omega⟩
theorem rr_less {cap : Nat} {L : List Lx.Tok} {σ : Sx.R} {t : Nat} {m e p : Int} (h : RrAt cap L σ t m e p) (hl : σ.err = 0 → 1 ≤ σ.opn) : RrAt cap L { σ with opn := σ.opn - 1 } t (wrap64 (m - 1)) e p :=
  ⟨h.hcap, h.hbig, h.hat, h.ht, h.he, h.hp, fun h0 => by
    obtain ⟨h1, h2, h3⟩ := h.hm h0
    have h4 := hl h0
    have h5 : wrap64 (m - 1) = m - 1 := by simp only [wrap64]; omega
    rw [h5]
    refine ⟨?_, ?_, ?_⟩
    · show m - 1 = σ.opn - 1; omega
    · omega
    · omega⟩
theorem toks_t {w : World} {a : Addr} {L : List Lx.Tok} {P : Nat → Prop} {σ : Sx.R} {cap t : Nat} {m e p : Int} (h : (toksHp a L).on w P) (hr : RrAt cap L σ t m e p) : OnC w (a.add (t * 4)) (tkC (Sx.tk L σ)) := by
  rw [hr.ht]; exact toks_tk h hr.hat
theorem yieldsIf_tok {ops : Array Oper} {S : World → Prop} {o : Oper} {a : Act} {p : Addr} {x : Lx.Tok} (hw : Region.wanted o (yielded ops a.tmps) = true) (ho : ldOf a o = some (77, .pointer (some p))) (hS : ∀ w, S w → OnC w p (tkC x)) : YieldsIf Tryz.prog ops S o (.agg (tkA x.kind x.pos x.num (Lx.S x.text))) a := by
  obtain ⟨hg, y, ho, hx⟩ := ldOf_eq ho
  obtain ⟨fs, hu⟩ := tokT.und
  refine Or.inl ⟨hw, fun w h => ?_⟩
  have hl := run_loadCells_list (P := Tryz.prog) w p (tkC x) (hS w h)
  have hr : (loadVar 77 p).run Tryz.prog w = .ok (.agg (tkA x.kind x.pos x.num (Lx.S x.text))) w := by
    have hi := tokT.info
    cases hq : Tryz.prog.info? 77 with
    | none => rw [hq] at hi; cases hi
    | some i =>
      have hs : i.size = 4 := by rw [hq] at hi; simpa using hi
      have hagg : (isAgg 77).run Tryz.prog w = .ok true w := by
        unfold isAgg
        rw [Sem.run_bind, run_underlying hu w]
        rfl
      have hl' : (loadCells p 4).run Tryz.prog w = .ok (tkA x.kind x.pos x.num (Lx.S x.text)) w := hl
      simp [loadVar, Sem.run_bind, hagg, sizeOf, typeInfo, hq, hs, hl']
  unfold execOp
  simp only [ho, hx, Instr.loadAt, Instr.sureAddr, Sem.run_bind, Sem.run_pure, Result.andThen_ok, hr]
theorem wp_storeRBad {o : Oper} {a : Act} {w w0 : World} {X : Nat → Prop} {I : List It} {K : Act → World → Prop} {Q : Exit → Act → World → Prop} {ad : Addr} {cap t b : Nat} {L : List Lx.Tok} {m e p : Int} (h : St X w0 w I) (i : Nat) (e' p' : Int) (ho : stOf a o = some (31, .pointer (some ⟨b, 3, none⟩), .agg #[.int .i64 e', .int .i64 p']))
    (hI : I[i]? = some (.row b 75 (rrC ad cap L t m e p))) (k : ∀ w', Hid (St X w0 w' (I.set i (.row b 75 (rrC ad cap L t m e' p')))) → K (a.put o.dst undef) w') : Oper.wp Tryz.prog o a w K Q := by
  obtain ⟨hg, x, y, ho, hx, hy⟩ := stOf_eq ho
  refine wp_store_mid _ x y ho b 3 #[.int .i64 e', .int .i64 p'] hx hy (fun j hj => ⟨?_, h.open i hI _⟩) (by rw [rbT.info]; rfl) (by simp [Value.oneCell']) (k _ (Lib.hid ?_))
  · rw [h.cell i hI]
    have : j < 2 := hj
    rcases (show j = 0 ∨ j = 1 by omega) with rfl | rfl <;> rfl
  · have h1 := h.setCell i hI 3 (.int .i64 e')
    have hI' : (I.set i (.row b 75 ((rrC ad cap L t m e p).setIfInBounds 3 (.int .i64 e'))))[i]? = some (.row b 75 ((rrC ad cap L t m e p).setIfInBounds 3 (.int .i64 e'))) := by
      rw [List.getElem?_set_self]
      exact (List.getElem?_eq_some_iff.1 hI).1
    have h2 := h1.setCell i hI' 4 (.int .i64 p')
    rw [List.set_set] at h2
    exact h2
set_option maxHeartbeats 8000000 in
set_option maxRecDepth 100000 in
theorem rtext_fn (b : Nat) (L : List Lx.Tok) (σ : Sx.R) : Fn 131 #[.pointer (some ⟨b, 0, none⟩)] [rr b L σ]
    fun e J => e = .returned (.string (Lx.S (Sx.text L σ))) ∧ J = [rr b L σ] := by
  intro w P hP h0
  have HS := Lib.hid (St.start hP h0)
  obtain ⟨a, cap, t, m, e, p, hr, hs3⟩ := HS.out.rrOpen; have HR := Lib.hid hr; have HO := Lib.hid hs3; clear hs3 hr
  have hF0 := tokF0
  have hF3 := tokF3
  clear h0 hP
  by_cases h3 : (Sx.tk L σ).kind = 3
  · have hx : Sx.text L σ = (Sx.tk L σ).text := by unfold Sx.text; rw [if_pos (Or.inl h3)]
    rw [hx]
    clear hx
    go_enter Tryz.func131, Tryz.ntmps131
    go_wp2
    have hb_ := rr_bound HR.out
    obtain ⟨hb0_, hb1_, hb2_⟩ := hb_
    refine wp_region_held_drew (S := fun w' => w'.cell? ⟨b, 0, none⟩ = some (.slice (some a) L.length cap) ∧ w'.cell? ⟨b, 1, none⟩ = some (.int .i64 (t : Int)) ∧ OnC w' (a.add (t * 4)) (tkC (Sx.tk L σ))) (by kernel_rfl) (⟨HO.out.drew.cell 0 rfl 0, HO.out.drew.cell 0 rfl 1, toks_t ((HO.out.drew.sep.pick 1 rfl).choose_spec.choose_spec.2.2.2.1) HR.out⟩) (fun hHeld => ?_)
    refine tkH 0 ?_
    refine tkH 1 ?_
    refine tkH 2 ?_
    refine tkH 3 ?_
    refine tkH 4 ?_
    refine tkH 5 ?_
    refine tkH 6 ?_
    refine tkH 7 ?_
    refine tkH 8 ?_
    refine tkY 9 (yieldsIf_tok (by rfl) rfl (fun _ h => h.2.2)) ?_
    refine wpAnyH_ready (rs := [10]) (by kernel_rfl) (by simp) ?_
    refine AllReadyH.cons rfl (fun K hK => ?_) AllReadyH.nil
    (refine wp_alloc HO.out.drew _ rfl tokZ ?_; intro b_1 w_1a HA1; clear HS)
    refine hK.out _ _ (⟨HA1.out.cell 0 rfl 0, HA1.out.cell 0 rfl 1, toks_t ((HA1.out.sep.pick 2 rfl).choose_spec.choose_spec.2.2.2.1) HR.out⟩) (fun hHeld => ?_)
    clear hK K
    (try simp only [Act.put, List.setIfInBounds_toArray, List.set_cons_zero, List.set_cons_succ, List.getElem_toArray, List.getElem_cons_succ, List.getElem_cons_zero])
    refine wpAnyH_ready (rs := [11]) (by kernel_rfl) (by simp) ?_
    refine AllReadyH.cons rfl (fun K hK => ?_) AllReadyH.nil
    (refine wp_storeS HA1.out 1 ⟨rfl, rfl⟩ rfl tokT rfl (fitsT _ _ _ _) ?_; intro w1 hs; have HT1 := Lib.hid (show St _ _ _ (_ :: _ :: _ :: []) from hs.out); clear hs HA1)
    refine hK.out _ _ (⟨HT1.out.cell 0 rfl 0, HT1.out.cell 0 rfl 1, toks_t ((HT1.out.sep.pick 2 rfl).choose_spec.choose_spec.2.2.2.1) HR.out⟩) (fun hHeld => ?_)
    clear hK K
    (try simp only [Act.put, List.setIfInBounds_toArray, List.set_cons_zero, List.set_cons_succ, List.getElem_toArray, List.getElem_cons_succ, List.getElem_cons_zero])
    refine wpAnyH_done (by kernel_rfl) ?_ _
    have HO1 := Lib.hid (HT1.out.sel [0, 1, 0] rfl)
    clear HT1
    have hcg : w1.cell? ⟨b_1, 0, none⟩ = some (.int .i64 (Sx.tk L σ).kind) := HO1.out.cell 2 rfl 0
    go_wp2_with (first
      | (refine wpl_load HO1.out 2 rfl rfl intO rfl ?_)
      | (refine wpl_load HO1.out 2 rfl rfl strO rfl ?_))
    go_ret
    exact ⟨_, ⟨rfl, rfl⟩, (HO1.out.sel [0, 0] rfl).rrClose HR.out⟩
  by_cases h4 : (Sx.tk L σ).kind = 4
  · have hx : Sx.text L σ = (Sx.tk L σ).text := by unfold Sx.text; rw [if_pos (Or.inr h4)]
    rw [hx]
    clear hx
    go_enter Tryz.func131, Tryz.ntmps131
    go_wp2
    have hb_ := rr_bound HR.out
    obtain ⟨hb0_, hb1_, hb2_⟩ := hb_
    refine wp_region_held_drew (S := fun w' => w'.cell? ⟨b, 0, none⟩ = some (.slice (some a) L.length cap) ∧ w'.cell? ⟨b, 1, none⟩ = some (.int .i64 (t : Int)) ∧ OnC w' (a.add (t * 4)) (tkC (Sx.tk L σ))) (by kernel_rfl) (⟨HO.out.drew.cell 0 rfl 0, HO.out.drew.cell 0 rfl 1, toks_t ((HO.out.drew.sep.pick 1 rfl).choose_spec.choose_spec.2.2.2.1) HR.out⟩) (fun hHeld => ?_)
    refine tkH 0 ?_
    refine tkH 1 ?_
    refine tkH 2 ?_
    refine tkH 3 ?_
    refine tkH 4 ?_
    refine tkH 5 ?_
    refine tkH 6 ?_
    refine tkH 7 ?_
    refine tkH 8 ?_
    refine tkY 9 (yieldsIf_tok (by rfl) rfl (fun _ h => h.2.2)) ?_
    refine wpAnyH_ready (rs := [10]) (by kernel_rfl) (by simp) ?_
    refine AllReadyH.cons rfl (fun K hK => ?_) AllReadyH.nil
    (refine wp_alloc HO.out.drew _ rfl tokZ ?_; intro b_1 w_1a HA1; clear HS)
    refine hK.out _ _ (⟨HA1.out.cell 0 rfl 0, HA1.out.cell 0 rfl 1, toks_t ((HA1.out.sep.pick 2 rfl).choose_spec.choose_spec.2.2.2.1) HR.out⟩) (fun hHeld => ?_)
    clear hK K
    (try simp only [Act.put, List.setIfInBounds_toArray, List.set_cons_zero, List.set_cons_succ, List.getElem_toArray, List.getElem_cons_succ, List.getElem_cons_zero])
    refine wpAnyH_ready (rs := [11]) (by kernel_rfl) (by simp) ?_
    refine AllReadyH.cons rfl (fun K hK => ?_) AllReadyH.nil
    (refine wp_storeS HA1.out 1 ⟨rfl, rfl⟩ rfl tokT rfl (fitsT _ _ _ _) ?_; intro w1 hs; have HT1 := Lib.hid (show St _ _ _ (_ :: _ :: _ :: []) from hs.out); clear hs HA1)
    refine hK.out _ _ (⟨HT1.out.cell 0 rfl 0, HT1.out.cell 0 rfl 1, toks_t ((HT1.out.sep.pick 2 rfl).choose_spec.choose_spec.2.2.2.1) HR.out⟩) (fun hHeld => ?_)
    clear hK K
    (try simp only [Act.put, List.setIfInBounds_toArray, List.set_cons_zero, List.set_cons_succ, List.getElem_toArray, List.getElem_cons_succ, List.getElem_cons_zero])
    refine wpAnyH_done (by kernel_rfl) ?_ _
    have HO1 := Lib.hid (HT1.out.sel [0, 1, 0] rfl)
    clear HT1
    have hcg : w1.cell? ⟨b_1, 0, none⟩ = some (.int .i64 (Sx.tk L σ).kind) := HO1.out.cell 2 rfl 0
    go_wp2_with (first
      | (refine wpl_load HO1.out 2 rfl rfl intO rfl ?_)
      | (refine wpl_load HO1.out 2 rfl rfl strO rfl ?_))
    go_ret
    exact ⟨_, ⟨rfl, rfl⟩, (HO1.out.sel [0, 0] rfl).rrClose HR.out⟩
  have hb3 : ((Sx.tk L σ).kind == 3) = false := by simpa using h3
  have hb4 : ((Sx.tk L σ).kind == 4) = false := by simpa using h4
  · have hx : Sx.text L σ = [] := by unfold Sx.text; rw [if_neg (by simp [h3, h4])]
    rw [hx]
    clear hx
    go_enter Tryz.func131, Tryz.ntmps131
    go_wp2
    have hb_ := rr_bound HR.out
    obtain ⟨hb0_, hb1_, hb2_⟩ := hb_
    refine wp_region_held_drew (S := fun w' => w'.cell? ⟨b, 0, none⟩ = some (.slice (some a) L.length cap) ∧ w'.cell? ⟨b, 1, none⟩ = some (.int .i64 (t : Int)) ∧ OnC w' (a.add (t * 4)) (tkC (Sx.tk L σ))) (by kernel_rfl) (⟨HO.out.drew.cell 0 rfl 0, HO.out.drew.cell 0 rfl 1, toks_t ((HO.out.drew.sep.pick 1 rfl).choose_spec.choose_spec.2.2.2.1) HR.out⟩) (fun hHeld => ?_)
    refine tkH 0 ?_
    refine tkH 1 ?_
    refine tkH 2 ?_
    refine tkH 3 ?_
    refine tkH 4 ?_
    refine tkH 5 ?_
    refine tkH 6 ?_
    refine tkH 7 ?_
    refine tkH 8 ?_
    refine tkY 9 (yieldsIf_tok (by rfl) rfl (fun _ h => h.2.2)) ?_
    refine wpAnyH_ready (rs := [10]) (by kernel_rfl) (by simp) ?_
    refine AllReadyH.cons rfl (fun K hK => ?_) AllReadyH.nil
    (refine wp_alloc HO.out.drew _ rfl tokZ ?_; intro b_1 w_1a HA1; clear HS)
    refine hK.out _ _ (⟨HA1.out.cell 0 rfl 0, HA1.out.cell 0 rfl 1, toks_t ((HA1.out.sep.pick 2 rfl).choose_spec.choose_spec.2.2.2.1) HR.out⟩) (fun hHeld => ?_)
    clear hK K
    (try simp only [Act.put, List.setIfInBounds_toArray, List.set_cons_zero, List.set_cons_succ, List.getElem_toArray, List.getElem_cons_succ, List.getElem_cons_zero])
    refine wpAnyH_ready (rs := [11]) (by kernel_rfl) (by simp) ?_
    refine AllReadyH.cons rfl (fun K hK => ?_) AllReadyH.nil
    (refine wp_storeS HA1.out 1 ⟨rfl, rfl⟩ rfl tokT rfl (fitsT _ _ _ _) ?_; intro w1 hs; have HT1 := Lib.hid (show St _ _ _ (_ :: _ :: _ :: []) from hs.out); clear hs HA1)
    refine hK.out _ _ (⟨HT1.out.cell 0 rfl 0, HT1.out.cell 0 rfl 1, toks_t ((HT1.out.sep.pick 2 rfl).choose_spec.choose_spec.2.2.2.1) HR.out⟩) (fun hHeld => ?_)
    clear hK K
    (try simp only [Act.put, List.setIfInBounds_toArray, List.set_cons_zero, List.set_cons_succ, List.getElem_toArray, List.getElem_cons_succ, List.getElem_cons_zero])
    refine wpAnyH_done (by kernel_rfl) ?_ _
    have HO1 := Lib.hid (HT1.out.sel [0, 1, 0] rfl)
    clear HT1
    have hcg : w1.cell? ⟨b_1, 0, none⟩ = some (.int .i64 (Sx.tk L σ).kind) := HO1.out.cell 2 rfl 0
    go_wp2_with (first
      | (refine wpl_load HO1.out 2 rfl rfl intO rfl ?_)
      | (refine wpl_load HO1.out 2 rfl rfl strO rfl ?_))
    go_ret
    exact ⟨_, ⟨rfl, rfl⟩, (HO1.out.sel [0, 0] rfl).rrClose HR.out⟩
set_option maxHeartbeats 8000000 in
set_option maxRecDepth 100000 in
theorem rwrong_fn (b : Nat) (L : List Lx.Tok) (σ : Sx.R) (er : Int) (her : er ≠ 0) : Fn 132 #[.pointer (some ⟨b, 0, none⟩), .int .i64 er] [rr b L σ]
    fun e J => e = .returned (.tuple #[]) ∧ J = [rr b L (Sx.wrong L er σ)] := by
  intro w P hP h0
  have HS := Lib.hid (St.start hP h0)
  obtain ⟨a, cap, t, m, e, p, hr, hs3⟩ := HS.out.rrOpen; have HR := Lib.hid hr; have HO := Lib.hid hs3; clear hs3 hr
  obtain ⟨hb0, hb1, hb2⟩ := rr_bound HR.out
  have HE := Lib.hid her
  clear h0 hP her
  by_cases he : σ.err = 0
  · have he' : e = 0 := by rw [HR.out.he]; exact he
    have HX := Lib.hid he
    clear he
    go_enter Tryz.func132, Tryz.ntmps132
    go_wp2_with (first
      | (refine wpl_load HO.out 0 rfl rfl intO rfl ?_))
    refine wp_region_held_drew (S := fun w' => w'.cell? ⟨b, 0, none⟩ = some (.slice (some a) L.length cap) ∧ w'.cell? ⟨b, 1, none⟩ = some (.int .i64 (t : Int)) ∧ w'.cell? ⟨(a.add (t * 4)).block, (a.add (t * 4)).off + 1, none⟩ = some (.int .i64 ((Sx.tk L σ).pos : Int))) (by kernel_rfl) (⟨HO.out.drew.cell 0 rfl 0, HO.out.drew.cell 0 rfl 1, (tk_cells (toks_t ((HO.out.drew.sep.pick 1 rfl).choose_spec.choose_spec.2.2.2.1) HR.out)).2.1⟩) (fun hHeld => ?_)
    refine tkH 0 ?_
    refine tkH 1 ?_
    refine tkH 2 ?_
    refine tkH 3 ?_
    refine tkH 4 ?_
    refine tkH 5 ?_
    refine tkH 6 ?_
    refine tkH 7 ?_
    refine tkH 8 ?_
    refine tkH 9 ?_
    refine tkH 10 ?_
    refine tkH 11 ?_
    refine tkH 12 ?_
    refine tkH 13 ?_
    refine tkH 14 ?_
    refine tkH 15 ?_
    refine wpAnyH_ready (rs := [16]) (by kernel_rfl) (by simp) ?_
    refine AllReadyH.cons rfl (fun K hK => ?_) AllReadyH.nil
    (refine wp_storeRBad HO.out.drew 0 er ((Sx.tk L σ).pos : Int) rfl rfl ?_; intro w1 hs1; have HS1 := Lib.hid (show St _ _ _ (_ :: _ :: []) from hs1.out); clear hs1)
    refine hK.out _ _ (⟨HS1.out.cell 0 rfl 0, HS1.out.cell 0 rfl 1, (tk_cells (toks_t ((HS1.out.sep.pick 1 rfl).choose_spec.choose_spec.2.2.2.1) HR.out)).2.1⟩) (fun hHeld => ?_)
    clear hK K
    (try simp only [Act.put, List.setIfInBounds_toArray, List.set_cons_zero, List.set_cons_succ, List.getElem_toArray, List.getElem_cons_succ, List.getElem_cons_zero])
    refine wpAnyH_done (by kernel_rfl) ?_ _
    try go_wp2
    try simp only [Exit.inBlock, Exit.then]
    refine bodyPost_end (results_none rfl _ _ _) rfl ⟨_, ⟨rfl, rfl⟩, HS1.out.rrClose (rr_wrong HR.out HX.out er HE.out)⟩
  · have he' : ¬ e = 0 := by rw [HR.out.he]; exact he
    rw [Sx.wrong_no he]
    clear he
    go_enter Tryz.func132, Tryz.ntmps132
    go_wp2_with (first
      | (refine wpl_load HO.out 0 rfl rfl intO rfl ?_))
    try simp only [Exit.inBlock, Exit.then]
    refine bodyPost_end (results_none rfl _ _ _) rfl ⟨_, ⟨rfl, rfl⟩, HO.out.rrClose HR.out⟩
set_option maxHeartbeats 8000000 in
set_option maxRecDepth 100000 in
theorem rsees_fn (b : Nat) (L : List Lx.Tok) (σ : Sx.R) (s : List UInt8) : Fn 67 #[.pointer (some ⟨b, 0, none⟩), .string (Lx.S s)] [rr b L σ]
    fun e J => e = .returned (.bool (Sx.sees L s σ)) ∧ J = [rr b L σ] := by
  intro w P hP h0
  have HS := Lib.hid (St.start hP h0)
  obtain ⟨a, cap, t, m, e, p, hr, hs3⟩ := HS.out.rrOpen; have HR := Lib.hid hr; have HO := Lib.hid hs3; clear hs3 hr
  have C1 := Lib.hid (rtext_fn b L σ)
  have hE : ((Lx.S (Sx.text L σ)).toList == (Lx.S s).toList) = decide (Sx.text L σ = s) := Lx.S_inj
  clear h0 hP
  unfold Sx.sees
  by_cases he : σ.err = 0
  · have he' : e = 0 := by rw [HR.out.he]; exact he
    rw [decide_eq_true he, Bool.true_and]
    clear he
    go_enter Tryz.func67, Tryz.ntmps67
    go_wp2_with (first
      | (refine wpl_load HO.out 0 rfl rfl intO rfl ?_)
      | (go_at_call 131; refine (HS.out.call1 C1.out).mono ?_; rintro e w1 ⟨J, ⟨rfl, rfl⟩, hs⟩; simp only [List.cons_append, List.nil_append] at hs; have HS1 := Lib.hid hs; clear hs))
    go_ret
    exact ⟨_, ⟨by simp [hE], rfl⟩, HS1.out⟩
  · have he' : ¬ e = 0 := by rw [HR.out.he]; exact he
    rw [decide_eq_false he, Bool.false_and]
    clear he
    go_enter Tryz.func67, Tryz.ntmps67
    go_wp2_with (first
      | (refine wpl_load HO.out 0 rfl rfl intO rfl ?_))
    go_ret
    exact ⟨_, ⟨rfl, rfl⟩, HO.out.rrClose HR.out⟩
set_option maxHeartbeats 8000000 in
set_option maxRecDepth 100000 in
theorem rmay_fn (b : Nat) (L : List Lx.Tok) (hL : Sx.Ok L) (σ : Sx.R) (s : List UInt8) (hs : s ≠ []) : Fn 69 #[.pointer (some ⟨b, 0, none⟩), .string (Lx.S s)] [rr b L σ]
    fun e J => e = .returned (.bool (Sx.may L s σ).1) ∧ J = [rr b L (Sx.may L s σ).2] := by
  intro w P hP h0
  have HS := Lib.hid (St.start hP h0)
  obtain ⟨a, cap, t, m, e, p, hr, hs3⟩ := HS.out.rrOpen; have HR := Lib.hid hr; have HO := Lib.hid hs3; clear hs3 hr
  have C1 := Lib.hid (rtext_fn b L σ)
  have hE : ((Lx.S (Sx.text L σ)).toList == (Lx.S s).toList) = decide (Sx.text L σ = s) := Lx.S_inj
  have hle := Sx.le_may hL.ends s hs σ
  have hat := hle.2.2.1 HS.out.rat
  clear h0 hP hs hL hle
  unfold Sx.may Sx.sees at hat ⊢
  by_cases he : σ.err = 0
  · have he' : e = 0 := by rw [HR.out.he]; exact he
    rw [decide_eq_true he, Bool.true_and] at hat ⊢
    clear he
    by_cases ht : Sx.text L σ = s
    · rw [decide_eq_true ht] at hE hat ⊢
      have HA := Lib.hid hat
      clear ht hat
      go_enter Tryz.func69, Tryz.ntmps69
      go_wp2_with (first
        | (first | (refine wpl_load HO.out 0 rfl rfl intO rfl ?_) | (refine wpl_load HO1.out 0 rfl rfl intO rfl ?_))
        | (go_at_call 131; refine (HS.out.call1 C1.out).mono ?_; rintro e w1 ⟨J, ⟨rfl, rfl⟩, hs⟩; simp only [List.cons_append, List.nil_append] at hs; have HS1 := Lib.hid hs; clear hs; obtain ⟨a1, cap1, t1, m1, e1, p1, hr, hs3⟩ := HS1.out.rrOpen; have HR1 := Lib.hid hr; have HO1 := Lib.hid hs3; clear hs3 hr; obtain ⟨hb0, hb1, hb2⟩ := rr_bound HR1.out)
        | (refine wpl_store HO1.out 0 rfl rfl intO (of_decide_eq_true rfl) rfl ?_; intro w2 hs; have hs9 : St _ _ _ (.row b 75 #[.slice (some a1) L.length cap1, .int .i64 (wrap64 ((t1 : Int) + 1)), .int .i64 m1, .int .i64 e1, .int .i64 p1] :: .hp (toksHp a1 L) :: []) := hs.out; rw [(rr_bound HR1.out).2.2] at hs9; have HS2 := Lib.hid hs9; clear hs hs9))
      go_ret
      exact ⟨_, ⟨rfl, rfl⟩, HS2.out.rrClose (rr_step HR1.out HA.out)⟩
    · rw [decide_eq_false ht] at hE hat ⊢
      clear ht hat
      go_enter Tryz.func69, Tryz.ntmps69
      go_wp2_with (first
        | (refine wpl_load HO.out 0 rfl rfl intO rfl ?_)
        | (go_at_call 131; refine (HS.out.call1 C1.out).mono ?_; rintro e w1 ⟨J, ⟨rfl, rfl⟩, hs⟩; simp only [List.cons_append, List.nil_append] at hs; have HS1 := Lib.hid hs; clear hs))
      go_ret
      exact ⟨_, ⟨rfl, rfl⟩, HS1.out⟩
  · have he' : ¬ e = 0 := by rw [HR.out.he]; exact he
    rw [decide_eq_false he, Bool.false_and]
    clear he hat
    go_enter Tryz.func69, Tryz.ntmps69
    go_wp2_with (first
      | (refine wpl_load HO.out 0 rfl rfl intO rfl ?_))
    go_ret
    exact ⟨_, ⟨rfl, rfl⟩, HO.out.rrClose HR.out⟩
set_option maxHeartbeats 8000000 in
set_option maxRecDepth 100000 in
theorem reat_fn (b : Nat) (L : List Lx.Tok) (hL : Sx.Ok L) (σ : Sx.R) (s : List UInt8) (hs : s ≠ []) : Fn 65 #[.pointer (some ⟨b, 0, none⟩), .string (Lx.S s)] [rr b L σ]
    fun e J => e = .returned (.tuple #[]) ∧ J = [rr b L (Sx.eat L s σ)] := by
  intro w P hP h0
  have HS := Lib.hid (St.start hP h0)
  obtain ⟨a, cap, t, m, e, p, hr, hs3⟩ := HS.out.rrOpen; have HR := Lib.hid hr; have HO := Lib.hid hs3; clear hs3 hr
  have C1 := Lib.hid (rtext_fn b L σ)
  have hE : ((Lx.S (Sx.text L σ)).toList == (Lx.S s).toList) = decide (Sx.text L σ = s) := Lx.S_inj
  have C2 := Lib.hid (rwrong_fn b L σ 10 (by decide))
  have hle := Sx.le_eat hL.ends s hs σ
  have hat := hle.2.2.1 HS.out.rat
  clear h0 hP hs hL hle
  unfold Sx.eat at hat ⊢
  by_cases he : σ.err = 0
  · have he' : e = 0 := by rw [HR.out.he]; exact he
    rw [if_neg (by simpa using he)] at hat ⊢
    clear he
    by_cases ht : Sx.text L σ = s
    · rw [decide_eq_true ht] at hE
      rw [if_neg (by simpa using ht)] at hat ⊢
      have HA := Lib.hid hat
      clear ht hat
      go_enter Tryz.func65, Tryz.ntmps65
      go_wp2_with (first
        | (first | (refine wpl_load HO.out 0 rfl rfl intO rfl ?_) | (refine wpl_load HO1.out 0 rfl rfl intO rfl ?_))
        | (go_at_call 131; refine (HS.out.call1 C1.out).mono ?_; rintro e w1 ⟨J, ⟨rfl, rfl⟩, hs⟩; simp only [List.cons_append, List.nil_append] at hs; have HS1 := Lib.hid hs; clear hs; obtain ⟨a1, cap1, t1, m1, e1, p1, hr, hs3⟩ := HS1.out.rrOpen; have HR1 := Lib.hid hr; have HO1 := Lib.hid hs3; clear hs3 hr; obtain ⟨hb0, hb1, hb2⟩ := rr_bound HR1.out)
        | (refine wpl_store HO1.out 0 rfl rfl intO (of_decide_eq_true rfl) rfl ?_; intro w2 hs; have hs9 : St _ _ _ (.row b 75 #[.slice (some a1) L.length cap1, .int .i64 (wrap64 ((t1 : Int) + 1)), .int .i64 m1, .int .i64 e1, .int .i64 p1] :: .hp (toksHp a1 L) :: []) := hs.out; rw [(rr_bound HR1.out).2.2] at hs9; have HS2 := Lib.hid hs9; clear hs hs9))
      try simp only [Exit.inBlock, Exit.then]
      refine bodyPost_end (results_none rfl _ _ _) rfl ⟨_, ⟨rfl, rfl⟩, HS2.out.rrClose (rr_step HR1.out HA.out)⟩
    · rw [decide_eq_false ht] at hE
      rw [if_pos ht]
      clear ht hat
      go_enter Tryz.func65, Tryz.ntmps65
      go_wp2_with (first
        | (refine wpl_load HO.out 0 rfl rfl intO rfl ?_)
        | (go_at_call 131; refine (HS.out.call1 C1.out).mono ?_; rintro e w1 ⟨J, ⟨rfl, rfl⟩, hs⟩; simp only [List.cons_append, List.nil_append] at hs; have HS1 := Lib.hid hs; clear hs)
        | (go_at_call 132; refine (HS1.out.call1 C2.out).mono ?_; rintro e w2 ⟨J, ⟨rfl, rfl⟩, hs⟩; simp only [List.cons_append, List.nil_append] at hs; have HS2 := Lib.hid hs; clear hs))
      try simp only [Exit.inBlock, Exit.then]
      refine bodyPost_ret (results_none rfl _ _ _) rfl ⟨_, ⟨rfl, rfl⟩, HS2.out⟩
  · have he' : ¬ e = 0 := by rw [HR.out.he]; exact he
    rw [if_pos he]
    clear he hat
    go_enter Tryz.func65, Tryz.ntmps65
    go_wp2_with (first
      | (refine wpl_load HO.out 0 rfl rfl intO rfl ?_))
    try simp only [Exit.inBlock, Exit.then]
    refine bodyPost_ret (results_none rfl _ _ _) rfl ⟨_, ⟨rfl, rfl⟩, HO.out.rrClose HR.out⟩
end Go.Proofs.YtjfdcnggnldgdaaGreatDoor
end
section
namespace Go.Proofs.YtjfdcnggnldgdaaGreatDoor
open Go.ChangeShapes Go.WideShapes Go.ChangeAt Go.RowKit
set_option linter.unusedVariables false
set_option linter.unusedSimpArgs false

set_option maxHeartbeats 8000000 in
set_option maxRecDepth 100000 in
theorem rnest_fn (b : Nat) (L : List Lx.Tok) (hL : Sx.Ok L) (σ : Sx.R) (s : List UInt8) (hs : s ≠ []) : Fn 133 #[.pointer (some ⟨b, 0, none⟩), .string (Lx.S s)] [rr b L σ]
    fun e J => e = .returned (.tuple #[]) ∧ J = [rr b L (Sx.nest L s σ)] := by
  intro w P hP h0
  have HS := Lib.hid (St.start hP h0)
  have C1 := Lib.hid (rsees_fn b L σ s)
  have C2 := Lib.hid (rwrong_fn b L σ 11 (by decide))
  by_cases h : Sx.sees L s σ = true
  · by_cases h64 : 64 ≤ σ.opn
    · have hn : Sx.nest L s σ = { Sx.eat L s (Sx.wrong L 11 σ) with opn := (Sx.eat L s (Sx.wrong L 11 σ)).opn + 1 } := by
        unfold Sx.nest; rw [h, decide_eq_true h64]; rfl
      have C3 := Lib.hid (reat_fn b L hL (Sx.wrong L 11 σ) s hs)
      have hw : (Sx.eat L s (Sx.wrong L 11 σ)).err ≠ 0 := by rw [Sx.eat_no (Sx.wrong_err (by decide))]; exact Sx.wrong_err (by decide)
      rw [h] at C1
      rw [hn]
      have HW := Lib.hid hw
      have HX := Lib.hid (Sx.sees_text h).1
      have H64 := Lib.hid h64
      clear h0 hP hs hL hw hn h h64
      go_enter Tryz.func133, Tryz.ntmps133
      go_wp2_with (first
        | (go_at_call 67; refine (HS.out.call1 C1.out).mono ?_; rintro e w1 ⟨J, ⟨rfl, rfl⟩, hs⟩; simp only [List.cons_append, List.nil_append] at hs; have HS1 := Lib.hid hs; clear hs; obtain ⟨a1, cap1, t1, m1, e1, p1, hr, hs3⟩ := HS1.out.rrOpen; have HR1 := Lib.hid hr; have HO1 := Lib.hid hs3; clear hs3 hr; have hc2 : w1.cell? ⟨b, 2, none⟩ = some (.int .i64 m1) := HO1.out.cell 0 rfl 2; have hm64 : 64 ≤ m1 := (by have h1 := HR1.out.hm HX.out; have h2 := H64.out; omega))
        | (go_at_call 132; refine (HS1.out.call1 C2.out).mono ?_; rintro e w2 ⟨J, ⟨rfl, rfl⟩, hs⟩; simp only [List.cons_append, List.nil_append] at hs; have HS2 := Lib.hid hs; clear hs)
        | (go_at_call 65; refine (HS2.out.call1 C3.out).mono ?_; rintro e w3 ⟨J, ⟨rfl, rfl⟩, hs⟩; simp only [List.cons_append, List.nil_append] at hs; have HS3 := Lib.hid hs; clear hs; obtain ⟨a3, cap3, t3, m3, e3, p3, hr, hs3⟩ := HS3.out.rrOpen; have HR3 := Lib.hid hr; have HO3 := Lib.hid hs3; clear hs3 hr)
        | (first | (refine wpl_load HO1.out 0 rfl rfl intO rfl ?_) | (refine wpl_load HO3.out 0 rfl rfl intO rfl ?_))
        | (refine wpl_store HO3.out 0 rfl rfl intO (of_decide_eq_true rfl) rfl ?_; intro w4 hs; have HS4 := Lib.hid (show St _ _ _ [.row b 75 (rrC a3 cap3 L t3 (wrap64 (m3 + 1)) e3 p3), .hp (toksHp a3 L)] from hs.out); clear hs))
      try simp only [Exit.inBlock, Exit.then]
      refine bodyPost_end (results_none rfl _ _ _) rfl ⟨_, ⟨rfl, rfl⟩, HS4.out.rrClose (rr_more HR3.out (fun h => absurd h HW.out))⟩
    · have hn : Sx.nest L s σ = { Sx.eat L s σ with opn := (Sx.eat L s σ).opn + 1 } := by
        unfold Sx.nest; rw [h, decide_eq_false h64]; rfl
      have C3 := Lib.hid (reat_fn b L hL σ s hs)
      rw [h] at C1
      rw [hn]
      have hw : (Sx.eat L s σ).err = 0 → (Sx.eat L s σ).opn ≤ 63 := fun _ => by rw [Sx.op_keep]; omega
      have HW := Lib.hid hw
      have HX := Lib.hid (Sx.sees_text h).1
      have H64 := Lib.hid h64
      clear h0 hP hs hL hw hn h h64
      go_enter Tryz.func133, Tryz.ntmps133
      go_wp2_with (first
        | (go_at_call 67; refine (HS.out.call1 C1.out).mono ?_; rintro e w1 ⟨J, ⟨rfl, rfl⟩, hs⟩; simp only [List.cons_append, List.nil_append] at hs; have HS1 := Lib.hid hs; clear hs; obtain ⟨a1, cap1, t1, m1, e1, p1, hr, hs3⟩ := HS1.out.rrOpen; have HR1 := Lib.hid hr; have HO1 := Lib.hid hs3; clear hs3 hr; have hc2 : w1.cell? ⟨b, 2, none⟩ = some (.int .i64 m1) := HO1.out.cell 0 rfl 2; have hm64 : ¬ 64 ≤ m1 := (by have h1 := HR1.out.hm HX.out; have h2 := H64.out; omega))
        | (go_at_call 65; have HS1' := Lib.hid (HO1.out.rrClose HR1.out); refine (HS1'.out.call1 C3.out).mono ?_; rintro e w3 ⟨J, ⟨rfl, rfl⟩, hs⟩; simp only [List.cons_append, List.nil_append] at hs; have HS3 := Lib.hid hs; clear hs; obtain ⟨a3, cap3, t3, m3, e3, p3, hr, hs3⟩ := HS3.out.rrOpen; have HR3 := Lib.hid hr; have HO3 := Lib.hid hs3; clear hs3 hr)
        | (first | (refine wpl_load HO1.out 0 rfl rfl intO rfl ?_) | (refine wpl_load HO3.out 0 rfl rfl intO rfl ?_))
        | (refine wpl_store HO3.out 0 rfl rfl intO (of_decide_eq_true rfl) rfl ?_; intro w4 hs; have HS4 := Lib.hid (show St _ _ _ [.row b 75 (rrC a3 cap3 L t3 (wrap64 (m3 + 1)) e3 p3), .hp (toksHp a3 L)] from hs.out); clear hs))
      try simp only [Exit.inBlock, Exit.then]
      refine bodyPost_end (results_none rfl _ _ _) rfl ⟨_, ⟨rfl, rfl⟩, HS4.out.rrClose (rr_more HR3.out HW.out)⟩
  · have hf : Sx.sees L s σ = false := by simpa using h
    have hn : Sx.nest L s σ = { Sx.eat L s σ with opn := (Sx.eat L s σ).opn + 1 } := by
      unfold Sx.nest; rw [hf]; rfl
    have C3 := Lib.hid (reat_fn b L hL σ s hs)
    rw [hf] at C1
    rw [hn]
    have hw : (Sx.eat L s σ).err = 0 → (Sx.eat L s σ).opn ≤ 63 := fun h1 => absurd (Sx.eat_sees h1) h
    have HW := Lib.hid hw
    clear h0 hP hs hL hw hn h hf
    go_enter Tryz.func133, Tryz.ntmps133
    go_wp2_with (first
      | (go_at_call 67; refine (HS.out.call1 C1.out).mono ?_; rintro e w1 ⟨J, ⟨rfl, rfl⟩, hs⟩; simp only [List.cons_append, List.nil_append] at hs; have HS1 := Lib.hid hs; clear hs)
      | (go_at_call 65; refine (HS1.out.call1 C3.out).mono ?_; rintro e w3 ⟨J, ⟨rfl, rfl⟩, hs⟩; simp only [List.cons_append, List.nil_append] at hs; have HS3 := Lib.hid hs; clear hs; obtain ⟨a3, cap3, t3, m3, e3, p3, hr, hs3⟩ := HS3.out.rrOpen; have HR3 := Lib.hid hr; have HO3 := Lib.hid hs3; clear hs3 hr)
      | (refine wpl_load HO3.out 0 rfl rfl intO rfl ?_)
      | (refine wpl_store HO3.out 0 rfl rfl intO (of_decide_eq_true rfl) rfl ?_; intro w4 hs; have HS4 := Lib.hid (show St _ _ _ [.row b 75 (rrC a3 cap3 L t3 (wrap64 (m3 + 1)) e3 p3), .hp (toksHp a3 L)] from hs.out); clear hs))
    try simp only [Exit.inBlock, Exit.then]
    refine bodyPost_end (results_none rfl _ _ _) rfl ⟨_, ⟨rfl, rfl⟩, HS4.out.rrClose (rr_more HR3.out HW.out)⟩
set_option maxHeartbeats 8000000 in
set_option maxRecDepth 100000 in
theorem runnest_fn (b : Nat) (L : List Lx.Tok) (hL : Sx.Ok L) (σ : Sx.R) (s : List UInt8) (hs : s ≠ []) (ho : (Sx.eat L s σ).err = 0 → 1 ≤ σ.opn) : Fn 135 #[.pointer (some ⟨b, 0, none⟩), .string (Lx.S s)] [rr b L σ]
    fun e J => e = .returned (.tuple #[]) ∧ J = [rr b L (Sx.unnest L s σ)] := by
  intro w P hP h0
  have HS := Lib.hid (St.start hP h0)
  have C3 := Lib.hid (reat_fn b L hL σ s hs)
  have hn : Sx.unnest L s σ = { Sx.eat L s σ with opn := (Sx.eat L s σ).opn - 1 } := rfl
  have hw : (Sx.eat L s σ).err = 0 → 1 ≤ (Sx.eat L s σ).opn := fun h1 => by rw [Sx.op_keep]; exact ho h1
  have HW := Lib.hid hw
  rw [hn]
  clear h0 hP hs hL hw hn ho
  go_enter Tryz.func135, Tryz.ntmps135
  go_wp2_with (first
    | (go_at_call 65; refine (HS.out.call1 C3.out).mono ?_; rintro e w3 ⟨J, ⟨rfl, rfl⟩, hs⟩; simp only [List.cons_append, List.nil_append] at hs; have HS3 := Lib.hid hs; clear hs; obtain ⟨a3, cap3, t3, m3, e3, p3, hr, hs3⟩ := HS3.out.rrOpen; have HR3 := Lib.hid hr; have HO3 := Lib.hid hs3; clear hs3 hr)
    | (refine wpl_load HO3.out 0 rfl rfl intO rfl ?_)
    | (refine wpl_store HO3.out 0 rfl rfl intO (of_decide_eq_true rfl) rfl ?_; intro w4 hs; have HS4 := Lib.hid (show St _ _ _ [.row b 75 (rrC a3 cap3 L t3 (wrap64 (m3 - 1)) e3 p3), .hp (toksHp a3 L)] from hs.out); clear hs))
  try simp only [Exit.inBlock, Exit.then]
  refine bodyPost_end (results_none rfl _ _ _) rfl ⟨_, ⟨rfl, rfl⟩, HS4.out.rrClose (rr_less HR3.out HW.out)⟩
set_option maxHeartbeats 8000000 in
set_option maxRecDepth 100000 in
theorem rsome_fn (b : Nat) (L : List Lx.Tok) (hL : Sx.Ok L) (σ : Sx.R) (k : Int) (hk : k ≠ 0) : Fn 66 #[.pointer (some ⟨b, 0, none⟩), .int .i64 k] [rr b L σ]
    fun e J => e = .returned (.agg (tkA ((Sx.some L k σ).1).kind ((Sx.some L k σ).1).pos ((Sx.some L k σ).1).num (Lx.S ((Sx.some L k σ).1).text))) ∧ J = [rr b L (Sx.some L k σ).2] := by
  intro w P hP h0
  have HS := Lib.hid (St.start hP h0)
  have C2 := Lib.hid (rwrong_fn b L σ 10 (by decide))
  have hle := Sx.le_some hL.ends k hk σ
  have hat := hle.2.2.1 HS.out.rat
  clear h0 hP hk hL hle
  unfold Sx.some at hat ⊢
  by_cases he : σ.err = 0
  · rw [if_neg (by simpa using he)] at hat ⊢
    have HX := Lib.hid he
    clear he
    by_cases ht : (Sx.tk L σ).kind = k
    · rw [if_neg (by simpa using ht)] at hat ⊢
      have HA := Lib.hid hat
      clear hat
      go_enter Tryz.func66, Tryz.ntmps66
      go_wp2_with (first
        | (refine wpl_alloc HS.out _ rfl tokZ ?_; intro b_r w1 HS1; clear HS; obtain ⟨a1, cap1, t1, m1, e1, p1, hr, hs3⟩ := HS1.out.rrOpen; have HR1 := Lib.hid hr; have HO1 := Lib.hid hs3; clear hs3 hr; have he' : e1 = 0 := (by rw [HR1.out.he]; exact HX.out))
        | (refine wpl_load HO1.out 0 rfl rfl intO rfl ?_))
      have hb_1 := rr_bound HR1.out
      obtain ⟨hb0_1, hb1_1, hb2_1⟩ := hb_1
      refine wp_region_held_drew (S := fun w' => w'.cell? ⟨b, 0, none⟩ = some (.slice (some a1) L.length cap1) ∧ w'.cell? ⟨b, 1, none⟩ = some (.int .i64 (t1 : Int)) ∧ OnC w' (a1.add (t1 * 4)) (tkC (Sx.tk L σ))) (by kernel_rfl) (⟨HO1.out.drew.cell 0 rfl 0, HO1.out.drew.cell 0 rfl 1, toks_t ((HO1.out.drew.sep.pick 1 rfl).choose_spec.choose_spec.2.2.2.1) HR1.out⟩) (fun hHeld => ?_)
      refine tkH 0 ?_
      refine tkH 1 ?_
      refine tkH 2 ?_
      refine tkH 3 ?_
      refine tkH 4 ?_
      refine tkH 5 ?_
      refine tkH 6 ?_
      refine tkH 7 ?_
      refine tkH 8 ?_
      refine tkY 9 (yieldsIf_tok (by rfl) rfl (fun _ h => h.2.2)) ?_
      refine wpAnyH_ready (rs := [10]) (by kernel_rfl) (by simp) ?_
      refine AllReadyH.cons rfl (fun K hK => ?_) AllReadyH.nil
      (refine wp_alloc HO1.out.drew _ rfl tokZ ?_; intro b_2 w_2a HA2; clear HS1)
      refine hK.out _ _ (⟨HA2.out.cell 0 rfl 0, HA2.out.cell 0 rfl 1, toks_t ((HA2.out.sep.pick 2 rfl).choose_spec.choose_spec.2.2.2.1) HR1.out⟩) (fun hHeld => ?_)
      clear hK K
      (try simp only [Act.put, List.setIfInBounds_toArray, List.set_cons_zero, List.set_cons_succ, List.getElem_toArray, List.getElem_cons_succ, List.getElem_cons_zero])
      refine wpAnyH_ready (rs := [11]) (by kernel_rfl) (by simp) ?_
      refine AllReadyH.cons rfl (fun K hK => ?_) AllReadyH.nil
      (refine wp_storeS HA2.out 1 ⟨rfl, rfl⟩ rfl tokT rfl (fitsT _ _ _ _) ?_; intro w2 hs; have HT2 := Lib.hid (show St _ _ _ (_ :: _ :: _ :: _ :: []) from hs.out); clear hs HA2)
      refine hK.out _ _ (⟨HT2.out.cell 0 rfl 0, HT2.out.cell 0 rfl 1, toks_t ((HT2.out.sep.pick 2 rfl).choose_spec.choose_spec.2.2.2.1) HR1.out⟩) (fun hHeld => ?_)
      clear hK K
      (try simp only [Act.put, List.setIfInBounds_toArray, List.set_cons_zero, List.set_cons_succ, List.getElem_toArray, List.getElem_cons_succ, List.getElem_cons_zero])
      refine wpAnyH_done (by kernel_rfl) ?_ _
      have HO2 := Lib.hid (HT2.out.sel [0, 1, 0, 0] rfl)
      clear HT2
      go_wp2_with (first
        | (refine wpl_load HO2.out 2 rfl rfl intO rfl ?_)
        | (refine wpl_load HO2.out 0 rfl rfl intO rfl ?_)
        | (refine wpl_store HO2.out 0 rfl rfl intO (of_decide_eq_true rfl) rfl ?_; intro w3x hs; have hs9 : St _ _ _ (.row b 75 #[.slice (some a1) L.length cap1, .int .i64 (wrap64 ((t1 : Int) + 1)), .int .i64 m1, .int .i64 e1, .int .i64 p1] :: .hp (toksHp a1 L) :: _ :: _ :: []) := hs.out; rw [(rr_bound HR1.out).2.2] at hs9; have HS3x := Lib.hid hs9; clear hs hs9 HO2; have HS3 := Lib.hid (HS3x.out.rrClose (rr_step HR1.out HA.out)); clear HS3x)
        | (refine wpl_loadS HS3.out 1 rfl rfl tokT rfl ?_)
        | (refine wpl_storeS HS3.out 2 rfl rfl tokT rfl (fitsT _ _ _ _) ?_; intro w4 hs; have HS4 := Lib.hid (show St _ _ _ (_ :: _ :: _ :: []) from hs.out); clear hs HS3))
      refine bp_cell HS4.out 2 tokT rfl rfl rfl rfl rfl ⟨_, ⟨rfl, rfl⟩, HS4.out.sel [0] rfl⟩
    · rw [if_pos ht]
      clear hat
      go_enter Tryz.func66, Tryz.ntmps66
      go_wp2_with (first
        | (refine wpl_alloc HS.out _ rfl tokZ ?_; intro b_r w1 HS1; clear HS; obtain ⟨a1, cap1, t1, m1, e1, p1, hr, hs3⟩ := HS1.out.rrOpen; have HR1 := Lib.hid hr; have HO1 := Lib.hid hs3; clear hs3 hr; have he' : e1 = 0 := (by rw [HR1.out.he]; exact HX.out))
        | (refine wpl_load HO1.out 0 rfl rfl intO rfl ?_))
      have hb_1 := rr_bound HR1.out
      obtain ⟨hb0_1, hb1_1, hb2_1⟩ := hb_1
      refine wp_region_held_drew (S := fun w' => w'.cell? ⟨b, 0, none⟩ = some (.slice (some a1) L.length cap1) ∧ w'.cell? ⟨b, 1, none⟩ = some (.int .i64 (t1 : Int)) ∧ OnC w' (a1.add (t1 * 4)) (tkC (Sx.tk L σ))) (by kernel_rfl) (⟨HO1.out.drew.cell 0 rfl 0, HO1.out.drew.cell 0 rfl 1, toks_t ((HO1.out.drew.sep.pick 1 rfl).choose_spec.choose_spec.2.2.2.1) HR1.out⟩) (fun hHeld => ?_)
      refine tkH 0 ?_
      refine tkH 1 ?_
      refine tkH 2 ?_
      refine tkH 3 ?_
      refine tkH 4 ?_
      refine tkH 5 ?_
      refine tkH 6 ?_
      refine tkH 7 ?_
      refine tkH 8 ?_
      refine tkY 9 (yieldsIf_tok (by rfl) rfl (fun _ h => h.2.2)) ?_
      refine wpAnyH_ready (rs := [10]) (by kernel_rfl) (by simp) ?_
      refine AllReadyH.cons rfl (fun K hK => ?_) AllReadyH.nil
      (refine wp_alloc HO1.out.drew _ rfl tokZ ?_; intro b_2 w_2a HA2; clear HS1)
      refine hK.out _ _ (⟨HA2.out.cell 0 rfl 0, HA2.out.cell 0 rfl 1, toks_t ((HA2.out.sep.pick 2 rfl).choose_spec.choose_spec.2.2.2.1) HR1.out⟩) (fun hHeld => ?_)
      clear hK K
      (try simp only [Act.put, List.setIfInBounds_toArray, List.set_cons_zero, List.set_cons_succ, List.getElem_toArray, List.getElem_cons_succ, List.getElem_cons_zero])
      refine wpAnyH_ready (rs := [11]) (by kernel_rfl) (by simp) ?_
      refine AllReadyH.cons rfl (fun K hK => ?_) AllReadyH.nil
      (refine wp_storeS HA2.out 1 ⟨rfl, rfl⟩ rfl tokT rfl (fitsT _ _ _ _) ?_; intro w2 hs; have HT2 := Lib.hid (show St _ _ _ (_ :: _ :: _ :: _ :: []) from hs.out); clear hs HA2)
      refine hK.out _ _ (⟨HT2.out.cell 0 rfl 0, HT2.out.cell 0 rfl 1, toks_t ((HT2.out.sep.pick 2 rfl).choose_spec.choose_spec.2.2.2.1) HR1.out⟩) (fun hHeld => ?_)
      clear hK K
      (try simp only [Act.put, List.setIfInBounds_toArray, List.set_cons_zero, List.set_cons_succ, List.getElem_toArray, List.getElem_cons_succ, List.getElem_cons_zero])
      refine wpAnyH_done (by kernel_rfl) ?_ _
      have HO2 := Lib.hid (HT2.out.sel [0, 1, 0, 0] rfl)
      clear HT2
      go_wp2_with (first
        | (refine wpl_load HO2.out 2 rfl rfl intO rfl ?_)
        | (go_at_call 132; have HS2 := Lib.hid (HO2.out.rrClose HR1.out); refine (HS2.out.call1 C2.out).mono ?_; rintro e w3 ⟨J, ⟨rfl, rfl⟩, hs⟩; simp only [List.cons_append, List.nil_append] at hs; have HS3 := Lib.hid hs; clear hs HS2 HO2)
        | (refine wpl_storeS HS3.out 2 rfl rfl tokT rfl (fitsT 0 0 0 ⟨#[]⟩) ?_; intro w4 hs; have HS4 := Lib.hid (show St _ _ _ (_ :: _ :: _ :: []) from hs.out); clear hs HS3))
      refine bp_cell HS4.out 2 tokT rfl rfl rfl rfl rfl ⟨_, ⟨rfl, rfl⟩, HS4.out.sel [0] rfl⟩
  · rw [if_pos he]
    clear hat
    go_enter Tryz.func66, Tryz.ntmps66
    go_wp2_with (first
      | (refine wpl_alloc HS.out _ rfl tokZ ?_; intro b_r w1 HS1; clear HS; obtain ⟨a1, cap1, t1, m1, e1, p1, hr, hs3⟩ := HS1.out.rrOpen; have HR1 := Lib.hid hr; have HO1 := Lib.hid hs3; clear hs3 hr; have he' : ¬ e1 = 0 := (by rw [HR1.out.he]; exact he))
      | (refine wpl_load HO1.out 0 rfl rfl intO rfl ?_)
      | (refine wpl_storeS HS1.out 1 rfl rfl tokT rfl (fitsT 0 0 0 ⟨#[]⟩) ?_; intro w4 hs; have HS4 := Lib.hid (show St _ _ _ (_ :: _ :: []) from hs.out); clear hs HS1))
    refine bp_cell HS4.out 1 tokT rfl rfl rfl rfl rfl ⟨_, ⟨rfl, rfl⟩, HS4.out.sel [0] rfl⟩
end Go.Proofs.YtjfdcnggnldgdaaGreatDoor
end
