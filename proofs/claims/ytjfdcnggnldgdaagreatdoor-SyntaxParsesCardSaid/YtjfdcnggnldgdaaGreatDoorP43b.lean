/-
What the document's SameFunc tells of functions of which one is the other further on.
SyntaxJoins: two texts, and both with a line's end between.
-/
import Derived.Test.YtjfdcnggnldgdaaGreatDoorP24a
import Derived.Test.YtjfdcnggnldgdaaGreatDoorP41b
import Derived.Test.YtjfdcnggnldgdaaGreatDoorP11a
import Derived.Test.YtjfdcnggnldgdaaGreatDoorP09a
section
namespace Go.Proofs.YtjfdcnggnldgdaaGreatDoor
open Go.ChangeShapes Go.WideShapes Go.ChangeAt Go.RowKit
set_option linter.unusedVariables false
set_option linter.unusedSimpArgs false

mutual
theorem ssl_S : ∀ s : Sx.S, smS s → SSl s
  | .mk k p m nm ty ar bs cs h, hs => by
    rw [smS] at hs
    exact ⟨⟨same_E ar hs.1.2.1 hs.2.1, same_slist bs hs.1.2.2.1 (ssl_L bs hs.2.2.1), same_slist cs hs.1.2.2.2 (ssl_L cs hs.2.2.2)⟩, hs.1.1.1, hs.1.1.2⟩
theorem ssl_L : ∀ ss : List Sx.S, smSL ss → ∀ s ∈ ss, SSl s
  | [], _, s, hs => by cases hs
  | x :: ss, h, s, hs => by
    rw [smSL] at h
    rcases List.mem_cons.1 hs with h1 | h1
    · rw [h1]
      exact ssl_S x h.1
    · exact ssl_L ss h.2 s h1
end
theorem same_S (ss : List Sx.S) (hl : ss.length ≤ 281474976710656) (h : smSL ss) : SSt ss := same_slist ss hl (ssl_L ss h)
def psAt (w : World) (v : Value) (ps : List Sx.Pa) : Prop := ∃ P : Nat → Prop, (∀ k, P k → k < w.heap.size) ∧ OwnP w P 81 6 v ps.length (ps.flatMap paL)
def ssAt (w : World) (v : Value) (ss : List Sx.S) : Prop := ∃ xs, ∃ P : Nat → Prop, (∀ k, P k → k < w.heap.size) ∧ OwnP w P 53 11 v ss.length xs ∧ slOn w P ss xs
theorem ssAt.on {w : World} {v : Value} {ss : List Sx.S} (h : ssAt w v ss) : ssOn w v ss := by
  obtain ⟨xs, P, _, h1, h2⟩ := h
  exact ⟨xs, P, h1, h2⟩
theorem psAt.below {w w' : World} {v : Value} {ps : List Sx.Pa} (h : psAt w v ps) (hb : Below w.heap.size w w') : psAt w' v ps := by
  obtain ⟨P, h0, h1⟩ := h
  exact ⟨P, fun k hk => Nat.lt_of_lt_of_le (h0 k hk) hb.size, h1.mono (fun k hk => hb.block k (h0 k hk)) (fun _ h => h)⟩
theorem ssAt.below {w w' : World} {v : Value} {ss : List Sx.S} (h : ssAt w v ss) (hb : Below w.heap.size w w') : ssAt w' v ss := by
  obtain ⟨xs, P, h0, h1, h2⟩ := h
  exact ⟨xs, P, fun k hk => Nat.lt_of_lt_of_le (h0 k hk) hb.size, h1.mono (fun k hk => hb.block k (h0 k hk)) (fun _ h => h), slOn_mono (fun k hk => hb.block k (h0 k hk)) (fun _ h => h) ss xs h2⟩
theorem paL_len (x : Sx.Pa) : (paL x).length = 6 := rfl
theorem ps_cell : ∀ (ps : List Sx.Pa) (k : Nat) (x : Sx.Pa), ps[k]? = some x → ∀ j u, (paL x)[j]? = some u → (ps.flatMap paL)[k * 6 + j]? = some u
  | [], k, x, h => by cases h
  | y :: ps, 0, x, h => by
    cases h
    intro j u hj
    rw [List.flatMap_cons, Nat.zero_mul, Nat.zero_add]
    exact (List.getElem?_append_left (List.getElem?_eq_some_iff.1 hj).1).trans hj
  | y :: ps, k + 1, x, h => by
    intro j u hj
    rw [List.flatMap_cons, List.getElem?_append_right (by rw [paL_len]; omega), paL_len, show (k + 1) * 6 + j - 6 = k * 6 + j by omega]
    exact ps_cell ps k x (by simpa using h) j u hj
theorem ps_at {w : World} {v : Value} {ps : List Sx.Pa} (hh : psAt w v ps) : ∃ q cap, v = .slice q ps.length cap ∧ ∀ k x, ps[k]? = some x → ∃ a, q = some a ∧ OnC w (a.add (k * 6)) (paL x) := by
  obtain ⟨P, _, h1⟩ := hh
  by_cases h0 : ps.length = 0
  · obtain ⟨q, cap, hv⟩ := own_len h1
    refine ⟨q, cap, hv, fun k x hk => ?_⟩
    have := (List.getElem?_eq_some_iff.1 hk).1
    omega
  · obtain ⟨g, cap, hv, _, hc⟩ := own_on h1 h0
    refine ⟨_, cap, hv, fun k x hk => ⟨_, rfl, fun j u hj => ?_⟩⟩
    rw [Go.Deep.add_add]
    exact hc _ u (ps_cell ps k x hk j u hj)
theorem ps_get {w : World} {a : Addr} {n c k : Nat} {ps : List Sx.Pa} {x : Sx.Pa} (h : psAt w (.slice (some a) n c) ps) (hk : ps[k]? = some x) : OnC w (a.add (k * 6)) (paL x) := by
  obtain ⟨q, cap, e, g⟩ := ps_at h
  obtain ⟨a', r, h'⟩ := g k x hk
  injection e with e1
  rw [r] at e1
  injection e1 with e1
  rw [e1]; exact h'
theorem yieldsIf_onC {ops : Array Oper} {S : World → Prop} {o : Oper} {a : Act} {t : TypeId} {n : Nat} {p : Addr} {vs : List Value} (hw : Region.wanted o (yielded ops a.tmps) = true) (ho : ldOf a o = some (t, .pointer (some p))) (T : StructT t n) (hn : vs.length = n) (hS : ∀ w, S w → OnC w p vs) : YieldsIf Tryz.prog ops S o (.agg vs.toArray) a := by
  obtain ⟨hg, y, ho, hx⟩ := ldOf_eq ho
  obtain ⟨fs, hu⟩ := T.und
  refine Or.inl ⟨hw, fun w h => ?_⟩
  have hl := run_loadCells_list (P := Tryz.prog) w p vs (hS w h)
  have hr : (loadVar t p).run Tryz.prog w = .ok (.agg vs.toArray) w := by
    have hi := T.info
    cases hq : Tryz.prog.info? t with
    | none => rw [hq] at hi; cases hi
    | some i =>
      have hs : i.size = vs.length := by rw [hq] at hi; simpa [hn] using hi
      have hagg : (isAgg t).run Tryz.prog w = .ok true w := by
        unfold isAgg
        rw [Sem.run_bind, run_underlying hu w]
        rfl
      simp [loadVar, Sem.run_bind, hagg, sizeOf, typeInfo, hq, hs, hl]
  unfold execOp
  simp only [ho, hx, Instr.loadAt, Instr.sureAddr, Sem.run_bind, Sem.run_pure, Result.andThen_ok, hr]
/-- a part that says nothing -/
def trueI : It := .hp ⟨fun _ _ => True, fun _ _ _ _ _ => trivial, fun _ _ _ _ _ => trivial⟩
theorem st_true {w : World} (hT : TabAt w) : St (fun _ => False) w w [trueI] :=
  St.start ⟨fun _ h => h.elim, fun h => h, hT⟩ (Sep.cons (A := fun _ => False) (B := fun _ => False) trivial trivial (fun _ h => h.elim) (fun _ h => h.elim) (fun _ h => h.elim))
theorem fitsPa (x : Sx.Pa) : Fits 6 (paL x).toArray := fitsP _ _ _ _ _ _
theorem St.old {w0 w : World} {I : List It} (h : St (fun _ => False) w0 w I) : Below w0.heap.size w0 w := ⟨h.rest.os, h.rest.tape, h.rest.output, h.rest.size, fun k hk => h.rest.block k hk fun h => h⟩
set_option maxHeartbeats 8000000 in
set_option maxRecDepth 100000 in
theorem samef (f : Sx.F) (hf : smF f) (d : Nat) (w : World) (hT : TabAt w) (vp1 vb1 vp2 vb2 : Value) (hd : d ≤ 100000) (h1 : psAt w vp1 (f.params.map (Sx.Pa.on d))) (h2 : ssAt w vb1 (Sx.S.onL d f.body)) (h3 : psAt w vp2 f.params) (h4 : ssAt w vb2 f.body) :
    Calls Tryz.prog 35 #[(.agg (fnA (f.pos + (d : Int)) f.name vp1 f.has f.result.elem f.result.len f.result.label vb1)), (.agg (fnA f.pos f.name vp2 f.has f.result.elem f.result.len f.result.label vb2)), .int .i64 (d : Int)] w fun e w' => e = .returned (.bool true) ∧ Below w.heap.size w w' := by
  have hSt := Lib.hid (same_S f.body hf.2.2.2.1 hf.2.2.2.2)
  have HS := Lib.hid (st_true hT)
  obtain ⟨q1, c1, rfl, _⟩ := ps_at h1
  obtain ⟨q2, c2, rfl, _⟩ := ps_at h3
  rw [List.length_map] at h1 ⊢
  obtain ⟨qb1, cb1, rfl, _⟩ := ss_at h2.on
  obtain ⟨qb2, cb2, rfl, _⟩ := ss_at h4.on
  obtain ⟨fpos, fname, fps, fhas, ⟨te, tl, tb⟩, fbody⟩ := f
  obtain ⟨⟨hp1, hp2⟩, hpl, hps, -, -⟩ := hf
  simp only [] at hp1 hp2 hpl hps h1 h2 h3 h4 hSt ⊢
  obtain ⟨n, hn⟩ : ∃ n, fps.length = n := ⟨_, rfl⟩
  rw [hn] at h1 h3 hpl ⊢
  unfold Sx.sl at hpl
  have H1 := Lib.hid h1
  have H2 := Lib.hid h2
  have H3 := Lib.hid h3
  have H4 := Lib.hid h4
  have HN := Lib.hid hn
  have HP := Lib.hid hps
  have HD := Lib.hid hd
  have HB := Lib.hid hpl
  have hd0 : (0 : Int) ≤ (d : Int) := Int.natCast_nonneg d
  have hw : wrap64 (fpos + (d : Int)) = fpos + (d : Int) := by simp only [wrap64]; omega
  have hw2 : IntKind.i64.wrap (fpos + (d : Int)) = fpos + (d : Int) := by rw [IntKind.wrap_i64]; omega
  obtain ⟨pd, hpd⟩ : ∃ pd, fpos + (d : Int) = pd := ⟨_, rfl⟩
  have hw3 : wrap64 (fpos + (d : Int)) = pd := hw.trans hpd
  have hw4 : IntKind.i64.wrap (fpos + (d : Int)) = pd := hw2.trans hpd
  rw [hpd]
  have hT : ∀ w, (Op.equalIn 10000 47 (.agg #[.int .i64 te, .int .i64 tl, .int .i64 tb]) (.agg #[.int .i64 te, .int .i64 tl, .int .i64 tb])).run Tryz.prog w = .ok true w := fun w => by rw [ty_eq]; simp
  clear hw hw2 hpd h1 h2 h3 h4 hn hps hd hpl hp1 hp2
  go_enter Tryz.func35, Tryz.ntmps35
  go_wp2_with (first
    | (refine wpl_box HS.out rfl rfl ?_; intro b_a w1 HS1; clear HS)
    | (refine wpl_box HS1.out rfl rfl ?_; intro b_b w2 HS2; clear HS1; have b_a0 : w2.cell? ⟨b_a, 0, none⟩ = some (.int .i64 pd) := HS2.out.cell 2 rfl 0; have b_a1 : w2.cell? ⟨b_a, 1, none⟩ = some (.string (Lx.S fname)) := HS2.out.cell 2 rfl 1; have b_a2 : w2.cell? ⟨b_a, 2, none⟩ = some (.slice q1 n c1) := HS2.out.cell 2 rfl 2; have b_a3 : w2.cell? ⟨b_a, 3, none⟩ = some (.bool fhas) := HS2.out.cell 2 rfl 3; have b_a4 : w2.cell? ⟨b_a, 4, none⟩ = some (.int .i64 te) := HS2.out.cell 2 rfl 4; have b_a5 : w2.cell? ⟨b_a, 5, none⟩ = some (.int .i64 tl) := HS2.out.cell 2 rfl 5; have b_a6 : w2.cell? ⟨b_a, 6, none⟩ = some (.int .i64 tb) := HS2.out.cell 2 rfl 6; have b_a7 : w2.cell? ⟨b_a, 7, none⟩ = some (.slice qb1 (Sx.S.onL d fbody).length cb1) := HS2.out.cell 2 rfl 7; have b_b0 : w2.cell? ⟨b_b, 0, none⟩ = some (.int .i64 fpos) := HS2.out.cell 1 rfl 0; have b_b1 : w2.cell? ⟨b_b, 1, none⟩ = some (.string (Lx.S fname)) := HS2.out.cell 1 rfl 1; have b_b2 : w2.cell? ⟨b_b, 2, none⟩ = some (.slice q2 n c2) := HS2.out.cell 1 rfl 2; have b_b3 : w2.cell? ⟨b_b, 3, none⟩ = some (.bool fhas) := HS2.out.cell 1 rfl 3; have b_b4 : w2.cell? ⟨b_b, 4, none⟩ = some (.int .i64 te) := HS2.out.cell 1 rfl 4; have b_b5 : w2.cell? ⟨b_b, 5, none⟩ = some (.int .i64 tl) := HS2.out.cell 1 rfl 5; have b_b6 : w2.cell? ⟨b_b, 6, none⟩ = some (.int .i64 tb) := HS2.out.cell 1 rfl 6; have b_b7 : w2.cell? ⟨b_b, 7, none⟩ = some (.slice qb2 fbody.length cb2) := HS2.out.cell 1 rfl 7))
  have HL := Lib.hid (show St (fun _ => False) w w2 [trueI, .row b_b 50 (fnA fpos fname (.slice q2 n c2) fhas te tl tb (.slice qb2 fbody.length cb2)), .row b_a 50 (fnA pd fname (.slice q1 n c1) fhas te tl tb (.slice qb1 (Sx.S.onL d fbody).length cb1))] from HS2.out)
  clear HS2
  go_loopw [7] (fun K wr => ∃ k : Nat, k ≤ n ∧ K = .int .i64 (k : Int) ∧ Hid (St (fun _ => False) w wr [trueI, .row b_b 50 (fnA fpos fname (.slice q2 n c2) fhas te tl tb (.slice qb2 fbody.length cb2)), .row b_a 50 (fnA pd fname (.slice q1 n c1) fhas te tl tb (.slice qb1 (Sx.S.onL d fbody).length cb1))])) (fun K _ => n - (intOf K).toNat)
  case atStart => exact ⟨0, Nat.zero_le _, rfl, HL⟩
  case round =>
    obtain ⟨k, hk, rfl, HK⟩ := hrel
    clear HL
    by_cases hlt : k < n
    · have hltI : (k : Int) < (n : Int) := by omega
      obtain ⟨x, hx⟩ : ∃ x, fps[k]? = some x := ⟨_, List.getElem?_eq_getElem (by rw [HN.out]; exact hlt)⟩
      have hx1 : (fps.map (Sx.Pa.on d))[k]? = some (Sx.Pa.on d x) := by rw [List.getElem?_map, hx]; rfl
      obtain ⟨a1, e1⟩ : ∃ a, q1 = some a := by
        obtain ⟨q, cap, e, g⟩ := ps_at H1.out
        obtain ⟨a, r, _⟩ := g k _ hx1
        injection e with e1
        exact ⟨a, e1.trans r⟩
      obtain ⟨a2, e2⟩ : ∃ a, q2 = some a := by
        obtain ⟨q, cap, e, g⟩ := ps_at H3.out
        obtain ⟨a, r, _⟩ := g k _ hx
        injection e with e1
        exact ⟨a, e1.trans r⟩
      subst e1 e2
      have K1 := Lib.hid (fun w' (hb : Below w.heap.size w w') => ps_get (H1.out.below hb) hx1)
      have K2 := Lib.hid (fun w' (hb : Below w.heap.size w w') => ps_get (H3.out.below hb) hx)
      obtain ⟨hq1, hq2⟩ := HP.out x (List.mem_of_getElem? hx)
      obtain ⟨xpos, xname, ⟨xe, xl, xb⟩, xo⟩ := x
      simp only [Sx.Pa.on] at hq1 hq2 K1
      have hxw : wrap64 (xpos + (d : Int)) = xpos + (d : Int) := by have := HD.out; simp only [wrap64]; omega
      have hxw2 : IntKind.i64.wrap (xpos + (d : Int)) = xpos + (d : Int) := by have := HD.out; rw [IntKind.wrap_i64]; omega
      obtain ⟨xd, hxd⟩ : ∃ xd, xpos + (d : Int) = xd := ⟨_, rfl⟩
      have hx3 : wrap64 (xpos + (d : Int)) = xd := hxw.trans hxd
      have hx4 : IntKind.i64.wrap (xpos + (d : Int)) = xd := hxw2.trans hxd
      rw [hxd] at K1
      have hT2 : ∀ w, (Op.equalIn 10000 47 (.agg #[.int .i64 xe, .int .i64 xl, .int .i64 xb]) (.agg #[.int .i64 xe, .int .i64 xl, .int .i64 xb])).run Tryz.prog w = .ok true w := fun w => by rw [ty_eq]; simp
      have hk1 : wrap64 ((k : Int) + 1) = ((k + 1 : Nat) : Int) := by have := HB.out; simp only [wrap64]; omega
      have ca2 : wr.cell? ⟨b_a, 2, none⟩ = some (.slice (some a1) n c1) := HK.out.cell 2 rfl 2
      clear hxw hxw2 hxd hx hx1 hq1 hq2 hk
      go_wp2
      refine wp_region_held_drew (S := fun w' => w'.cell? ⟨b_a, 2, none⟩ = some (.slice (some a1) n c1) ∧ w'.cell? ⟨b_b, 2, none⟩ = some (.slice (some a2) n c2) ∧ OnC w' (a1.add (k * 6)) (paL ⟨xd, xname, ⟨xe, xl, xb⟩, xo⟩) ∧ OnC w' (a2.add (k * 6)) (paL ⟨xpos, xname, ⟨xe, xl, xb⟩, xo⟩)) (by kernel_rfl) (⟨HK.out.drew.cell 2 rfl 2, HK.out.drew.cell 1 rfl 2, K1.out _ HK.out.drew.old, K2.out _ HK.out.drew.old⟩) (fun hHeld => ?_)
      refine tkH 0 ?_
      refine tkH 1 ?_
      refine tkH 2 ?_
      refine tkH 3 ?_
      refine tkY 4 (yieldsIf_onC (by rfl) rfl paT rfl (fun _ h => h.2.2.1)) ?_
      refine tkH 5 ?_
      refine tkH 6 ?_
      refine tkH 7 ?_
      refine tkH 8 ?_
      refine tkY 9 (yieldsIf_onC (by rfl) rfl paT rfl (fun _ h => h.2.2.2)) ?_
      refine wpAnyH_ready (rs := [10, 11]) (by kernel_rfl) (by simp) ?_
      refine AllReadyH.cons rfl (fun K hK => ?_) (AllReadyH.cons rfl (fun K hK => ?_) AllReadyH.nil)
      · (refine wp_alloc HK.out.drew _ rfl paZ ?_; intro b_x w_1 HA1)
        refine hK.out _ _ (⟨HA1.out.cell 3 rfl 2, HA1.out.cell 2 rfl 2, K1.out _ HA1.out.old, K2.out _ HA1.out.old⟩) (fun hHeld => ?_)
        clear hK K
        (try simp only [Act.put, List.setIfInBounds_toArray, List.set_cons_zero, List.set_cons_succ, List.getElem_toArray, List.getElem_cons_succ, List.getElem_cons_zero])
        refine wpAnyH_ready (rs := [11]) (by kernel_rfl) (by simp) ?_
        refine AllReadyH.cons rfl (fun K hK => ?_) AllReadyH.nil
        (refine wp_alloc HA1.out _ rfl paZ ?_; intro b_y w_2 HA2)
        refine hK.out _ _ (⟨HA2.out.cell 4 rfl 2, HA2.out.cell 3 rfl 2, K1.out _ HA2.out.old, K2.out _ HA2.out.old⟩) (fun hHeld => ?_)
        clear hK K
        (try simp only [Act.put, List.setIfInBounds_toArray, List.set_cons_zero, List.set_cons_succ, List.getElem_toArray, List.getElem_cons_succ, List.getElem_cons_zero])
        refine wpAnyH_ready (rs := [12]) (by kernel_rfl) (by simp) ?_
        refine AllReadyH.cons rfl (fun K hK => ?_) AllReadyH.nil
        (refine wp_storeS HA2.out 2 ⟨rfl, rfl⟩ rfl paT rfl (fitsPa ⟨xd, xname, ⟨xe, xl, xb⟩, xo⟩) ?_; intro w_3 hs; have HA3 := Lib.hid (show St _ _ _ (_ :: _ :: _ :: _ :: _ :: []) from hs.out); clear hs)
        refine hK.out _ _ (⟨HA3.out.cell 4 rfl 2, HA3.out.cell 3 rfl 2, K1.out _ HA3.out.old, K2.out _ HA3.out.old⟩) (fun hHeld => ?_)
        clear hK K
        (try simp only [Act.put, List.setIfInBounds_toArray, List.set_cons_zero, List.set_cons_succ, List.getElem_toArray, List.getElem_cons_succ, List.getElem_cons_zero])
        refine wpAnyH_ready (rs := [13]) (by kernel_rfl) (by simp) ?_
        refine AllReadyH.cons rfl (fun K hK => ?_) AllReadyH.nil
        (refine wp_storeS HA3.out 1 ⟨rfl, rfl⟩ rfl paT rfl (fitsPa ⟨xpos, xname, ⟨xe, xl, xb⟩, xo⟩) ?_; intro w_4 hs; have HA4 := Lib.hid (show St _ _ _ (_ :: _ :: _ :: _ :: _ :: []) from hs.out); clear hs)
        refine hK.out _ _ (⟨HA4.out.cell 4 rfl 2, HA4.out.cell 3 rfl 2, K1.out _ HA4.out.old, K2.out _ HA4.out.old⟩) (fun hHeld => ?_)
        clear hK K
        (try simp only [Act.put, List.setIfInBounds_toArray, List.set_cons_zero, List.set_cons_succ, List.getElem_toArray, List.getElem_cons_succ, List.getElem_cons_zero])
        refine wpAnyH_done (by kernel_rfl) ?_ _
        have HE := Lib.hid (HA4.out.sel [0, 2, 2] rfl)
        have b_x0 : w_4.cell? ⟨b_x, 0, none⟩ = some (.int .i64 xd) := HA4.out.cell 2 rfl 0
        have b_x1 : w_4.cell? ⟨b_x, 1, none⟩ = some (.string (Lx.S xname)) := HA4.out.cell 2 rfl 1
        have b_x2 : w_4.cell? ⟨b_x, 2, none⟩ = some (.int .i64 xe) := HA4.out.cell 2 rfl 2
        have b_x3 : w_4.cell? ⟨b_x, 3, none⟩ = some (.int .i64 xl) := HA4.out.cell 2 rfl 3
        have b_x4 : w_4.cell? ⟨b_x, 4, none⟩ = some (.int .i64 xb) := HA4.out.cell 2 rfl 4
        have b_x5 : w_4.cell? ⟨b_x, 5, none⟩ = some (.bool xo) := HA4.out.cell 2 rfl 5
        have b_y0 : w_4.cell? ⟨b_y, 0, none⟩ = some (.int .i64 xpos) := HA4.out.cell 1 rfl 0
        have b_y1 : w_4.cell? ⟨b_y, 1, none⟩ = some (.string (Lx.S xname)) := HA4.out.cell 1 rfl 1
        have b_y2 : w_4.cell? ⟨b_y, 2, none⟩ = some (.int .i64 xe) := HA4.out.cell 1 rfl 2
        have b_y3 : w_4.cell? ⟨b_y, 3, none⟩ = some (.int .i64 xl) := HA4.out.cell 1 rfl 3
        have b_y4 : w_4.cell? ⟨b_y, 4, none⟩ = some (.int .i64 xb) := HA4.out.cell 1 rfl 4
        have b_y5 : w_4.cell? ⟨b_y, 5, none⟩ = some (.bool xo) := HA4.out.cell 1 rfl 5
        clear HA4 HA3 HA2 HA1 K1 K2
        go_wp2
        exact ⟨⟨k + 1, by omega, congrArg (Value.int .i64) hk1, HE⟩, by rw [hk1]; simp [intOf]; omega⟩
      · (refine wp_alloc HK.out.drew _ rfl paZ ?_; intro b_y w_1 HA1)
        refine hK.out _ _ (⟨HA1.out.cell 3 rfl 2, HA1.out.cell 2 rfl 2, K1.out _ HA1.out.old, K2.out _ HA1.out.old⟩) (fun hHeld => ?_)
        clear hK K
        (try simp only [Act.put, List.setIfInBounds_toArray, List.set_cons_zero, List.set_cons_succ, List.getElem_toArray, List.getElem_cons_succ, List.getElem_cons_zero])
        refine wpAnyH_ready (rs := [10]) (by kernel_rfl) (by simp) ?_
        refine AllReadyH.cons rfl (fun K hK => ?_) AllReadyH.nil
        (refine wp_alloc HA1.out _ rfl paZ ?_; intro b_x w_2 HA2)
        refine hK.out _ _ (⟨HA2.out.cell 4 rfl 2, HA2.out.cell 3 rfl 2, K1.out _ HA2.out.old, K2.out _ HA2.out.old⟩) (fun hHeld => ?_)
        clear hK K
        (try simp only [Act.put, List.setIfInBounds_toArray, List.set_cons_zero, List.set_cons_succ, List.getElem_toArray, List.getElem_cons_succ, List.getElem_cons_zero])
        refine wpAnyH_ready (rs := [12]) (by kernel_rfl) (by simp) ?_
        refine AllReadyH.cons rfl (fun K hK => ?_) AllReadyH.nil
        (refine wp_storeS HA2.out 1 ⟨rfl, rfl⟩ rfl paT rfl (fitsPa ⟨xd, xname, ⟨xe, xl, xb⟩, xo⟩) ?_; intro w_3 hs; have HA3 := Lib.hid (show St _ _ _ (_ :: _ :: _ :: _ :: _ :: []) from hs.out); clear hs)
        refine hK.out _ _ (⟨HA3.out.cell 4 rfl 2, HA3.out.cell 3 rfl 2, K1.out _ HA3.out.old, K2.out _ HA3.out.old⟩) (fun hHeld => ?_)
        clear hK K
        (try simp only [Act.put, List.setIfInBounds_toArray, List.set_cons_zero, List.set_cons_succ, List.getElem_toArray, List.getElem_cons_succ, List.getElem_cons_zero])
        refine wpAnyH_ready (rs := [13]) (by kernel_rfl) (by simp) ?_
        refine AllReadyH.cons rfl (fun K hK => ?_) AllReadyH.nil
        (refine wp_storeS HA3.out 2 ⟨rfl, rfl⟩ rfl paT rfl (fitsPa ⟨xpos, xname, ⟨xe, xl, xb⟩, xo⟩) ?_; intro w_4 hs; have HA4 := Lib.hid (show St _ _ _ (_ :: _ :: _ :: _ :: _ :: []) from hs.out); clear hs)
        refine hK.out _ _ (⟨HA4.out.cell 4 rfl 2, HA4.out.cell 3 rfl 2, K1.out _ HA4.out.old, K2.out _ HA4.out.old⟩) (fun hHeld => ?_)
        clear hK K
        (try simp only [Act.put, List.setIfInBounds_toArray, List.set_cons_zero, List.set_cons_succ, List.getElem_toArray, List.getElem_cons_succ, List.getElem_cons_zero])
        refine wpAnyH_done (by kernel_rfl) ?_ _
        have HE := Lib.hid (HA4.out.sel [0, 2, 2] rfl)
        have b_x0 : w_4.cell? ⟨b_x, 0, none⟩ = some (.int .i64 xd) := HA4.out.cell 1 rfl 0
        have b_x1 : w_4.cell? ⟨b_x, 1, none⟩ = some (.string (Lx.S xname)) := HA4.out.cell 1 rfl 1
        have b_x2 : w_4.cell? ⟨b_x, 2, none⟩ = some (.int .i64 xe) := HA4.out.cell 1 rfl 2
        have b_x3 : w_4.cell? ⟨b_x, 3, none⟩ = some (.int .i64 xl) := HA4.out.cell 1 rfl 3
        have b_x4 : w_4.cell? ⟨b_x, 4, none⟩ = some (.int .i64 xb) := HA4.out.cell 1 rfl 4
        have b_x5 : w_4.cell? ⟨b_x, 5, none⟩ = some (.bool xo) := HA4.out.cell 1 rfl 5
        have b_y0 : w_4.cell? ⟨b_y, 0, none⟩ = some (.int .i64 xpos) := HA4.out.cell 2 rfl 0
        have b_y1 : w_4.cell? ⟨b_y, 1, none⟩ = some (.string (Lx.S xname)) := HA4.out.cell 2 rfl 1
        have b_y2 : w_4.cell? ⟨b_y, 2, none⟩ = some (.int .i64 xe) := HA4.out.cell 2 rfl 2
        have b_y3 : w_4.cell? ⟨b_y, 3, none⟩ = some (.int .i64 xl) := HA4.out.cell 2 rfl 3
        have b_y4 : w_4.cell? ⟨b_y, 4, none⟩ = some (.int .i64 xb) := HA4.out.cell 2 rfl 4
        have b_y5 : w_4.cell? ⟨b_y, 5, none⟩ = some (.bool xo) := HA4.out.cell 2 rfl 5
        clear HA4 HA3 HA2 HA1 K1 K2
        go_wp2
        exact ⟨⟨k + 1, by omega, congrArg (Value.int .i64) hk1, HE⟩, by rw [hk1]; simp [intOf]; omega⟩
    · have hge : ¬ (k : Int) < (n : Int) := by omega
      have ca2 : wr.cell? ⟨b_a, 2, none⟩ = some (.slice q1 n c1) := HK.out.cell 2 rfl 2
      have ca7 : wr.cell? ⟨b_a, 7, none⟩ = some (.slice qb1 (Sx.S.onL d fbody).length cb1) := HK.out.cell 2 rfl 7
      have cb7 : wr.cell? ⟨b_b, 7, none⟩ = some (.slice qb2 fbody.length cb2) := HK.out.cell 1 rfl 7
      have CS := Lib.hid (hSt.out d wr _ _ HD.out (H2.out.below HK.out.old).on (H4.out.below HK.out.old).on)
      go_wp2_with (first
        | (go_at_call 73; refine CS.out.mono ?_; rintro e w9 ⟨rfl, m, rfl⟩))
      go_ret
      exact ⟨rfl, (HK.out.drewN m).old⟩
end Go.Proofs.YtjfdcnggnldgdaaGreatDoor
end
section
namespace Go.Proofs.YtjfdcnggnldgdaaGreatDoor
open Go.ChangeShapes Go.WideShapes Go.ChangeAt Go.RowKit
set_option linter.unusedVariables false
set_option linter.unusedSimpArgs false

mutual
theorem on0_E : ∀ e : Sx.E, Sx.E.on 0 e = e
  | .mk k p n nm ar => by rw [Sx.on_mk, on0_L ar]; simp
theorem on0_L : ∀ es : List Sx.E, Sx.E.onL 0 es = es
  | [] => Sx.onL_nil 0
  | e :: es => by rw [Sx.onL_cons, on0_E e, on0_L es]
end
mutual
theorem on0_S : ∀ s : Sx.S, Sx.S.on 0 s = s
  | .mk k p m nm ty ar bs cs h => by rw [Sx.onS_mk, on0_L ar, on0_SL bs, on0_SL cs]; simp
theorem on0_SL : ∀ ss : List Sx.S, Sx.S.onL 0 ss = ss
  | [] => Sx.onSL_nil 0
  | s :: ss => by rw [Sx.onSL_cons, on0_S s, on0_SL ss]
end
theorem on0_P (ps : List Sx.Pa) : ps.map (Sx.Pa.on 0) = ps := by
  induction ps with
  | nil => rfl
  | cons p ps ih => rw [List.map_cons, ih]; unfold Sx.Pa.on; simp
theorem samef0 (f : Sx.F) (hf : smF f) (w : World) (hT : TabAt w) (vp1 vb1 vp2 vb2 : Value) (h1 : psAt w vp1 f.params) (h2 : ssAt w vb1 f.body) (h3 : psAt w vp2 f.params) (h4 : ssAt w vb2 f.body) :
    Calls Tryz.prog 35 #[(.agg (fnA f.pos f.name vp1 f.has f.result.elem f.result.len f.result.label vb1)), (.agg (fnA f.pos f.name vp2 f.has f.result.elem f.result.len f.result.label vb2)), .int .i64 0] w fun e w' => e = .returned (.bool true) ∧ Below w.heap.size w w' := by
  have h := samef f hf 0 w hT vp1 vb1 vp2 vb2 (by omega) (by rw [on0_P]; exact h1) (by rw [on0_SL]; exact h2) h3 h4
  rw [show f.pos + ((0 : Nat) : Int) = f.pos by simp] at h
  exact h
theorem fl_at {w : World} {P : Nat → Prop} : ∀ (fs : List Sx.F) (xs : List Value) (k : Nat) (f : Sx.F), flOn w P fs xs → fs[k]? = some f → ∃ vp vb, (∀ j u, (fnA f.pos f.name vp f.has f.result.elem f.result.len f.result.label vb).toList[j]? = some u → xs[k * 8 + j]? = some u) ∧ OwnP w P 81 6 vp f.params.length (f.params.flatMap paL) ∧ ∃ xb, OwnP w P 53 11 vb f.body.length xb ∧ slOn w P f.body xb
  | [], xs, k, f, h, hk => by cases hk
  | x :: fs, xs, 0, f, ⟨c, r, hx, h1, _⟩, hk => by
    cases hk
    obtain ⟨vp, vb, xb, rfl, h2, h3⟩ := h1
    subst hx
    refine ⟨vp, vb, fun j u hj => ?_, h2, xb, h3⟩
    rw [Nat.zero_mul, Nat.zero_add]
    exact (List.getElem?_append_left (List.getElem?_eq_some_iff.1 hj).1).trans hj
  | x :: fs, xs, k + 1, f, ⟨c, r, hx, h1, h2⟩, hk => by
    obtain ⟨vp, vb, h3, h4⟩ := fl_at fs r k f h2 (by simpa using hk)
    obtain ⟨_, _, _, rfl, _⟩ := h1
    subst hx
    refine ⟨vp, vb, fun j u hj => ?_, h4⟩
    rw [List.getElem?_append_right (by show 8 ≤ _; omega), show (k + 1) * 8 + j - (fnA x.pos x.name _ x.has x.result.elem x.result.len x.result.label _).toList.length = k * 8 + j from by show (k + 1) * 8 + j - 8 = _; omega]
    exact h3 j u hj
theorem St.fsGet {X : Nat → Prop} {w0 w : World} {I : List It} (h : St X w0 w I) (i : Nat) {q : Option Addr} {n c : Nat} {fs : List Sx.F} (hi : I[i]? = some (fsI (.slice q n c) fs)) {k : Nat} {f : Sx.F} (hk : fs[k]? = some f) :
    ∃ a vp vb, q = some a ∧ OnC w (a.add (k * 8)) (fnA f.pos f.name vp f.has f.result.elem f.result.len f.result.label vb).toList ∧ psAt w vp f.params ∧ ssAt w vb f.body := by
  obtain ⟨A, B, p1, p2, p3, ⟨xs, C, D, q1, q2, q3, ho, E, F, r1, r2, r3, hf, _⟩, _⟩ := Sep.pick i h.sep hi
  have h0 : fs.length ≠ 0 := by have := (List.getElem?_eq_some_iff.1 hk).1; omega
  obtain ⟨g, cap, hv, _, hc⟩ := own_on ho h0
  injection hv with hv1 hv2 hv3
  obtain ⟨vp, vb, h3, h4, xb, h5, h6⟩ := fl_at fs xs k f hf hk
  have hb : ∀ k, E k → k < w.heap.size := fun k hk => (p1 k (q2 k (r1 k hk))).1
  refine ⟨⟨g, 0, none⟩, vp, vb, hv1, fun j u hj => ?_, ⟨E, hb, h4⟩, ⟨xb, E, hb, h5, h6⟩⟩
  rw [Go.Deep.add_add]
  exact hc _ u (h3 j u hj)
theorem St.belowJ {X : Nat → Prop} {w0 w w' : World} {I : List It} (h : St X w0 w I) (hb : Below w.heap.size w w') : St X w0 w' I :=
  ⟨h.gd, ⟨hb.os.trans h.rest.os, hb.tape.trans h.rest.tape, hb.output.trans h.rest.output, Nat.le_trans h.rest.size hb.size, fun k hk hx => (hb.block k (Nat.lt_of_lt_of_le hk h.rest.size)).trans (h.rest.block k hk hx)⟩,
    (h.sep.loc fun k hk => hb.block k hk.1).wide fun k hk => ⟨Nat.lt_of_lt_of_le hk.1 hb.size, hk.2⟩⟩
theorem joins_big {s : ByteArray} {fs : List Sx.F} (h : Sx.parse s.data.toList = .ok fs) : (∀ x ∈ fs, smF x) ∧ fs.length ≤ 281474976710656 := Sx.parse_small h fun L hL => (Lx.lex_ok' hL).len
end Go.Proofs.YtjfdcnggnldgdaaGreatDoor
end
