/-
Parse as a function on parts; the law's examples.
-/
import Derived.Test.YtbnhegipdfkdgaaDoorP37a
namespace Go.Proofs.YtbnhegipdfkdgaaDoor
open Go.ChangeShapes Go.WideShapes Go.ChangeAt Go.RowKit
set_option linter.unusedVariables false
set_option linter.unusedSimpArgs false

/-- what Parse tells, as parts -/
def PJ (r : Except (Int × Int) (List Sx.F)) (v : Value) (x p : Int) (J : List It) : Prop :=
  match r with
  | .error (e, n) => v = .slice none 0 0 ∧ x = e ∧ p = n ∧ J = []
  | .ok fs => x = 0 ∧ p = 0 ∧ J = [fsI v fs]
theorem parse_Fn (s : ByteArray) (hs : s.size ≤ 281474976710656) : Fn 7 #[.string s] [] fun e J => ∃ (q : Option Addr) (l c : Nat) (x p : Int), e = .returned (.tuple #[.agg #[.slice q l c], .agg (bdA x p)]) ∧ PJ (Sx.parse s.data.toList) (.slice q l c) x p J := by
  intro w P hP h0
  refine (parse_any s hs w hP.tab).mono ?_
  rintro e w' ⟨q, l, c, x, p, rfl, hr, hb⟩
  have hst : St P w w' [] := ⟨hP, ⟨hb.os, hb.tape, hb.output, hb.size, fun k hk _ => hb.block k hk⟩, trivial⟩
  cases hp : Sx.parse s.data.toList with
  | error e =>
    rw [hp] at hr
    exact ⟨[], ⟨q, l, c, x, p, rfl, hr.1, hr.2.1, hr.2.2, rfl⟩, hst⟩
  | ok fs =>
    rw [hp] at hr
    refine ⟨[fsI (.slice q l c) fs], ⟨q, l, c, x, p, rfl, hr.1, hr.2.1, rfl⟩, hst.gd, hst.rest, ?_⟩
    exact Sep.cons (A := fun k => w.heap.size ≤ k ∧ k < w'.heap.size) (B := fun _ => False) hr.2.2 trivial (fun k hk => ⟨hk.2, Or.inr hk.1⟩) (fun _ h => h.elim) (fun _ _ h => h)
theorem fs_len {w : World} {P : Nat → Prop} {v : Value} {fs : List Sx.F} (h : (fsI v fs).on w P) : ∃ q cap, v = .slice q fs.length cap := by
  obtain ⟨xs, A, B, h1, h2, h3, h4, h5⟩ := h
  exact own_len h4
theorem parse_is (s : ByteArray) (hs : s.size ≤ 281474976710656) {fs : List Sx.F} (h : Sx.parse s.data.toList = .ok fs) : Fn 7 #[.string s] [] fun e J => ∃ (q : Option Addr) (c : Nat), e = .returned (.tuple #[.agg #[.slice q fs.length c], .agg (bdA 0 0)]) ∧ J = [fsI (.slice q fs.length c) fs] := by
  intro w P hP h0
  refine (parse_Fn s hs w P hP h0).mono ?_
  rintro e w' ⟨J, ⟨q, l, c, x, p, rfl, hj⟩, hst⟩
  rw [h] at hj
  obtain ⟨rfl, rfl, rfl⟩ := hj
  obtain ⟨A, B, h1, h2, h3, h4, h5⟩ := hst.sep
  obtain ⟨q', c', hv⟩ := fs_len h4
  cases hv
  exact ⟨_, ⟨q, c, rfl, rfl⟩, hst⟩
theorem parse_no (s : ByteArray) (hs : s.size ≤ 281474976710656) {er n : Int} (h : Sx.parse s.data.toList = .error (er, n)) : Fn 7 #[.string s] [] fun e J => e = .returned (.tuple #[.agg #[.slice none 0 0], .agg (bdA er n)]) ∧ J = [] := by
  intro w P hP h0
  refine (parse_Fn s hs w P hP h0).mono ?_
  rintro e w' ⟨J, ⟨q, l, c, x, p, rfl, hj⟩, hst⟩
  rw [h] at hj
  obtain ⟨hv, rfl, rfl, rfl⟩ := hj
  cases hv
  exact ⟨_, ⟨rfl, rfl⟩, hst⟩
theorem wpl_loadC {ops : Array Oper} {rest : List Oper} {o : Oper} {a : Act} {w : World} {Q : Exit → Act → World → Prop} {t : TypeId} {n : Nat} {p : Addr} {vs : List Value} (h : OnC w p vs) (ho : ldOf a o = some (t, .pointer (some p))) (T : StructT t n) (hn : vs.length = n)
    (k : wpList Tryd.prog ops Q rest (a.put o.dst (.agg vs.toArray)) w) : wpList Tryd.prog ops Q (o :: rest) a w := by
  obtain ⟨hg, y, ho, hx⟩ := ldOf_eq ho
  refine wpList_plain hg fun K hK => ?_
  obtain ⟨fs, hu⟩ := T.und
  have hl := run_loadCells_list (P := Tryd.prog) w p vs h
  have hr : (loadVar t p).run Tryd.prog w = .ok (.agg vs.toArray) w := by
    have hi := T.info
    cases hq : Tryd.prog.info? t with
    | none => rw [hq] at hi; cases hi
    | some i =>
      have hs : i.size = vs.length := by rw [hq] at hi; simpa [hn] using hi
      have hagg : (isAgg t).run Tryd.prog w = .ok true w := by
        unfold isAgg
        rw [Sem.run_bind, run_underlying hu w]
        rfl
      simp [loadVar, Sem.run_bind, hagg, sizeOf, typeInfo, hq, hs, hl]
  unfold Oper.wp execOp
  simp only [ho, hx, Instr.loadAt, Instr.sureAddr, Sem.run_bind, Sem.run_pure, Result.andThen_ok, hr]
  exact hK _ _ k
/-- a row's own cells, as they lie -/
theorem own_on {w : World} {P : Nat → Prop} {t : TypeId} {sz n : Nat} {v : Value} {xs : List Value} (h : OwnP w P t sz v n xs) (hn : n ≠ 0) : ∃ g cap, v = .slice (some ⟨g, 0, none⟩) n cap ∧ P g ∧ OnC w ⟨g, 0, none⟩ xs := by
  obtain ⟨⟨h1, h2⟩, h3⟩ := h
  rcases h2 with ⟨rfl, h0⟩ | ⟨g, cap, cur, rfl, h4, h5, h6, h7, h8, h9⟩
  · exact absurd h0 hn
  · refine ⟨g, cap, rfl, h3 g rfl, fun j u hj => ?_⟩
    have h2 : (⟨g, 0, none⟩ : Addr).add j = ⟨g, j, none⟩ := by unfold Addr.add; split <;> simp_all
    rw [h2, cell_of_row w g j _ _ _ h5, ← Array.getElem?_toList]
    rw [← h9] at hj
    rw [List.getElem?_take] at hj
    split at hj
    · exact hj
    · cases hj
/-! ### the examples -/
def litA : ByteArray := ⟨#[102, 110, 32, 102, 40, 41, 32, 123, 32, 120, 32, 61, 32, 49, 32, 43, 32, 50, 32, 42, 32, 121, 59, 32, 125]⟩
def litB : ByteArray := ⟨#[102, 110, 32, 102, 40, 41, 32, 123, 32, 120, 32, 61, 32, 97, 32, 60, 32, 98, 32, 60, 32, 99, 59, 32, 125]⟩
def litEs : List Sx.E := [.mk 1 13 1 [] [], .mk 10 19 0 [] [.mk 1 17 2 [] [], .mk 2 21 0 [121] []]]
def litF : Sx.F := ⟨3, [102], [], false, Sx.noTy, [.mk 3 9 0 [120] Sx.noTy [.mk 8 15 0 [] litEs] [] [] false]⟩
theorem lit_good : Sx.parse litA.data.toList = .ok [litF] := by kernel_rfl
theorem lit_less : Sx.parse litB.data.toList = .error (10, 19) := by kernel_rfl
/-- the first example's tree, where it lies -/
def litI (g1 g2 g3 g4 c2 c3 c4 : Nat) : It := .hp
  { on := fun w P => P g1 ∧ P g2 ∧ P g3 ∧ P g4 ∧ w.cell? ⟨g1, 7, none⟩ = some (.slice (some ⟨g2, 0, none⟩) 1 c2) ∧ w.cell? ⟨g2, 7, none⟩ = some (.slice (some ⟨g3, 0, none⟩) 1 c3) ∧ OnC w ⟨g3, 0, none⟩ [.int .i64 8, .int .i64 15, .int .i64 0, .string (Lx.S []), .slice (some ⟨g4, 0, none⟩) 2 c4] ∧ w.cell? ⟨g4, 5, none⟩ = some (.int .i64 10)
    loc := fun w w' P ⟨h1, h2, h3, h4, h5, h6, h7, h8⟩ e => ⟨h1, h2, h3, h4, (World.cell?_of_block (w := w) (w' := w') (e _ h1)).trans h5, (World.cell?_of_block (w := w) (w' := w') (e _ h2)).trans h6, fun j u hj => by
      rw [World.cell?_of_block (w := w) (w' := w') (e _ (show P ((⟨g3, 0, none⟩ : Addr).add j).block from by rw [show ((⟨g3, 0, none⟩ : Addr).add j).block = g3 from by unfold Addr.add; split <;> rfl]; exact h3))]; exact h7 j u hj, (World.cell?_of_block (w := w) (w' := w') (e _ h4)).trans h8⟩
    wide := fun w P P' ⟨h1, h2, h3, h4, h5⟩ f => ⟨f _ h1, f _ h2, f _ h3, f _ h4, h5⟩ }
theorem OnC.at0 {w : World} {g : Nat} {xs : List Value} (h : OnC w ⟨g, 0, none⟩ xs) (j : Nat) {u : Value} (hj : xs[j]? = some u) : w.cell? ⟨g, j, none⟩ = some u := by
  have h1 := h j u hj
  rwa [show (⟨g, 0, none⟩ : Addr).add j = ⟨g, j, none⟩ from by unfold Addr.add; split <;> simp_all] at h1
theorem lit_open {w : World} {P : Nat → Prop} {v : Value} (h : (fsI v [litF]).on w P) : ∃ g1 g2 g3 g4 c1 c2 c3 c4, v = .slice (some ⟨g1, 0, none⟩) 1 c1 ∧ (litI g1 g2 g3 g4 c2 c3 c4).on w P := by
  obtain ⟨xs, A, B, h1, h2, h3, h4, C, D, h5, h6, h7, h8, h9⟩ := h
  obtain ⟨g1, c1, rfl, k1, k2⟩ := own_on h4 (by decide)
  obtain ⟨c, r, rfl, ⟨vp, vb, xb, rfl, m1, m2, m3⟩, rfl⟩ := h8
  obtain ⟨g2, c2, rfl, k3, k4⟩ := own_on m2 (by decide)
  change slOn w C [Sx.S.mk 3 9 0 [120] Sx.noTy [.mk 8 15 0 [] litEs] [] [] false] xb at m3
  rw [slOn] at m3
  obtain ⟨c, r, rfl, m4, _⟩ := m3
  rw [stOn] at m4
  obtain ⟨va, vb2, ve, xa, xb2, xe, rfl, ⟨m5, m6⟩, _, _⟩ := m4
  obtain ⟨g3, c3, rfl, k5, k6⟩ := own_on m5 (by decide)
  rw [elOn] at m6
  obtain ⟨c, r, rfl, m7, _⟩ := m6
  rw [exOn] at m7
  obtain ⟨v4, x4, rfl, m8, m9⟩ := m7
  obtain ⟨g4, c4, rfl, k7, k8⟩ := own_on m8 (by decide)
  unfold litEs at m9
  rw [elOn] at m9
  obtain ⟨ca, r, rfl, m10, m11⟩ := m9
  have hca := exOn_len _ _ m10
  rw [elOn] at m11
  obtain ⟨cb, r, rfl, m12, _⟩ := m11
  rw [exOn] at m12
  obtain ⟨v5, x5, rfl, _⟩ := m12
  refine ⟨g1, g2, g3, g4, c1, c2, c3, c4, rfl, h1 _ k1, h2 _ (h5 _ k3), h2 _ (h5 _ k5), h2 _ (h5 _ k7), k2.at0 7 rfl, k4.at0 7 rfl, fun j u hj => k6 j u ?_, k8.at0 5 ?_⟩
  · exact (List.getElem?_append_left (List.getElem?_eq_some_iff.1 hj).1).trans hj
  · rw [List.getElem?_append_right (by omega), hca]; rfl
set_option maxHeartbeats 8000000 in
set_option maxRecDepth 100000 in
theorem lives_Fn : Fn 6 #[] [] fun e J => e = .returned (.bool true) ∧ J = [] := by
  intro w P hP h0
  have HS := Lib.hid (St.start hP h0)
  have C1 := Lib.hid (parse_is litA (by decide) lit_good)
  have C2 := Lib.hid (parse_no litB (by decide) lit_less)
  have tok1 : True := trivial
  have E1 : ∀ w, (Op.equalIn 10000 28 (.agg #[.int .i64 0, .int .i64 0]) (.agg #[.int .i64 0, .int .i64 0])).run Tryd.prog w = .ok true w := fun w => bad_eq 0 0 0 0 w
  have E2 : ∀ w, (Op.equalIn 10000 28 (.agg #[.int .i64 10, .int .i64 19]) (.agg #[.int .i64 10, .int .i64 19])).run Tryd.prog w = .ok true w := fun w => bad_eq 10 19 10 19 w
  clear h0 hP
  go_enter Tryd.func6, Tryd.ntmps6
  go_wp2_with (first
    | (go_at_call 7; have _t := tok1; refine (St.call (pre := []) HS.out C1.out).mono ?_; rintro e w1 ⟨J, ⟨q, c1, rfl, rfl⟩, hs⟩; simp only [List.cons_append, List.nil_append] at hs; obtain ⟨A, B, hA, hB, hAB, hfs, hrest⟩ := hs.sep; obtain ⟨g1, g2, g3, g4, c1', c2, c3, c4, hv, hli⟩ := lit_open hfs; cases hv; have HS1 := Lib.hid (show St _ _ _ [litI g1 g2 g3 g4 c2 c3 c4] from ⟨hs.gd, hs.rest, A, B, hA, hB, hAB, hli, hrest⟩); clear hs tok1 HS hA hB hAB hfs hrest hli)
    | (go_at_call 7; refine (St.call (pre := []) HS4.out C2.out).mono ?_; rintro e w5 ⟨J, ⟨rfl, rfl⟩, hs⟩; simp only [List.cons_append, List.nil_append] at hs; have HS5 := Lib.hid hs; clear hs HS4)
    | (first | (refine wpl_alloc HS1.out _ rfl pgZ ?_; intro b1 w2 HSa; clear HS1) | (refine wpl_alloc HSa.out _ rfl bdZ ?_; intro b2 w2 HS2; clear HSa) | (refine wpl_alloc HS5.out _ rfl pgZ ?_; intro b6 w6 HS6; clear HS5) | (refine wpl_alloc HS6.out _ rfl bdZ ?_; intro b7 w7 HS7; clear HS6) | (refine wpl_alloc HS9.out _ rfl exZ ?_; intro b10 w10 HS10; clear HS9))
    | (first | (refine wpl_storeS HS2.out 2 rfl rfl pgT rfl fitsG ?_; intro w3 hs; have HS3 := Lib.hid (show St _ _ _ (_ :: _ :: _ :: []) from hs.out); clear hs HS2) | (refine wpl_storeS HS3.out 1 rfl rfl badT rfl (fitsB _ _) ?_; intro w4 hs; have HS4 := Lib.hid (show St _ _ _ (_ :: _ :: _ :: []) from hs.out); clear hs HS3) | (refine wpl_storeS HS7.out 2 rfl rfl pgT rfl fitsG ?_; intro w8 hs; have HS8 := Lib.hid (show St _ _ _ (_ :: _ :: _ :: _ :: _ :: []) from hs.out); clear hs HS7) | (refine wpl_storeS HS8.out 1 rfl rfl badT rfl (fitsB _ _) ?_; intro w9 hs; have HS9 := Lib.hid (show St _ _ _ (_ :: _ :: _ :: _ :: _ :: []) from hs.out); clear hs HS8; obtain ⟨u1, u2, u3, u4, t1, t2, t3, t4⟩ := (HS9.out.sep.pick 0 rfl).choose_spec.choose_spec.2.2.2.1; clear u1 u2 u3 u4; have f1 : w9.cell? ⟨b1, 0, none⟩ = some (.slice (some ⟨g1, 0, none⟩) 1 c1) := HS9.out.cell 4 rfl 0; have HT := Lib.hid t3; have q3 := t3.at0 4 rfl; clear t3) | (refine wpl_storeS HS10.out 1 rfl rfl exT rfl fitsX' ?_; intro w11 hs; have HS11 := Lib.hid (show St _ _ _ (_ :: _ :: _ :: _ :: _ :: _ :: []) from hs.out); clear hs HS10; obtain ⟨u1, u2, u3, u4, s1, s2, s3, s4⟩ := (HS11.out.sep.pick 0 rfl).choose_spec.choose_spec.2.2.2.1; clear u1 u2 u3 u4; have e0 : w11.cell? ⟨b10, 0, none⟩ = some (.int .i64 8) := HS11.out.cell 1 rfl 0; have e1 : w11.cell? ⟨b10, 1, none⟩ = some (.int .i64 15) := HS11.out.cell 1 rfl 1; have e4 : w11.cell? ⟨b10, 4, none⟩ = some (.slice (some ⟨g4, 0, none⟩) 2 c4) := HS11.out.cell 1 rfl 4; have d0 : w11.cell? ⟨b7, 0, none⟩ = some (.int .i64 10) := HS11.out.cell 2 rfl 0; have d1 : w11.cell? ⟨b7, 1, none⟩ = some (.int .i64 19) := HS11.out.cell 2 rfl 1; clear s1 s2 s3))
    | (refine wpl_loadS HS9.out 3 rfl rfl badT rfl ?_)
    | (refine wpl_loadC HT.out rfl exT rfl ?_))
  go_ret
  exact ⟨_, ⟨rfl, rfl⟩, HS11.out.sel [] rfl⟩
end Go.Proofs.YtbnhegipdfkdgaaDoor
