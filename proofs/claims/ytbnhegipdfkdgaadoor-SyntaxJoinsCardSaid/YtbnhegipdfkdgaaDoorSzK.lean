/-
  SyntaxJoins: two texts, and both with a line's end between.
-/
import Derived.Test.YtbnhegipdfkdgaaDoorSzJ
import Derived.Test.YtbnhegipdfkdgaaDoorP39a
import Derived.Test.YtbnhegipdfkdgaaDoorP14a
namespace Go.Proofs.YtbnhegipdfkdgaaDoor
open Go.ChangeShapes Go.WideShapes Go.ChangeAt Go.RowKit
set_option linter.unusedVariables false
set_option linter.unusedSimpArgs false

/-! ### nothing further on -/
mutual
theorem on0_E : ∀ e : Sx.E, Sx.E.on 0 e = e
  | .mk k p n nm ar => by rw [Sx.on_mk, on0_L ar]; simp
theorem on0_L : ∀ es : List Sx.E, Sx.E.onL 0 es = es
  | [] => Sx.onL_nil 0
  | e :: es => by rw [Sx.onL_cons, on0_E e, on0_L es]
end
mutual
theorem on0_S : ∀ s : Sx.S, Sx.S.on 0 s = s
  | .mk k p m nm ty ar bs cs h => by rw [Sx.onS_mk, on0_L ar, on0_SL bs, on0_SL cs]; simp
theorem on0_SL : ∀ ss : List Sx.S, Sx.S.onL 0 ss = ss
  | [] => Sx.onSL_nil 0
  | s :: ss => by rw [Sx.onSL_cons, on0_S s, on0_SL ss]
end
theorem on0_P (ps : List Sx.Pa) : ps.map (Sx.Pa.on 0) = ps := by
  induction ps with
  | nil => rfl
  | cons p ps ih => rw [List.map_cons, ih]; unfold Sx.Pa.on; simp
theorem samef0 (f : Sx.F) (hf : smF f) (w : World) (hT : TabAt w) (vp1 vb1 vp2 vb2 : Value) (h1 : psAt w vp1 f.params) (h2 : ssAt w vb1 f.body) (h3 : psAt w vp2 f.params) (h4 : ssAt w vb2 f.body) :
    Calls Tryd.prog 8 #[(.agg (fnA f.pos f.name vp1 f.has f.result.elem f.result.len f.result.label vb1)), (.agg (fnA f.pos f.name vp2 f.has f.result.elem f.result.len f.result.label vb2)), .int .i64 0] w fun e w' => e = .returned (.bool true) ∧ Below w.heap.size w w' := by
  have h := samef f hf 0 w hT vp1 vb1 vp2 vb2 (by omega) (by rw [on0_P]; exact h1) (by rw [on0_SL]; exact h2) h3 h4
  rw [show f.pos + ((0 : Nat) : Int) = f.pos by simp] at h
  exact h
/-! ### functions in a list -/
theorem fl_at {w : World} {P : Nat → Prop} : ∀ (fs : List Sx.F) (xs : List Value) (k : Nat) (f : Sx.F), flOn w P fs xs → fs[k]? = some f → ∃ vp vb, (∀ j u, (fnA f.pos f.name vp f.has f.result.elem f.result.len f.result.label vb).toList[j]? = some u → xs[k * 8 + j]? = some u) ∧ OwnP w P 53 6 vp f.params.length (f.params.flatMap paL) ∧ ∃ xb, OwnP w P 42 11 vb f.body.length xb ∧ slOn w P f.body xb
  | [], xs, k, f, h, hk => by cases hk
  | x :: fs, xs, 0, f, ⟨c, r, hx, h1, _⟩, hk => by
    cases hk
    obtain ⟨vp, vb, xb, rfl, h2, h3⟩ := h1
    subst hx
    refine ⟨vp, vb, fun j u hj => ?_, h2, xb, h3⟩
    rw [Nat.zero_mul, Nat.zero_add]
    exact (List.getElem?_append_left (List.getElem?_eq_some_iff.1 hj).1).trans hj
  | x :: fs, xs, k + 1, f, ⟨c, r, hx, h1, h2⟩, hk => by
    obtain ⟨vp, vb, h3, h4⟩ := fl_at fs r k f h2 (by simpa using hk)
    obtain ⟨_, _, _, rfl, _⟩ := h1
    subst hx
    refine ⟨vp, vb, fun j u hj => ?_, h4⟩
    rw [List.getElem?_append_right (by show 8 ≤ _; omega), show (k + 1) * 8 + j - (fnA x.pos x.name _ x.has x.result.elem x.result.len x.result.label _).toList.length = k * 8 + j from by show (k + 1) * 8 + j - 8 = _; omega]
    exact h3 j u hj
theorem St.fsGet {X : Nat → Prop} {w0 w : World} {I : List It} (h : St X w0 w I) (i : Nat) {q : Option Addr} {n c : Nat} {fs : List Sx.F} (hi : I[i]? = some (fsI (.slice q n c) fs)) {k : Nat} {f : Sx.F} (hk : fs[k]? = some f) :
    ∃ a vp vb, q = some a ∧ OnC w (a.add (k * 8)) (fnA f.pos f.name vp f.has f.result.elem f.result.len f.result.label vb).toList ∧ psAt w vp f.params ∧ ssAt w vb f.body := by
  obtain ⟨A, B, p1, p2, p3, ⟨xs, C, D, q1, q2, q3, ho, E, F, r1, r2, r3, hf, _⟩, _⟩ := Sep.pick i h.sep hi
  have h0 : fs.length ≠ 0 := by have := (List.getElem?_eq_some_iff.1 hk).1; omega
  obtain ⟨g, cap, hv, _, hc⟩ := own_on ho h0
  injection hv with hv1 hv2 hv3
  obtain ⟨vp, vb, h3, h4, xb, h5, h6⟩ := fl_at fs xs k f hf hk
  have hb : ∀ k, E k → k < w.heap.size := fun k hk => (p1 k (q2 k (r1 k hk))).1
  refine ⟨⟨g, 0, none⟩, vp, vb, hv1, fun j u hj => ?_, ⟨E, hb, h4⟩, ⟨xb, E, hb, h5, h6⟩⟩
  rw [Go.Deep.add_add]
  exact hc _ u (h3 j u hj)
theorem St.belowJ {X : Nat → Prop} {w0 w w' : World} {I : List It} (h : St X w0 w I) (hb : Below w.heap.size w w') : St X w0 w' I :=
  ⟨h.gd, ⟨hb.os.trans h.rest.os, hb.tape.trans h.rest.tape, hb.output.trans h.rest.output, Nat.le_trans h.rest.size hb.size, fun k hk hx => (hb.block k (Nat.lt_of_lt_of_le hk h.rest.size)).trans (h.rest.block k hk hx)⟩,
    (h.sep.loc fun k hk => hb.block k hk.1).wide fun k hk => ⟨Nat.lt_of_lt_of_le hk.1 hb.size, hk.2⟩⟩
/-- a load, guarded or not -/
def ldG (a : Act) (o : Oper) : Option (TypeId × Value) := match o.op with | .load t x => some (t, a.eval x) | _ => none
theorem yieldsIf_onCg {ops : Array Oper} {S : World → Prop} {o : Oper} {a : Act} {t : TypeId} {n : Nat} {p : Addr} {vs : List Value} (hw : Region.wanted o (yielded ops a.tmps) = true) (ho : ldG a o = some (t, .pointer (some p))) (T : StructT t n) (hn : vs.length = n) (hS : ∀ w, S w → OnC w p vs) : YieldsIf Tryd.prog ops S o (.agg vs.toArray) a := by
  unfold ldG at ho
  split at ho
  · next t' x hop =>
    simp only [Option.some.injEq, Prod.mk.injEq] at ho
    obtain ⟨rfl, hx⟩ := ho
    obtain ⟨fs, hu⟩ := T.und
    refine Or.inl ⟨hw, fun w h => ?_⟩
    have hl := run_loadCells_list (P := Tryd.prog) w p vs (hS w h)
    have hr : (loadVar t' p).run Tryd.prog w = .ok (.agg vs.toArray) w := by
      have hi := T.info
      cases hq : Tryd.prog.info? t' with
      | none => rw [hq] at hi; cases hi
      | some i =>
        have hs : i.size = vs.length := by rw [hq] at hi; simpa [hn] using hi
        have hagg : (isAgg t').run Tryd.prog w = .ok true w := by
          unfold isAgg
          rw [Sem.run_bind, run_underlying hu w]
          rfl
        simp [loadVar, Sem.run_bind, hagg, sizeOf, typeInfo, hq, hs, hl]
    unfold execOp
    simp only [hop, hx, Instr.loadAt, Instr.sureAddr, Sem.run_bind, Sem.run_pure, Result.andThen_ok, hr]
  · cases ho
theorem fnT' : StructT 37 8 := ⟨⟨_, Tryd.underlying37⟩, by kernel_rfl⟩
set_option maxHeartbeats 8000000 in
set_option maxRecDepth 100000 in
theorem joins_long (a0 a1 : ByteArray) (h : (20000 : Int) < (a0.size : Int) ∨ (20000 : Int) < (a1.size : Int)) : Fn 3 #[.string a0, .string a1] [] fun e J => e = .returned (.bool true) ∧ J = [] := by
  intro w P hP h0
  have HS := Lib.hid (St.start hP h0)
  clear h0 hP
  by_cases h1 : (20000 : Int) < (a0.size : Int)
  · clear h
    go_enter Tryd.func3, Tryd.ntmps3
    go_wp2_with (first
      | (go_at_call 6; refine (St.call (pre := []) HS.out lives_Fn).mono ?_; rintro e w90 ⟨J, ⟨rfl, rfl⟩, hs⟩; simp only [List.cons_append, List.nil_append] at hs; have HS90 := Lib.hid hs; clear hs))
    go_ret
    exact ⟨_, ⟨rfl, rfl⟩, HS90.out.sel [] rfl⟩
  · have h2 := h.resolve_left h1
    clear h
    go_enter Tryd.func3, Tryd.ntmps3
    go_wp2_with (first
      | (go_at_call 6; refine (St.call (pre := []) HS.out lives_Fn).mono ?_; rintro e w90 ⟨J, ⟨rfl, rfl⟩, hs⟩; simp only [List.cons_append, List.nil_append] at hs; have HS90 := Lib.hid hs; clear hs))
    go_ret
    exact ⟨_, ⟨rfl, rfl⟩, HS90.out.sel [] rfl⟩
theorem joins_list (a0 a1 : ByteArray) : (a0 ++ ({ data := #[10] } : ByteArray) ++ a1).data.toList = a0.data.toList ++ 10 :: a1.data.toList := by simp
theorem Sx.parse_bad {s : List UInt8} {e n : Int} (h : Sx.parse s = .error (e, n)) : e ≠ 0 := by
  unfold Sx.parse at h
  cases hl : Lx.lex s with
  | error q =>
    obtain ⟨e', n'⟩ := q
    rw [hl] at h
    cases h
    rintro rfl
    unfold Lx.lex at hl
    split at hl
    · cases hl
    · split at hl
      · cases hl
      · cases hl
  | ok L =>
    rw [hl] at h
    simp only [] at h
    split at h
    · cases h
    · rename_i h1
      cases h
      exact h1
/-- whatever parts: one that says nothing -/
theorem sep_any {w : World} : ∀ {J I : List It} {P : Nat → Prop}, Sep w (J ++ I) P → Sep w (trueI :: I) P
  | [], I, P, h => Sep.emp h trivial
  | x :: J, I, P, h => by
    have h1 : Sep w (J ++ I) P := Sep.drop (x := x) h
    exact sep_any h1
theorem st_any {X : Nat → Prop} {w0 w : World} {J I : List It} (h : St X w0 w (J ++ I)) : St X w0 w (trueI :: I) := h.to fun P h => sep_any h
set_option maxHeartbeats 8000000 in
set_option maxRecDepth 100000 in
theorem joins_no1 (a0 a1 : ByteArray) (h1 : ¬ (20000 : Int) < (a0.size : Int)) (h2 : ¬ (20000 : Int) < (a1.size : Int)) (ea na : Int) (hA : Sx.parse a0.data.toList = .error (ea, na)) (hea : ea ≠ 0) (B : List Sx.F) (hB : Sx.parse a1.data.toList = .ok B) : Fn 3 #[.string a0, .string a1] [] fun e J => e = .returned (.bool true) ∧ J = [] := by
  intro w P hP h0
  have HS := Lib.hid (St.start hP h0)
  clear h0 hP
  have hsz : (a0 ++ ({ data := #[10] } : ByteArray) ++ a1).size ≤ 281474976710656 := by
    rw [ByteArray.size_append, ByteArray.size_append]
    have : ({ data := #[10] } : ByteArray).size = 1 := rfl
    omega
  have hc1 : ¬ 9223372036854775807 < a0.size + 1 := by omega
  have hc2 : ¬ 9223372036854775807 < a0.size + 1 + a1.size := by omega
  have hs1 : ({ data := #[10] } : ByteArray).size = 1 := rfl
  have C1 := Lib.hid (parse_no a0 (by omega) hA)
  have C2 := Lib.hid (parse_is a1 (by omega) hB)
  have C3 := Lib.hid (parse_Fn (a0 ++ ({ data := #[10] } : ByteArray) ++ a1) hsz)
  clear hA hB hsz
  go_enter Tryd.func3, Tryd.ntmps3
  go_wp2_with (first
    | (go_at_call 7; first | (refine (St.call (pre := []) HS.out C1.out).mono ?_; rintro e w1 ⟨J, ⟨rfl, rfl⟩, hs⟩; simp only [List.cons_append, List.nil_append] at hs; have HS1 := Lib.hid hs; clear hs HS) | (refine (St.call (pre := []) HS5.out C2.out).mono ?_; rintro e w6 ⟨J, ⟨q_B, c_B, rfl, rfl⟩, hs⟩; simp only [List.cons_append, List.nil_append] at hs; have HS6 := Lib.hid hs; clear hs HS5) | (refine (St.call (pre := []) HS10.out C3.out).mono ?_; rintro e w11 ⟨J, ⟨q_C, l_C, c_C, x_C, p_C, rfl, hpj⟩, hs⟩; have HS11 := Lib.hid (st_any hs); clear hs hpj HS10))
    | (refine wpl_alloc0 HS1.out _ rfl pgZ ?_; intro b_pa w2 HS2; clear HS1)
    | (refine wpl_alloc HS2.out _ rfl bdZ ?_; intro b_ea_ w3 HS3; clear HS2)
    | (refine wpl_storeS HS3.out 0 rfl rfl pgT rfl fitsG ?_; intro w4 hs; have HS4 := Lib.hid (show St _ _ _ (_ :: _ :: []) from hs.out); clear hs HS3)
    | (refine wpl_storeS HS4.out 1 rfl rfl badT rfl (fitsB _ _) ?_; intro w5 hs; have HS5 := Lib.hid (show St _ _ _ (_ :: _ :: []) from hs.out); clear hs HS4; skip)
    | (refine wpl_alloc HS6.out _ rfl pgZ ?_; intro b_pb w7 HS7; clear HS6)
    | (refine wpl_alloc HS7.out _ rfl bdZ ?_; intro b_eb_ w8 HS8; clear HS7)
    | (refine wpl_storeS HS8.out 2 rfl rfl pgT rfl fitsG ?_; intro w9 hs; have HS9 := Lib.hid (show St _ _ _ (_ :: _ :: _ :: _ :: _ :: []) from hs.out); clear hs HS8)
    | (refine wpl_storeS HS9.out 1 rfl rfl badT rfl (fitsB _ _) ?_; intro w10 hs; have HS10 := Lib.hid (show St _ _ _ (_ :: _ :: _ :: _ :: _ :: []) from hs.out); clear hs HS9; skip)
    | (refine wpl_alloc HS11.out _ rfl pgZ ?_; intro b_pc w12 HS12; clear HS11)
    | (refine wpl_alloc HS12.out _ rfl bdZ ?_; intro b_ec w13 HS13; clear HS12)
    | (refine wpl_storeS HS13.out 2 rfl rfl pgT rfl fitsG ?_; intro w14 hs; have HS14 := Lib.hid (show St _ _ _ (_ :: _ :: _ :: _ :: _ :: _ :: _ :: _ :: []) from hs.out); clear hs HS13)
    | (refine wpl_storeS HS14.out 1 rfl rfl badT rfl (fitsB _ _) ?_; intro w15 hs; have HS15 := Lib.hid (show St _ _ _ (_ :: _ :: _ :: _ :: _ :: _ :: _ :: _ :: []) from hs.out); clear hs HS14; have f1 : w15.cell? ⟨b_pa, 0, none⟩ = some (.slice none 0 0) := HS15.out.cell 6 rfl 0; have f2 : w15.cell? ⟨b_ea_, 0, none⟩ = some (.int .i64 ea) := HS15.out.cell 7 rfl 0; have f3 : w15.cell? ⟨b_pb, 0, none⟩ = some (.slice q_B B.length c_B) := HS15.out.cell 5 rfl 0; have f4 : w15.cell? ⟨b_eb_, 0, none⟩ = some (.int .i64 0) := HS15.out.cell 4 rfl 0)
    | (go_at_call 6; refine (St.call (pre := []) HS15.out lives_Fn).mono ?_; rintro e w90 ⟨J, ⟨rfl, rfl⟩, hs⟩; simp only [List.cons_append, List.nil_append] at hs; have HS90 := Lib.hid hs; clear hs))
  go_ret
  exact ⟨_, ⟨rfl, rfl⟩, HS90.out.sel [] rfl⟩
set_option maxHeartbeats 8000000 in
set_option maxRecDepth 100000 in
theorem joins_no2 (a0 a1 : ByteArray) (h1 : ¬ (20000 : Int) < (a0.size : Int)) (h2 : ¬ (20000 : Int) < (a1.size : Int)) (A : List Sx.F) (hA : Sx.parse a0.data.toList = .ok A) (eb nb : Int) (hB : Sx.parse a1.data.toList = .error (eb, nb)) (heb : eb ≠ 0) : Fn 3 #[.string a0, .string a1] [] fun e J => e = .returned (.bool true) ∧ J = [] := by
  intro w P hP h0
  have HS := Lib.hid (St.start hP h0)
  clear h0 hP
  have hsz : (a0 ++ ({ data := #[10] } : ByteArray) ++ a1).size ≤ 281474976710656 := by
    rw [ByteArray.size_append, ByteArray.size_append]
    have : ({ data := #[10] } : ByteArray).size = 1 := rfl
    omega
  have hc1 : ¬ 9223372036854775807 < a0.size + 1 := by omega
  have hc2 : ¬ 9223372036854775807 < a0.size + 1 + a1.size := by omega
  have hs1 : ({ data := #[10] } : ByteArray).size = 1 := rfl
  have C1 := Lib.hid (parse_is a0 (by omega) hA)
  have C2 := Lib.hid (parse_no a1 (by omega) hB)
  have C3 := Lib.hid (parse_Fn (a0 ++ ({ data := #[10] } : ByteArray) ++ a1) hsz)
  clear hA hB hsz
  go_enter Tryd.func3, Tryd.ntmps3
  go_wp2_with (first
    | (go_at_call 7; first | (refine (St.call (pre := []) HS.out C1.out).mono ?_; rintro e w1 ⟨J, ⟨q_A, c_A, rfl, rfl⟩, hs⟩; simp only [List.cons_append, List.nil_append] at hs; have HS1 := Lib.hid hs; clear hs HS) | (refine (St.call (pre := []) HS5.out C2.out).mono ?_; rintro e w6 ⟨J, ⟨rfl, rfl⟩, hs⟩; simp only [List.cons_append, List.nil_append] at hs; have HS6 := Lib.hid hs; clear hs HS5) | (refine (St.call (pre := []) HS10.out C3.out).mono ?_; rintro e w11 ⟨J, ⟨q_C, l_C, c_C, x_C, p_C, rfl, hpj⟩, hs⟩; have HS11 := Lib.hid (st_any hs); clear hs hpj HS10))
    | (refine wpl_alloc HS1.out _ rfl pgZ ?_; intro b_pa w2 HS2; clear HS1)
    | (refine wpl_alloc HS2.out _ rfl bdZ ?_; intro b_ea_ w3 HS3; clear HS2)
    | (refine wpl_storeS HS3.out 2 rfl rfl pgT rfl fitsG ?_; intro w4 hs; have HS4 := Lib.hid (show St _ _ _ (_ :: _ :: _ :: []) from hs.out); clear hs HS3)
    | (refine wpl_storeS HS4.out 1 rfl rfl badT rfl (fitsB _ _) ?_; intro w5 hs; have HS5 := Lib.hid (show St _ _ _ (_ :: _ :: _ :: []) from hs.out); clear hs HS4; skip)
    | (refine wpl_alloc HS6.out _ rfl pgZ ?_; intro b_pb w7 HS7; clear HS6)
    | (refine wpl_alloc HS7.out _ rfl bdZ ?_; intro b_eb_ w8 HS8; clear HS7)
    | (refine wpl_storeS HS8.out 2 rfl rfl pgT rfl fitsG ?_; intro w9 hs; have HS9 := Lib.hid (show St _ _ _ (_ :: _ :: _ :: _ :: _ :: []) from hs.out); clear hs HS8)
    | (refine wpl_storeS HS9.out 1 rfl rfl badT rfl (fitsB _ _) ?_; intro w10 hs; have HS10 := Lib.hid (show St _ _ _ (_ :: _ :: _ :: _ :: _ :: []) from hs.out); clear hs HS9; skip)
    | (refine wpl_alloc HS11.out _ rfl pgZ ?_; intro b_pc w12 HS12; clear HS11)
    | (refine wpl_alloc HS12.out _ rfl bdZ ?_; intro b_ec w13 HS13; clear HS12)
    | (refine wpl_storeS HS13.out 2 rfl rfl pgT rfl fitsG ?_; intro w14 hs; have HS14 := Lib.hid (show St _ _ _ (_ :: _ :: _ :: _ :: _ :: _ :: _ :: _ :: []) from hs.out); clear hs HS13)
    | (refine wpl_storeS HS14.out 1 rfl rfl badT rfl (fitsB _ _) ?_; intro w15 hs; have HS15 := Lib.hid (show St _ _ _ (_ :: _ :: _ :: _ :: _ :: _ :: _ :: _ :: []) from hs.out); clear hs HS14; have f1 : w15.cell? ⟨b_pa, 0, none⟩ = some (.slice q_A A.length c_A) := HS15.out.cell 7 rfl 0; have f2 : w15.cell? ⟨b_ea_, 0, none⟩ = some (.int .i64 0) := HS15.out.cell 6 rfl 0; have f3 : w15.cell? ⟨b_pb, 0, none⟩ = some (.slice none 0 0) := HS15.out.cell 5 rfl 0; have f4 : w15.cell? ⟨b_eb_, 0, none⟩ = some (.int .i64 eb) := HS15.out.cell 4 rfl 0)
    | (go_at_call 6; refine (St.call (pre := []) HS15.out lives_Fn).mono ?_; rintro e w90 ⟨J, ⟨rfl, rfl⟩, hs⟩; simp only [List.cons_append, List.nil_append] at hs; have HS90 := Lib.hid hs; clear hs))
  go_ret
  exact ⟨_, ⟨rfl, rfl⟩, HS90.out.sel [] rfl⟩
set_option maxHeartbeats 8000000 in
set_option maxRecDepth 100000 in
theorem joins_no3 (a0 a1 : ByteArray) (h1 : ¬ (20000 : Int) < (a0.size : Int)) (h2 : ¬ (20000 : Int) < (a1.size : Int)) (ea na : Int) (hA : Sx.parse a0.data.toList = .error (ea, na)) (hea : ea ≠ 0) (eb nb : Int) (hB : Sx.parse a1.data.toList = .error (eb, nb)) (heb : eb ≠ 0) : Fn 3 #[.string a0, .string a1] [] fun e J => e = .returned (.bool true) ∧ J = [] := by
  intro w P hP h0
  have HS := Lib.hid (St.start hP h0)
  clear h0 hP
  have hsz : (a0 ++ ({ data := #[10] } : ByteArray) ++ a1).size ≤ 281474976710656 := by
    rw [ByteArray.size_append, ByteArray.size_append]
    have : ({ data := #[10] } : ByteArray).size = 1 := rfl
    omega
  have hc1 : ¬ 9223372036854775807 < a0.size + 1 := by omega
  have hc2 : ¬ 9223372036854775807 < a0.size + 1 + a1.size := by omega
  have hs1 : ({ data := #[10] } : ByteArray).size = 1 := rfl
  have C1 := Lib.hid (parse_no a0 (by omega) hA)
  have C2 := Lib.hid (parse_no a1 (by omega) hB)
  have C3 := Lib.hid (parse_Fn (a0 ++ ({ data := #[10] } : ByteArray) ++ a1) hsz)
  clear hA hB hsz
  go_enter Tryd.func3, Tryd.ntmps3
  go_wp2_with (first
    | (go_at_call 7; first | (refine (St.call (pre := []) HS.out C1.out).mono ?_; rintro e w1 ⟨J, ⟨rfl, rfl⟩, hs⟩; simp only [List.cons_append, List.nil_append] at hs; have HS1 := Lib.hid hs; clear hs HS) | (refine (St.call (pre := []) HS5.out C2.out).mono ?_; rintro e w6 ⟨J, ⟨rfl, rfl⟩, hs⟩; simp only [List.cons_append, List.nil_append] at hs; have HS6 := Lib.hid hs; clear hs HS5) | (refine (St.call (pre := []) HS10.out C3.out).mono ?_; rintro e w11 ⟨J, ⟨q_C, l_C, c_C, x_C, p_C, rfl, hpj⟩, hs⟩; have HS11 := Lib.hid (st_any hs); clear hs hpj HS10))
    | (refine wpl_alloc0 HS1.out _ rfl pgZ ?_; intro b_pa w2 HS2; clear HS1)
    | (refine wpl_alloc HS2.out _ rfl bdZ ?_; intro b_ea_ w3 HS3; clear HS2)
    | (refine wpl_storeS HS3.out 0 rfl rfl pgT rfl fitsG ?_; intro w4 hs; have HS4 := Lib.hid (show St _ _ _ (_ :: _ :: []) from hs.out); clear hs HS3)
    | (refine wpl_storeS HS4.out 1 rfl rfl badT rfl (fitsB _ _) ?_; intro w5 hs; have HS5 := Lib.hid (show St _ _ _ (_ :: _ :: []) from hs.out); clear hs HS4; skip)
    | (refine wpl_alloc HS6.out _ rfl pgZ ?_; intro b_pb w7 HS7; clear HS6)
    | (refine wpl_alloc HS7.out _ rfl bdZ ?_; intro b_eb_ w8 HS8; clear HS7)
    | (refine wpl_storeS HS8.out 2 rfl rfl pgT rfl fitsG ?_; intro w9 hs; have HS9 := Lib.hid (show St _ _ _ (_ :: _ :: _ :: _ :: []) from hs.out); clear hs HS8)
    | (refine wpl_storeS HS9.out 1 rfl rfl badT rfl (fitsB _ _) ?_; intro w10 hs; have HS10 := Lib.hid (show St _ _ _ (_ :: _ :: _ :: _ :: []) from hs.out); clear hs HS9; skip)
    | (refine wpl_alloc HS11.out _ rfl pgZ ?_; intro b_pc w12 HS12; clear HS11)
    | (refine wpl_alloc HS12.out _ rfl bdZ ?_; intro b_ec w13 HS13; clear HS12)
    | (refine wpl_storeS HS13.out 2 rfl rfl pgT rfl fitsG ?_; intro w14 hs; have HS14 := Lib.hid (show St _ _ _ (_ :: _ :: _ :: _ :: _ :: _ :: _ :: []) from hs.out); clear hs HS13)
    | (refine wpl_storeS HS14.out 1 rfl rfl badT rfl (fitsB _ _) ?_; intro w15 hs; have HS15 := Lib.hid (show St _ _ _ (_ :: _ :: _ :: _ :: _ :: _ :: _ :: []) from hs.out); clear hs HS14; have f1 : w15.cell? ⟨b_pa, 0, none⟩ = some (.slice none 0 0) := HS15.out.cell 3 rfl 0; have f2 : w15.cell? ⟨b_ea_, 0, none⟩ = some (.int .i64 ea) := HS15.out.cell 6 rfl 0; have f3 : w15.cell? ⟨b_pb, 0, none⟩ = some (.slice none 0 0) := HS15.out.cell 5 rfl 0; have f4 : w15.cell? ⟨b_eb_, 0, none⟩ = some (.int .i64 eb) := HS15.out.cell 4 rfl 0)
    | (go_at_call 6; refine (St.call (pre := []) HS15.out lives_Fn).mono ?_; rintro e w90 ⟨J, ⟨rfl, rfl⟩, hs⟩; simp only [List.cons_append, List.nil_append] at hs; have HS90 := Lib.hid hs; clear hs))
  go_ret
  exact ⟨_, ⟨rfl, rfl⟩, HS90.out.sel [] rfl⟩
theorem joins_le {k na nb nc : Nat} (h1 : k ≤ nc) (h : nc = na + nb) (ha : na ≤ 281474976710656) (hb : nb ≤ 281474976710656) : k ≤ 562949953421312 := by omega
theorem sum_wrap (na nb nc : Nat) (h : nc = na + nb) (ha : na ≤ 281474976710656) (hb : nb ≤ 281474976710656) : wrap64 ((na : Int) + (nb : Int)) = (nc : Int) ∧ IntKind.i64.wrap ((na : Int) + (nb : Int)) = (nc : Int) := by
  subst h
  refine ⟨?_, ?_⟩
  · simp only [wrap64]; omega
  · rw [IntKind.wrap_i64]; omega
theorem inc_wrap (k d : Nat) (h : k + 1 = d) (hk : k ≤ 562949953421312) : wrap64 ((k : Int) + 1) = (d : Int) ∧ IntKind.i64.wrap ((k : Int) + 1) = (d : Int) := by
  subst h
  refine ⟨?_, ?_⟩
  · simp only [wrap64]; omega
  · rw [IntKind.wrap_i64]; omega
theorem sub_wrap (k na j : Nat) (h : k = na + j) (hk : k ≤ 562949953421312) : wrap64 ((k : Int) - (na : Int)) = (j : Int) ∧ IntKind.i64.wrap ((k : Int) - (na : Int)) = (j : Int) := by
  subst h
  refine ⟨?_, ?_⟩
  · simp only [wrap64]; omega
  · rw [IntKind.wrap_i64]; omega
theorem joins_big {s : ByteArray} {fs : List Sx.F} (h : Sx.parse s.data.toList = .ok fs) : (∀ x ∈ fs, smF x) ∧ fs.length ≤ 281474976710656 := Sx.parse_small h fun L hL => (Lx.lex_ok' hL).len
set_option maxHeartbeats 8000000 in
set_option maxRecDepth 100000 in
theorem joins_ok (a0 a1 : ByteArray) (h1 : ¬ (20000 : Int) < (a0.size : Int)) (h2 : ¬ (20000 : Int) < (a1.size : Int)) (A : List Sx.F) (hA : Sx.parse a0.data.toList = .ok A) (B : List Sx.F) (hB : Sx.parse a1.data.toList = .ok B) : Fn 3 #[.string a0, .string a1] [] fun e J => e = .returned (.bool true) ∧ J = [] := by
  intro w P hP h0
  have HS := Lib.hid (St.start hP h0)
  clear h0 hP
  have hsz : (a0 ++ ({ data := #[10] } : ByteArray) ++ a1).size ≤ 281474976710656 := by
    rw [ByteArray.size_append, ByteArray.size_append]
    have : ({ data := #[10] } : ByteArray).size = 1 := rfl
    omega
  have hc1 : ¬ 9223372036854775807 < a0.size + 1 := by omega
  have hc2 : ¬ 9223372036854775807 < a0.size + 1 + a1.size := by omega
  have hs1 : ({ data := #[10] } : ByteArray).size = 1 := rfl
  have hl0 : a0.data.toList.length = a0.size := (Lib.size_eq a0).symm
  have hl1 : a1.data.toList.length = a1.size := (Lib.size_eq a1).symm
  have hC := Sx.parse_joins (by omega) (by omega) hA hB
  rw [← joins_list, hl0] at hC
  obtain ⟨d, hd⟩ : ∃ d, a0.size + 1 = d := ⟨_, rfl⟩
  rw [hd] at hC
  have hd2 : d ≤ 100000 := by omega
  have hd3 : wrap64 ((a0.size : Int) + 1) = (d : Int) := (inc_wrap _ _ hd (by omega)).1
  have hd4 : IntKind.i64.wrap ((a0.size : Int) + 1) = (d : Int) := (inc_wrap _ _ hd (by omega)).2
  have hbA := joins_big hA
  have hbB := joins_big hB
  have C1 := Lib.hid (parse_is a0 (by omega) hA)
  have C2 := Lib.hid (parse_is a1 (by omega) hB)
  have C3 := Lib.hid (parse_is _ hsz hC)
  have hlen : (A ++ B.map (Sx.F.on d)).length = A.length + B.length := by rw [List.length_append, List.length_map]
  obtain ⟨na, hna⟩ : ∃ n, A.length = n := ⟨_, rfl⟩
  obtain ⟨nb, hnb⟩ : ∃ n, B.length = n := ⟨_, rfl⟩
  obtain ⟨nc, hnc⟩ : ∃ n, (A ++ B.map (Sx.F.on d)).length = n := ⟨_, rfl⟩
  have hab := hbA.2
  have hbb := hbB.2
  rw [hna] at C1 hab hlen
  rw [hnb] at C2 hbb hlen
  rw [hnc] at C3 hlen
  have hn1 : wrap64 ((na : Int) + (nb : Int)) = (nc : Int) := (sum_wrap na nb nc hlen hab hbb).1
  have hn2 : IntKind.i64.wrap ((na : Int) + (nb : Int)) = (nc : Int) := (sum_wrap na nb nc hlen hab hbb).2
  obtain ⟨C, hCC⟩ : ∃ C, A ++ B.map (Sx.F.on d) = C := ⟨_, rfl⟩
  rw [hCC] at C3 hnc
  have HX := Lib.hid (And.intro hCC (And.intro hna (And.intro hnb (And.intro hnc (And.intro hlen (And.intro hd2 (And.intro hbA.1 (And.intro hbB.1 (And.intro hab hbb)))))))))
  clear hA hB hsz hC hCC hna hnb hnc hlen hd hd2 hbA hbB hab hbb hl0 hl1
  go_enter Tryd.func3, Tryd.ntmps3
  go_wp2_with (first
    | (go_at_call 7; first | (refine (St.call (pre := []) HS.out C1.out).mono ?_; rintro e w1 ⟨J, ⟨q_A, c_A, rfl, rfl⟩, hs⟩; simp only [List.cons_append, List.nil_append] at hs; have HS1 := Lib.hid hs; clear hs HS) | (refine (St.call (pre := []) HS5.out C2.out).mono ?_; rintro e w6 ⟨J, ⟨q_B, c_B, rfl, rfl⟩, hs⟩; simp only [List.cons_append, List.nil_append] at hs; have HS6 := Lib.hid hs; clear hs HS5) | (refine (St.call (pre := []) HS10.out C3.out).mono ?_; rintro e w11 ⟨J, ⟨q_C, c_C, rfl, rfl⟩, hs⟩; simp only [List.cons_append, List.nil_append] at hs; have HS11 := Lib.hid hs; clear hs HS10))
    | (refine wpl_alloc HS1.out _ rfl pgZ ?_; intro b_pa w2 HS2; clear HS1)
    | (refine wpl_alloc HS2.out _ rfl bdZ ?_; intro b_ea_ w3 HS3; clear HS2)
    | (refine wpl_storeS HS3.out 2 rfl rfl pgT rfl fitsG ?_; intro w4 hs; have HS4 := Lib.hid (show St _ _ _ (_ :: _ :: _ :: []) from hs.out); clear hs HS3)
    | (refine wpl_storeS HS4.out 1 rfl rfl badT rfl (fitsB _ _) ?_; intro w5 hs; have HS5 := Lib.hid (show St _ _ _ (_ :: _ :: _ :: []) from hs.out); clear hs HS4; skip)
    | (refine wpl_alloc HS6.out _ rfl pgZ ?_; intro b_pb w7 HS7; clear HS6)
    | (refine wpl_alloc HS7.out _ rfl bdZ ?_; intro b_eb_ w8 HS8; clear HS7)
    | (refine wpl_storeS HS8.out 2 rfl rfl pgT rfl fitsG ?_; intro w9 hs; have HS9 := Lib.hid (show St _ _ _ (_ :: _ :: _ :: _ :: _ :: _ :: []) from hs.out); clear hs HS8)
    | (refine wpl_storeS HS9.out 1 rfl rfl badT rfl (fitsB _ _) ?_; intro w10 hs; have HS10 := Lib.hid (show St _ _ _ (_ :: _ :: _ :: _ :: _ :: _ :: []) from hs.out); clear hs HS9; skip)
    | (refine wpl_alloc HS11.out _ rfl pgZ ?_; intro b_pc w12 HS12; clear HS11)
    | (refine wpl_alloc HS12.out _ rfl bdZ ?_; intro b_ec w13 HS13; clear HS12)
    | (refine wpl_storeS HS13.out 2 rfl rfl pgT rfl fitsG ?_; intro w14 hs; have HS14 := Lib.hid (show St _ _ _ (_ :: _ :: _ :: _ :: _ :: _ :: _ :: _ :: _ :: []) from hs.out); clear hs HS13)
    | (refine wpl_storeS HS14.out 1 rfl rfl badT rfl (fitsB _ _) ?_; intro w15 hs; have HS15 := Lib.hid (show St _ _ _ (_ :: _ :: _ :: _ :: _ :: _ :: _ :: _ :: _ :: []) from hs.out); clear hs HS14; have f1 : w15.cell? ⟨b_pa, 0, none⟩ = some (.slice q_A na c_A) := HS15.out.cell 8 rfl 0; have f2 : w15.cell? ⟨b_ea_, 0, none⟩ = some (.int .i64 0) := HS15.out.cell 7 rfl 0; have f3 : w15.cell? ⟨b_pb, 0, none⟩ = some (.slice q_B nb c_B) := HS15.out.cell 5 rfl 0; have f4 : w15.cell? ⟨b_eb_, 0, none⟩ = some (.int .i64 0) := HS15.out.cell 4 rfl 0; have f5 : w15.cell? ⟨b_pc, 0, none⟩ = some (.slice q_C nc c_C) := HS15.out.cell 2 rfl 0; have f6 : w15.cell? ⟨b_ec, 0, none⟩ = some (.int .i64 0) := HS15.out.cell 1 rfl 0))
  have HL := Lib.hid (show St P w w15 [fsI (.slice q_C nc c_C) C, .row b_pc 25 #[.slice q_C nc c_C], fsI (.slice q_B nb c_B) B, .row b_pb 25 #[.slice q_B nb c_B], fsI (.slice q_A na c_A) A, .row b_pa 25 #[.slice q_A na c_A]] from HS15.out.sel [0, 1, 1, 2, 2, 3] rfl)
  clear HS15 f1 f2 f3 f4 f5 f6 C1 C2 C3 hn1 hn2
  go_loopw [11] (fun K wr => ∃ k : Nat, k ≤ nc ∧ K = .int .i64 (k : Int) ∧ Hid (St P w wr [fsI (.slice q_C nc c_C) C, .row b_pc 25 #[.slice q_C nc c_C], fsI (.slice q_B nb c_B) B, .row b_pb 25 #[.slice q_B nb c_B], fsI (.slice q_A na c_A) A, .row b_pa 25 #[.slice q_A na c_A]])) (fun K _ => nc - (intOf K).toNat)
  case atStart => exact ⟨0, Nat.zero_le _, rfl, HL⟩
  case round =>
    obtain ⟨k, hk, rfl, HK⟩ := hrel
    clear HL
    have c1 : wr.cell? ⟨b_pc, 0, none⟩ = some (.slice q_C nc c_C) := HK.out.cell 1 rfl 0
    have c2 : wr.cell? ⟨b_pb, 0, none⟩ = some (.slice q_B nb c_B) := HK.out.cell 3 rfl 0
    have c3 : wr.cell? ⟨b_pa, 0, none⟩ = some (.slice q_A na c_A) := HK.out.cell 5 rfl 0
    have hkb : k ≤ 562949953421312 := joins_le hk HX.out.2.2.2.2.1 HX.out.2.2.2.2.2.2.2.2.1 HX.out.2.2.2.2.2.2.2.2.2
    have hk1 : wrap64 ((k : Int) + 1) = ((k + 1 : Nat) : Int) := (inc_wrap k (k + 1) rfl hkb).1
    have hk0 : (0 : Int) ≤ (k : Int) := Int.natCast_nonneg k
    by_cases hlt : k < nc
    · have hltI : (k : Int) < (nc : Int) := by omega
      by_cases hla : k < na
      · have hlaI : (k : Int) < (na : Int) := by omega
        have hlaN : ¬ (na : Int) ≤ (k : Int) := by omega
        obtain ⟨f, hf⟩ : ∃ f, A[k]? = some f := ⟨_, List.getElem?_eq_getElem (by rw [HX.out.2.1]; exact hla)⟩
        have hfC : C[k]? = some f := by rw [← HX.out.1, List.getElem?_append_left (by rw [HX.out.2.1]; exact hla)]; exact hf
        obtain ⟨aC, vpC, vbC, rC, oC, pC, sC⟩ := HK.out.drew.fsGet 0 rfl hfC
        obtain ⟨aA, vpA, vbA, rA, oA, pA, sA⟩ := HK.out.drew.fsGet 4 rfl hf
        subst rC rA
        have CS := Lib.hid (samef0 f (HX.out.2.2.2.2.2.2.1 f (List.mem_of_getElem? hf)) wr.drew HK.out.drew.tab vpC vbC vpA vbA pC sC pA sA)
        have OC := Lib.hid oC
        have OA := Lib.hid oA
        clear pC sC pA sA hf hfC oC oA
        go_wp2
        refine wp_region_held_drew (S := fun w' => w'.cell? ⟨b_pc, 0, none⟩ = some (.slice (some aC) nc c_C) ∧ w'.cell? ⟨b_pa, 0, none⟩ = some (.slice (some aA) na c_A) ∧ OnC w' (aC.add (k * 8)) (fnA f.pos f.name vpC f.has f.result.elem f.result.len f.result.label vbC).toList ∧ OnC w' (aA.add (k * 8)) (fnA f.pos f.name vpA f.has f.result.elem f.result.len f.result.label vbA).toList) (by kernel_rfl) (⟨HK.out.drew.cell 1 rfl 0, HK.out.drew.cell 5 rfl 0, OC.out, OA.out⟩) (fun hHeld => ?_)
        refine wpAnyH_take (i := 0) (v := ?_) rfl (by kernel_rfl) (by kernel_rfl) (by kernel_rfl) (fun _ _ _ h => h) (Or.inl ⟨by rfl, ?_⟩) (by assumption) ?_
        rotate_left
        · intro w hSw
          (try dsimp only at hSw)
          go_simp
          (try with_reducible rfl)
        (try simp only [Act.put, List.setIfInBounds_toArray, List.set_cons_zero, List.set_cons_succ, List.getElem_toArray, List.getElem_cons_succ, List.getElem_cons_zero])
        refine wpAnyH_take (i := 1) (v := ?_) rfl (by kernel_rfl) (by kernel_rfl) (by kernel_rfl) (fun _ _ _ h => h) (Or.inl ⟨by rfl, ?_⟩) (by assumption) ?_
        rotate_left
        · intro w hSw
          (try dsimp only at hSw)
          go_simp
          (try with_reducible rfl)
        (try simp only [Act.put, List.setIfInBounds_toArray, List.set_cons_zero, List.set_cons_succ, List.getElem_toArray, List.getElem_cons_succ, List.getElem_cons_zero])
        refine wpAnyH_take (i := 2) (v := ?_) rfl (by kernel_rfl) (by kernel_rfl) (by kernel_rfl) (fun _ _ _ h => h) (Or.inl ⟨by rfl, ?_⟩) (by assumption) ?_
        rotate_left
        · intro w hSw
          (try dsimp only at hSw)
          go_simp
          (try with_reducible rfl)
        (try simp only [Act.put, List.setIfInBounds_toArray, List.set_cons_zero, List.set_cons_succ, List.getElem_toArray, List.getElem_cons_succ, List.getElem_cons_zero])
        refine wpAnyH_take (i := 3) (v := ?_) rfl (by kernel_rfl) (by kernel_rfl) (by kernel_rfl) (fun _ _ _ h => h) (Or.inl ⟨by rfl, ?_⟩) (by assumption) ?_
        rotate_left
        · intro w hSw
          (try dsimp only at hSw)
          go_simp
          (try with_reducible rfl)
        (try simp only [Act.put, List.setIfInBounds_toArray, List.set_cons_zero, List.set_cons_succ, List.getElem_toArray, List.getElem_cons_succ, List.getElem_cons_zero])
        refine wpAnyH_take (i := 4) (v := ?_) rfl (by kernel_rfl) (by kernel_rfl) (by kernel_rfl) (fun _ _ _ h => h) (Or.inl ⟨by rfl, ?_⟩) (by assumption) ?_
        rotate_left
        · intro w hSw
          (try dsimp only at hSw)
          go_simp
          (try with_reducible rfl)
        (try simp only [Act.put, List.setIfInBounds_toArray, List.set_cons_zero, List.set_cons_succ, List.getElem_toArray, List.getElem_cons_succ, List.getElem_cons_zero])
        refine wpAnyH_take (i := 5) (v := ?_) rfl (by kernel_rfl) (by kernel_rfl) (by kernel_rfl) (fun _ _ _ h => h) (Or.inl ⟨by rfl, ?_⟩) (by assumption) ?_
        rotate_left
        · intro w hSw
          (try dsimp only at hSw)
          go_simp
          (try with_reducible rfl)
        (try simp only [Act.put, List.setIfInBounds_toArray, List.set_cons_zero, List.set_cons_succ, List.getElem_toArray, List.getElem_cons_succ, List.getElem_cons_zero])
        refine wpAnyH_take (i := 6) (v := ?_) rfl (by kernel_rfl) (by kernel_rfl) (by kernel_rfl) (fun _ _ _ h => h) (Or.inl ⟨by rfl, ?_⟩) (by assumption) ?_
        rotate_left
        · intro w hSw
          (try dsimp only at hSw)
          go_simp
          (try with_reducible rfl)
        (try simp only [Act.put, List.setIfInBounds_toArray, List.set_cons_zero, List.set_cons_succ, List.getElem_toArray, List.getElem_cons_succ, List.getElem_cons_zero])
        refine wpAnyH_take (i := 7) (v := ?_) rfl (by kernel_rfl) (by kernel_rfl) (by kernel_rfl) (fun _ _ _ h => h) (Or.inl ⟨by rfl, ?_⟩) (by assumption) ?_
        rotate_left
        · intro w hSw
          (try dsimp only at hSw)
          go_simp
          (try with_reducible rfl)
        (try simp only [Act.put, List.setIfInBounds_toArray, List.set_cons_zero, List.set_cons_succ, List.getElem_toArray, List.getElem_cons_succ, List.getElem_cons_zero])
        refine wpAnyH_take (i := 8) (v := ?_) rfl (by kernel_rfl) (by kernel_rfl) (by kernel_rfl) (fun _ _ _ h => h) (Or.inl ⟨by rfl, ?_⟩) (by assumption) ?_
        rotate_left
        · intro w hSw
          (try dsimp only at hSw)
          go_simp
          (try with_reducible rfl)
        (try simp only [Act.put, List.setIfInBounds_toArray, List.set_cons_zero, List.set_cons_succ, List.getElem_toArray, List.getElem_cons_succ, List.getElem_cons_zero])
        refine wpAnyH_take (i := 9) (v := ?_) rfl (by kernel_rfl) (by kernel_rfl) (by kernel_rfl) (fun _ _ _ h => h) (Or.inl ⟨by rfl, ?_⟩) (by assumption) ?_
        rotate_left
        · intro w hSw
          (try dsimp only at hSw)
          go_simp
          (try with_reducible rfl)
        (try simp only [Act.put, List.setIfInBounds_toArray, List.set_cons_zero, List.set_cons_succ, List.getElem_toArray, List.getElem_cons_succ, List.getElem_cons_zero])
        refine wpAnyH_take (i := 10) (v := _) rfl (by kernel_rfl) (by kernel_rfl) (by kernel_rfl) (fun _ _ _ h => h) (yieldsIf_onCg (by rfl) rfl fnT' rfl (fun _ h => h.2.2.1)) (by assumption) ?_
        (try simp only [Act.put, List.setIfInBounds_toArray, List.set_cons_zero, List.set_cons_succ, List.getElem_toArray, List.getElem_cons_succ, List.getElem_cons_zero])
        refine wpAnyH_take (i := 11) (v := ?_) rfl (by kernel_rfl) (by kernel_rfl) (by kernel_rfl) (fun _ _ _ h => h) (Or.inl ⟨by rfl, ?_⟩) (by assumption) ?_
        rotate_left
        · intro w hSw
          (try dsimp only at hSw)
          go_simp
          (try with_reducible rfl)
        (try simp only [Act.put, List.setIfInBounds_toArray, List.set_cons_zero, List.set_cons_succ, List.getElem_toArray, List.getElem_cons_succ, List.getElem_cons_zero])
        refine wpAnyH_take (i := 12) (v := ?_) rfl (by kernel_rfl) (by kernel_rfl) (by kernel_rfl) (fun _ _ _ h => h) (Or.inl ⟨by rfl, ?_⟩) (by assumption) ?_
        rotate_left
        · intro w hSw
          (try dsimp only at hSw)
          go_simp
          (try with_reducible rfl)
        (try simp only [Act.put, List.setIfInBounds_toArray, List.set_cons_zero, List.set_cons_succ, List.getElem_toArray, List.getElem_cons_succ, List.getElem_cons_zero])
        refine wpAnyH_take (i := 13) (v := ?_) rfl (by kernel_rfl) (by kernel_rfl) (by kernel_rfl) (fun _ _ _ h => h) (Or.inl ⟨by rfl, ?_⟩) (by assumption) ?_
        rotate_left
        · intro w hSw
          (try dsimp only at hSw)
          go_simp
          (try with_reducible rfl)
        (try simp only [Act.put, List.setIfInBounds_toArray, List.set_cons_zero, List.set_cons_succ, List.getElem_toArray, List.getElem_cons_succ, List.getElem_cons_zero])
        refine wpAnyH_take (i := 14) (v := ?_) rfl (by kernel_rfl) (by kernel_rfl) (by kernel_rfl) (fun _ _ _ h => h) (Or.inl ⟨by rfl, ?_⟩) (by assumption) ?_
        rotate_left
        · intro w hSw
          (try dsimp only at hSw)
          go_simp
          (try with_reducible rfl)
        (try simp only [Act.put, List.setIfInBounds_toArray, List.set_cons_zero, List.set_cons_succ, List.getElem_toArray, List.getElem_cons_succ, List.getElem_cons_zero])
        refine wpAnyH_take (i := 15) (v := _) rfl (by kernel_rfl) (by kernel_rfl) (by kernel_rfl) (fun _ _ _ h => h) (yieldsIf_onCg (by rfl) rfl fnT' rfl (fun _ h => h.2.2.2)) (by assumption) ?_
        (try simp only [Act.put, List.setIfInBounds_toArray, List.set_cons_zero, List.set_cons_succ, List.getElem_toArray, List.getElem_cons_succ, List.getElem_cons_zero])
        refine wpAnyH_ready (rs := [16]) (by kernel_rfl) (by simp) ?_
        refine AllReadyH.cons rfl (fun K hK => ?_) AllReadyH.nil
        go_simp
        (go_at_call 8; refine CS.out.mono ?_; rintro e w16 ⟨rfl, hb16⟩; have HS16 := Lib.hid (HK.out.drew.belowJ hb16); have HB16 := Lib.hid hb16; clear hb16)
        refine hK.out _ _ (⟨HS16.out.cell 1 rfl 0, HS16.out.cell 5 rfl 0, OC.out.kept HB16.out, OA.out.kept HB16.out⟩) (fun hHeld => ?_)
        clear hK K
        (try simp only [Act.put, List.setIfInBounds_toArray, List.set_cons_zero, List.set_cons_succ, List.getElem_toArray, List.getElem_cons_succ, List.getElem_cons_zero])
        refine wpAnyH_take (i := 17) (v := ?_) rfl (by kernel_rfl) (by kernel_rfl) (by kernel_rfl) (fun _ _ _ h => h) (Or.inl ⟨by rfl, ?_⟩) (by assumption) ?_
        rotate_left
        · intro w hSw
          (try dsimp only at hSw)
          go_simp
          (try with_reducible rfl)
        (try simp only [Act.put, List.setIfInBounds_toArray, List.set_cons_zero, List.set_cons_succ, List.getElem_toArray, List.getElem_cons_succ, List.getElem_cons_zero])
        refine wpAnyH_take (i := 18) (v := ?_) rfl (by kernel_rfl) (by kernel_rfl) (by kernel_rfl) (fun _ _ _ h => h) (Or.inl ⟨by rfl, ?_⟩) (by assumption) ?_
        rotate_left
        · intro w hSw
          (try dsimp only at hSw)
          go_simp
          (try with_reducible rfl)
        (try simp only [Act.put, List.setIfInBounds_toArray, List.set_cons_zero, List.set_cons_succ, List.getElem_toArray, List.getElem_cons_succ, List.getElem_cons_zero])
        refine wpAnyH_done (by kernel_rfl) ?_ _
        have d1 : w16.cell? ⟨b_pa, 0, none⟩ = some (.slice (some aA) na c_A) := HS16.out.cell 5 rfl 0
        go_wp2
        have hg1 : (na ≤ k) ↔ False := ⟨fun h => absurd h (Nat.not_le_of_lt hla), False.elim⟩
        have hg2 : decide (na ≤ k) = false := decide_eq_false (Nat.not_le_of_lt hla)
        go_quiet (fail)
        go_wp2
        exact ⟨⟨k + 1, by omega, by first | exact congrArg (Value.int .i64) hk1 | rfl, Lib.hid (HS16.out.drewN _)⟩, by first | (rw [hk1]; simp [intOf]; omega) | (simp [intOf]; omega)⟩
      · obtain ⟨j, hj⟩ : ∃ j, k = na + j := ⟨k - na, by omega⟩
        have hlaI : ¬ (k : Int) < (na : Int) := by omega
        have hlaN : (na : Int) ≤ (k : Int) := by omega
        have hjb : j < nb := by have := HX.out.2.2.2.2.1; omega
        have hjI : (j : Int) < (nb : Int) := by omega
        have hj0 : (0 : Int) ≤ (j : Int) := Int.natCast_nonneg j
        have hj1 : wrap64 ((k : Int) - (na : Int)) = (j : Int) := (sub_wrap k na j hj hkb).1
        have hj2 : IntKind.i64.wrap ((k : Int) - (na : Int)) = (j : Int) := (sub_wrap k na j hj hkb).2
        obtain ⟨f, hf⟩ : ∃ f, B[j]? = some f := ⟨_, List.getElem?_eq_getElem (by rw [HX.out.2.2.1]; exact hjb)⟩
        have hfC : C[k]? = some (Sx.F.on d f) := by rw [← HX.out.1, List.getElem?_append_right (by rw [HX.out.2.1]; omega), HX.out.2.1, show k - na = j by omega, List.getElem?_map, hf]; rfl
        have HKK := fun n => HK.out.drewN n
        have hsm := HX.out.2.2.2.2.2.2.2.1 f (List.mem_of_getElem? hf)
        have HF := Lib.hid (And.intro hf (And.intro hfC (And.intro hsm HX.out.2.2.2.2.2.1)))
        clear hf hfC hsm hj HKK
        go_wp2
        go_quiet (fail)
        go_wp2
        have HV := Lib.hid (HK.out.drewN nq)
        generalize wr.drewN nq = V at HV ⊢
        obtain ⟨aC, vpC, vbC, rC, oC, pC, sC⟩ := HV.out.drew.fsGet 0 rfl HF.out.2.1
        obtain ⟨aB, vpB, vbB, rB, oB, pB, sB⟩ := HV.out.drew.fsGet 2 rfl HF.out.1
        subst rC rB
        have CS := Lib.hid (samef f HF.out.2.2.1 d V.drew HV.out.drew.tab vpC vbC vpB vbB HF.out.2.2.2 pC sC pB sB)
        have OC := Lib.hid (show OnC V.drew (aC.add (k * 8)) (fnA (f.pos + (d : Int)) f.name vpC f.has f.result.elem f.result.len f.result.label vbC).toList from oC)
        have OB := Lib.hid oB
        clear pC sC pB sB oC oB
        refine wp_region_held_drew (S := fun w' => w'.cell? ⟨b_pc, 0, none⟩ = some (.slice (some aC) nc c_C) ∧ w'.cell? ⟨b_pb, 0, none⟩ = some (.slice (some aB) nb c_B) ∧ w'.cell? ⟨b_pa, 0, none⟩ = some (.slice q_A na c_A) ∧ OnC w' (aC.add (k * 8)) (fnA (f.pos + (d : Int)) f.name vpC f.has f.result.elem f.result.len f.result.label vbC).toList ∧ OnC w' (aB.add (j * 8)) (fnA f.pos f.name vpB f.has f.result.elem f.result.len f.result.label vbB).toList) (by kernel_rfl) (⟨HV.out.drew.cell 1 rfl 0, HV.out.drew.cell 3 rfl 0, HV.out.drew.cell 5 rfl 0, OC.out, OB.out⟩) (fun hHeld => ?_)
        refine wpAnyH_take (i := 0) (v := ?_) rfl (by kernel_rfl) (by kernel_rfl) (by kernel_rfl) (fun _ _ _ h => h) (Or.inl ⟨by rfl, ?_⟩) (by assumption) ?_
        rotate_left
        · intro w hSw
          (try dsimp only at hSw)
          go_simp
          (try with_reducible rfl)
        (try simp only [Act.put, List.setIfInBounds_toArray, List.set_cons_zero, List.set_cons_succ, List.getElem_toArray, List.getElem_cons_succ, List.getElem_cons_zero])
        refine wpAnyH_take (i := 1) (v := ?_) rfl (by kernel_rfl) (by kernel_rfl) (by kernel_rfl) (fun _ _ _ h => h) (Or.inl ⟨by rfl, ?_⟩) (by assumption) ?_
        rotate_left
        · intro w hSw
          (try dsimp only at hSw)
          go_simp
          (try with_reducible rfl)
        (try simp only [Act.put, List.setIfInBounds_toArray, List.set_cons_zero, List.set_cons_succ, List.getElem_toArray, List.getElem_cons_succ, List.getElem_cons_zero])
        refine wpAnyH_take (i := 2) (v := ?_) rfl (by kernel_rfl) (by kernel_rfl) (by kernel_rfl) (fun _ _ _ h => h) (Or.inl ⟨by rfl, ?_⟩) (by assumption) ?_
        rotate_left
        · intro w hSw
          (try dsimp only at hSw)
          go_simp
          (try with_reducible rfl)
        (try simp only [Act.put, List.setIfInBounds_toArray, List.set_cons_zero, List.set_cons_succ, List.getElem_toArray, List.getElem_cons_succ, List.getElem_cons_zero])
        refine wpAnyH_take (i := 3) (v := ?_) rfl (by kernel_rfl) (by kernel_rfl) (by kernel_rfl) (fun _ _ _ h => h) (Or.inl ⟨by rfl, ?_⟩) (by assumption) ?_
        rotate_left
        · intro w hSw
          (try dsimp only at hSw)
          go_simp
          (try with_reducible rfl)
        (try simp only [Act.put, List.setIfInBounds_toArray, List.set_cons_zero, List.set_cons_succ, List.getElem_toArray, List.getElem_cons_succ, List.getElem_cons_zero])
        refine wpAnyH_take (i := 4) (v := ?_) rfl (by kernel_rfl) (by kernel_rfl) (by kernel_rfl) (fun _ _ _ h => h) (Or.inl ⟨by rfl, ?_⟩) (by assumption) ?_
        rotate_left
        · intro w hSw
          (try dsimp only at hSw)
          go_simp
          (try with_reducible rfl)
        (try simp only [Act.put, List.setIfInBounds_toArray, List.set_cons_zero, List.set_cons_succ, List.getElem_toArray, List.getElem_cons_succ, List.getElem_cons_zero])
        refine wpAnyH_take (i := 5) (v := ?_) rfl (by kernel_rfl) (by kernel_rfl) (by kernel_rfl) (fun _ _ _ h => h) (Or.inl ⟨by rfl, ?_⟩) (by assumption) ?_
        rotate_left
        · intro w hSw
          (try dsimp only at hSw)
          go_simp
          (try with_reducible rfl)
        (try simp only [Act.put, List.setIfInBounds_toArray, List.set_cons_zero, List.set_cons_succ, List.getElem_toArray, List.getElem_cons_succ, List.getElem_cons_zero])
        refine wpAnyH_take (i := 6) (v := ?_) rfl (by kernel_rfl) (by kernel_rfl) (by kernel_rfl) (fun _ _ _ h => h) (Or.inl ⟨by rfl, ?_⟩) (by assumption) ?_
        rotate_left
        · intro w hSw
          (try dsimp only at hSw)
          go_simp
          (try with_reducible rfl)
        (try simp only [Act.put, List.setIfInBounds_toArray, List.set_cons_zero, List.set_cons_succ, List.getElem_toArray, List.getElem_cons_succ, List.getElem_cons_zero])
        refine wpAnyH_take (i := 7) (v := ?_) rfl (by kernel_rfl) (by kernel_rfl) (by kernel_rfl) (fun _ _ _ h => h) (Or.inl ⟨by rfl, ?_⟩) (by assumption) ?_
        rotate_left
        · intro w hSw
          (try dsimp only at hSw)
          go_simp
          (try with_reducible rfl)
        (try simp only [Act.put, List.setIfInBounds_toArray, List.set_cons_zero, List.set_cons_succ, List.getElem_toArray, List.getElem_cons_succ, List.getElem_cons_zero])
        refine wpAnyH_take (i := 8) (v := ?_) rfl (by kernel_rfl) (by kernel_rfl) (by kernel_rfl) (fun _ _ _ h => h) (Or.inl ⟨by rfl, ?_⟩) (by assumption) ?_
        rotate_left
        · intro w hSw
          (try dsimp only at hSw)
          go_simp
          (try with_reducible rfl)
        (try simp only [Act.put, List.setIfInBounds_toArray, List.set_cons_zero, List.set_cons_succ, List.getElem_toArray, List.getElem_cons_succ, List.getElem_cons_zero])
        refine wpAnyH_take (i := 9) (v := ?_) rfl (by kernel_rfl) (by kernel_rfl) (by kernel_rfl) (fun _ _ _ h => h) (Or.inl ⟨by rfl, ?_⟩) (by assumption) ?_
        rotate_left
        · intro w hSw
          (try dsimp only at hSw)
          go_simp
          (try with_reducible rfl)
        (try simp only [Act.put, List.setIfInBounds_toArray, List.set_cons_zero, List.set_cons_succ, List.getElem_toArray, List.getElem_cons_succ, List.getElem_cons_zero])
        refine wpAnyH_take (i := 10) (v := _) rfl (by kernel_rfl) (by kernel_rfl) (by kernel_rfl) (fun _ _ _ h => h) (yieldsIf_onCg (by rfl) rfl fnT' rfl (fun _ h => h.2.2.2.1)) (by assumption) ?_
        (try simp only [Act.put, List.setIfInBounds_toArray, List.set_cons_zero, List.set_cons_succ, List.getElem_toArray, List.getElem_cons_succ, List.getElem_cons_zero])
        refine wpAnyH_take (i := 11) (v := ?_) rfl (by kernel_rfl) (by kernel_rfl) (by kernel_rfl) (fun _ _ _ h => h) (Or.inl ⟨by rfl, ?_⟩) (by assumption) ?_
        rotate_left
        · intro w hSw
          (try dsimp only at hSw)
          go_simp
          (try with_reducible rfl)
        (try simp only [Act.put, List.setIfInBounds_toArray, List.set_cons_zero, List.set_cons_succ, List.getElem_toArray, List.getElem_cons_succ, List.getElem_cons_zero])
        refine wpAnyH_take (i := 12) (v := ?_) rfl (by kernel_rfl) (by kernel_rfl) (by kernel_rfl) (fun _ _ _ h => h) (Or.inl ⟨by rfl, ?_⟩) (by assumption) ?_
        rotate_left
        · intro w hSw
          (try dsimp only at hSw)
          go_simp
          (try with_reducible rfl)
        (try simp only [Act.put, List.setIfInBounds_toArray, List.set_cons_zero, List.set_cons_succ, List.getElem_toArray, List.getElem_cons_succ, List.getElem_cons_zero])
        refine wpAnyH_take (i := 13) (v := ?_) rfl (by kernel_rfl) (by kernel_rfl) (by kernel_rfl) (fun _ _ _ h => h) (Or.inl ⟨by rfl, ?_⟩) (by assumption) ?_
        rotate_left
        · intro w hSw
          (try dsimp only at hSw)
          go_simp
          (try with_reducible rfl)
        (try simp only [Act.put, List.setIfInBounds_toArray, List.set_cons_zero, List.set_cons_succ, List.getElem_toArray, List.getElem_cons_succ, List.getElem_cons_zero])
        refine wpAnyH_take (i := 14) (v := ?_) rfl (by kernel_rfl) (by kernel_rfl) (by kernel_rfl) (fun _ _ _ h => h) (Or.inl ⟨by rfl, ?_⟩) (by assumption) ?_
        rotate_left
        · intro w hSw
          (try dsimp only at hSw)
          go_simp
          (try with_reducible rfl)
        (try simp only [Act.put, List.setIfInBounds_toArray, List.set_cons_zero, List.set_cons_succ, List.getElem_toArray, List.getElem_cons_succ, List.getElem_cons_zero])
        refine wpAnyH_take (i := 15) (v := ?_) rfl (by kernel_rfl) (by kernel_rfl) (by kernel_rfl) (fun _ _ _ h => h) (Or.inl ⟨by rfl, ?_⟩) (by assumption) ?_
        rotate_left
        · intro w hSw
          (try dsimp only at hSw)
          go_simp
          (try with_reducible rfl)
        (try simp only [Act.put, List.setIfInBounds_toArray, List.set_cons_zero, List.set_cons_succ, List.getElem_toArray, List.getElem_cons_succ, List.getElem_cons_zero])
        refine wpAnyH_take (i := 16) (v := ?_) rfl (by kernel_rfl) (by kernel_rfl) (by kernel_rfl) (fun _ _ _ h => h) (Or.inl ⟨by rfl, ?_⟩) (by assumption) ?_
        rotate_left
        · intro w hSw
          (try dsimp only at hSw)
          go_simp
          (try with_reducible rfl)
        (try simp only [Act.put, List.setIfInBounds_toArray, List.set_cons_zero, List.set_cons_succ, List.getElem_toArray, List.getElem_cons_succ, List.getElem_cons_zero])
        refine wpAnyH_take (i := 17) (v := ?_) rfl (by kernel_rfl) (by kernel_rfl) (by kernel_rfl) (fun _ _ _ h => h) (Or.inl ⟨by rfl, ?_⟩) (by assumption) ?_
        rotate_left
        · intro w hSw
          (try dsimp only at hSw)
          go_simp
          (try with_reducible rfl)
        (try simp only [Act.put, List.setIfInBounds_toArray, List.set_cons_zero, List.set_cons_succ, List.getElem_toArray, List.getElem_cons_succ, List.getElem_cons_zero])
        refine wpAnyH_take (i := 18) (v := ?_) rfl (by kernel_rfl) (by kernel_rfl) (by kernel_rfl) (fun _ _ _ h => h) (Or.inl ⟨by rfl, ?_⟩) (by assumption) ?_
        rotate_left
        · intro w hSw
          (try dsimp only at hSw)
          go_simp
          (try with_reducible rfl)
        (try simp only [Act.put, List.setIfInBounds_toArray, List.set_cons_zero, List.set_cons_succ, List.getElem_toArray, List.getElem_cons_succ, List.getElem_cons_zero])
        refine wpAnyH_take (i := 19) (v := _) rfl (by kernel_rfl) (by kernel_rfl) (by kernel_rfl) (fun _ _ _ h => h) (yieldsIf_onCg (by rfl) rfl fnT' rfl (fun _ h => h.2.2.2.2)) (by assumption) ?_
        (try simp only [Act.put, List.setIfInBounds_toArray, List.set_cons_zero, List.set_cons_succ, List.getElem_toArray, List.getElem_cons_succ, List.getElem_cons_zero])
        refine wpAnyH_take (i := 20) (v := ?_) rfl (by kernel_rfl) (by kernel_rfl) (by kernel_rfl) (fun _ _ _ h => h) (Or.inl ⟨by rfl, ?_⟩) (by assumption) ?_
        rotate_left
        · intro w hSw
          (try dsimp only at hSw)
          go_simp
          (try with_reducible rfl)
        (try simp only [Act.put, List.setIfInBounds_toArray, List.set_cons_zero, List.set_cons_succ, List.getElem_toArray, List.getElem_cons_succ, List.getElem_cons_zero])
        refine wpAnyH_take (i := 21) (v := ?_) rfl (by kernel_rfl) (by kernel_rfl) (by kernel_rfl) (fun _ _ _ h => h) (Or.inl ⟨by rfl, ?_⟩) (by assumption) ?_
        rotate_left
        · intro w hSw
          (try dsimp only at hSw)
          go_simp
          (try with_reducible rfl)
        (try simp only [Act.put, List.setIfInBounds_toArray, List.set_cons_zero, List.set_cons_succ, List.getElem_toArray, List.getElem_cons_succ, List.getElem_cons_zero])
        refine wpAnyH_take (i := 22) (v := ?_) rfl (by kernel_rfl) (by kernel_rfl) (by kernel_rfl) (fun _ _ _ h => h) (Or.inl ⟨by rfl, ?_⟩) (by assumption) ?_
        rotate_left
        · intro w hSw
          (try dsimp only at hSw)
          go_simp
          (try with_reducible rfl)
        (try simp only [Act.put, List.setIfInBounds_toArray, List.set_cons_zero, List.set_cons_succ, List.getElem_toArray, List.getElem_cons_succ, List.getElem_cons_zero])
        refine wpAnyH_ready (rs := [23]) (by kernel_rfl) (by simp) ?_
        refine AllReadyH.cons rfl (fun K hK => ?_) AllReadyH.nil
        go_simp
        (go_at_call 8; refine CS.out.mono ?_; rintro e w16 ⟨rfl, hb16⟩; have HS16 := Lib.hid (HV.out.drew.belowJ hb16); have HB16 := Lib.hid hb16; clear hb16)
        refine hK.out _ _ (⟨HS16.out.cell 1 rfl 0, HS16.out.cell 3 rfl 0, HS16.out.cell 5 rfl 0, OC.out.kept HB16.out, OB.out.kept HB16.out⟩) (fun hHeld => ?_)
        clear hK K
        (try simp only [Act.put, List.setIfInBounds_toArray, List.set_cons_zero, List.set_cons_succ, List.getElem_toArray, List.getElem_cons_succ, List.getElem_cons_zero])
        refine wpAnyH_take (i := 24) (v := ?_) rfl (by kernel_rfl) (by kernel_rfl) (by kernel_rfl) (fun _ _ _ h => h) (Or.inl ⟨by rfl, ?_⟩) (by assumption) ?_
        rotate_left
        · intro w hSw
          (try dsimp only at hSw)
          go_simp
          (try with_reducible rfl)
        (try simp only [Act.put, List.setIfInBounds_toArray, List.set_cons_zero, List.set_cons_succ, List.getElem_toArray, List.getElem_cons_succ, List.getElem_cons_zero])
        refine wpAnyH_take (i := 25) (v := ?_) rfl (by kernel_rfl) (by kernel_rfl) (by kernel_rfl) (fun _ _ _ h => h) (Or.inl ⟨by rfl, ?_⟩) (by assumption) ?_
        rotate_left
        · intro w hSw
          (try dsimp only at hSw)
          go_simp
          (try with_reducible rfl)
        (try simp only [Act.put, List.setIfInBounds_toArray, List.set_cons_zero, List.set_cons_succ, List.getElem_toArray, List.getElem_cons_succ, List.getElem_cons_zero])
        refine wpAnyH_done (by kernel_rfl) ?_ _
        go_wp2
        exact ⟨⟨k + 1, by omega, by first | exact congrArg (Value.int .i64) hk1 | rfl, HS16⟩, by first | (rw [hk1]; simp [intOf]; omega) | (simp [intOf]; omega)⟩
    · have hge : ¬ (k : Int) < (nc : Int) := by omega
      go_wp2_with (first | (go_at_call 6; refine (St.call (pre := []) HK.out lives_Fn).mono ?_; rintro e w90 ⟨J, ⟨rfl, rfl⟩, hs⟩; simp only [List.cons_append, List.nil_append] at hs; have HS90 := Lib.hid hs; clear hs))
      go_ret
      exact ⟨_, ⟨rfl, rfl⟩, HS90.out.sel [] rfl⟩
theorem joins_Fn (a0 a1 : ByteArray) : Fn 3 #[.string a0, .string a1] [] fun e J => e = .returned (.bool true) ∧ J = [] := by
  by_cases h1 : (20000 : Int) < (a0.size : Int)
  · exact joins_long a0 a1 (Or.inl h1)
  by_cases h2 : (20000 : Int) < (a1.size : Int)
  · exact joins_long a0 a1 (Or.inr h2)
  cases hA : Sx.parse a0.data.toList with
  | error q =>
    obtain ⟨ea, na⟩ := q
    cases hB : Sx.parse a1.data.toList with
    | error q' =>
      obtain ⟨eb, nb⟩ := q'
      exact joins_no3 a0 a1 h1 h2 ea na hA (Sx.parse_bad hA) eb nb hB (Sx.parse_bad hB)
    | ok B => exact joins_no1 a0 a1 h1 h2 ea na hA (Sx.parse_bad hA) B hB
  | ok A =>
    cases hB : Sx.parse a1.data.toList with
    | error q' =>
      obtain ⟨eb, nb⟩ := q'
      exact joins_no2 a0 a1 h1 h2 A hA eb nb hB (Sx.parse_bad hB)
    | ok B => exact joins_ok a0 a1 h1 h2 A hA B hB
end Go.Proofs.YtbnhegipdfkdgaaDoor
