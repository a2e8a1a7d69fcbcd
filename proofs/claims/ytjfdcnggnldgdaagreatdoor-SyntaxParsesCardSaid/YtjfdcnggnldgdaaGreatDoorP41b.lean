/-
What the document's SameExprs tells of expressions of which one is the other further on.
From the row's condition on the table of signs between two to the table's cells.
What the document's SameStmts tells of statements of which one is the other further on.
-/
import Derived.BigQuiet
import Derived.Test.YtjfdcnggnldgdaaGreatDoorP39a
import Derived.Test.YtjfdcnggnldgdaaGreatDoorP11a
import Derived.Deep.Strs
import Derived.OpenShut
import Derived.Test.YtjfdcnggnldgdaaGreatDoorRows
section
namespace Go.Proofs.YtjfdcnggnldgdaaGreatDoor
open Go.ChangeShapes Go.WideShapes Go.ChangeAt Go.RowKit
set_option linter.unusedVariables false
set_option linter.unusedSimpArgs false

/-- expressions behind a slice's value, to be read -/
def lsOn (w : World) (v : Value) (es : List Sx.E) : Prop := ∃ xs P, OwnP w P 55 5 v es.length xs ∧ elOn w P es xs
theorem onL_len (d : Nat) : ∀ es : List Sx.E, (Sx.E.onL d es).length = es.length
  | [] => by rw [Sx.onL_nil]
  | e :: es => by rw [Sx.onL_cons, List.length_cons, List.length_cons, onL_len d es]
theorem onL_at (d : Nat) : ∀ (es : List Sx.E) (k : Nat) (e : Sx.E), es[k]? = some e → (Sx.E.onL d es)[k]? = some (Sx.E.on d e)
  | [], k, e, h => by cases h
  | x :: es, 0, e, h => by cases h; rw [Sx.onL_cons]; rfl
  | x :: es, k + 1, e, h => by rw [Sx.onL_cons, List.getElem?_cons_succ]; exact onL_at d es k e (by simpa using h)
/-- an element's cells -/
theorem el_at {w : World} {P : Nat → Prop} : ∀ (es : List Sx.E) (xs : List Value) (k : Nat) (kk p n : Int) (nm : List UInt8) (ar : List Sx.E), elOn w P es xs → es[k]? = some (.mk kk p n nm ar) →
    ∃ v, (∀ j u, (exA kk p n nm v).toList[j]? = some u → xs[k * 5 + j]? = some u) ∧ lsOn w v ar
  | [], xs, k, kk, p, n, nm, ar, h, hk => by cases hk
  | x :: es, xs, 0, kk, p, n, nm, ar, h, hk => by
    cases hk
    rw [elOn] at h
    obtain ⟨c, r, rfl, h1, _⟩ := h
    rw [exOn] at h1
    obtain ⟨v, ys, rfl, h2, h3⟩ := h1
    refine ⟨v, fun j u hj => ?_, ys, P, h2, h3⟩
    rw [Nat.zero_mul, Nat.zero_add]
    exact (List.getElem?_append_left (List.getElem?_eq_some_iff.1 hj).1).trans hj
  | x :: es, xs, k + 1, kk, p, n, nm, ar, h, hk => by
    rw [elOn] at h
    obtain ⟨c, r, rfl, h1, h2⟩ := h
    have hl := exOn_len _ _ h1
    obtain ⟨v, h3, h4⟩ := el_at es r k kk p n nm ar h2 (by simpa using hk)
    refine ⟨v, fun j u hj => ?_, h4⟩
    rw [List.getElem?_append_right (by omega), hl, show (k + 1) * 5 + j - 5 = k * 5 + j by omega]
    exact h3 j u hj
/-- an element's cells, where they lie -/
theorem ls_at {w : World} {v : Value} {es : List Sx.E} (h : lsOn w v es) : ∃ q cap, v = .slice q es.length cap ∧ ∀ (k : Nat) (kk p n : Int) (nm : List UInt8) (ar : List Sx.E), es[k]? = some (.mk kk p n nm ar) → ∃ a v', q = some a ∧ lsOn w v' ar ∧
    w.cell? (a.add (k * 5)) = some (.int .i64 kk) ∧ w.cell? ⟨(a.add (k * 5)).block, (a.add (k * 5)).off + 1, none⟩ = some (.int .i64 p) ∧ w.cell? ⟨(a.add (k * 5)).block, (a.add (k * 5)).off + 2, none⟩ = some (.int .i64 n) ∧ w.cell? ⟨(a.add (k * 5)).block, (a.add (k * 5)).off + 3, none⟩ = some (.string (Lx.S nm)) ∧ w.cell? ⟨(a.add (k * 5)).block, (a.add (k * 5)).off + 4, none⟩ = some v' := by
  obtain ⟨xs, P, h1, h2⟩ := h
  by_cases h0 : es.length = 0
  · obtain ⟨q, cap, hv⟩ := own_len h1
    refine ⟨q, cap, hv, fun k kk p n nm ar hk => ?_⟩
    have := (List.getElem?_eq_some_iff.1 hk).1
    omega
  · obtain ⟨g, cap, hv, _, hc⟩ := own_on h1 h0
    refine ⟨_, cap, hv, fun k kk p n nm ar hk => ?_⟩
    obtain ⟨v', h3, h4⟩ := el_at es xs k kk p n nm ar h2 hk
    have ha : (⟨g, 0, none⟩ : Addr).add (k * 5) = ⟨g, k * 5, none⟩ := by unfold Addr.add; split <;> simp_all
    refine ⟨⟨g, 0, none⟩, v', rfl, h4, ?_⟩
    rw [ha]
    exact ⟨hc.at0 (k * 5) (h3 0 _ rfl), hc.at0 (k * 5 + 1) (h3 1 _ rfl), hc.at0 (k * 5 + 2) (h3 2 _ rfl), hc.at0 (k * 5 + 3) (h3 3 _ rfl), hc.at0 (k * 5 + 4) (h3 4 _ rfl)⟩
theorem lsOn.drewN {w : World} {v : Value} {es : List Sx.E} (h : lsOn w v es) (n : Nat) : lsOn (w.drewN n) v es := by
  obtain ⟨xs, P, h1, h2⟩ := h
  have h3 : elOn (w.drewN n) P es xs := elOn_mono (w := w) (w' := w.drewN n) (fun _ _ => rfl) (fun _ h => h) es xs h2
  exact ⟨xs, P, h1.mono (w' := w.drewN n) (fun _ _ => rfl) (fun _ h => h), h3⟩
/-- a world from which only chances were drawn -/
def Dr (w w' : World) : Prop := ∃ m, w' = w.drewN m
theorem Dr.refl (w : World) : Dr w w := ⟨0, rfl⟩
theorem Dr.trans {a b c : World} (h : Dr a b) (h' : Dr b c) : Dr a c := by
  obtain ⟨m, rfl⟩ := h
  obtain ⟨n, rfl⟩ := h'
  exact ⟨m + n, World.drewN_drewN _ _ _⟩
theorem lsOn.dr {w w' : World} {v : Value} {es : List Sx.E} (h : lsOn w v es) (hd : Dr w w') : lsOn w' v es := by
  obtain ⟨m, rfl⟩ := hd
  exact h.drewN m
/-- what SameExprs tells of expressions further on -/
def SE (es : List Sx.E) : Prop := ∀ (d : Nat) (w : World) (v v' : Value), d ≤ 100000 → lsOn w v (Sx.E.onL d es) → lsOn w v' es → Calls Tryz.prog 136 #[v, v', .int .i64 (d : Int)] w fun e w' => e = .returned (.bool true) ∧ Dr w w'
set_option maxHeartbeats 8000000 in
set_option maxRecDepth 100000 in
theorem same_list (es : List Sx.E) (hbig : es.length ≤ 281474976710656) (hE : ∀ e ∈ es, (match e with | .mk _ p _ _ ar => SE ar ∧ -1000000 ≤ p ∧ p ≤ 1000000)) : SE es := by
  intro d w v v' hd h1 h2
  have H1 := Lib.hid h1
  have H2 := Lib.hid h2
  obtain ⟨q1, c1, rfl, _⟩ := ls_at h1
  obtain ⟨q2, c2, rfl, _⟩ := ls_at h2
  rw [onL_len] at H1 ⊢
  obtain ⟨n, hn⟩ : ∃ n, es.length = n := ⟨_, rfl⟩
  rw [hn] at H1 H2 hbig ⊢
  have HN := Lib.hid hn
  have HE := Lib.hid hE
  have HD := Lib.hid hd
  have hd0 : (0 : Int) ≤ (d : Int) := Int.natCast_nonneg d
  have HB := Lib.hid hbig
  clear h1 h2 hn hE hd hbig
  go_enter Tryz.func136, Tryz.ntmps136
  go_wp2
  go_loopw [7] (fun K wr => ∃ k : Nat, k ≤ n ∧ K = .int .i64 (k : Int) ∧ Hid (Dr w wr)) (fun K _ => n - (intOf K).toNat)
  case atStart => exact ⟨0, Nat.zero_le _, rfl, Lib.hid (Dr.refl w)⟩
  case round =>
    obtain ⟨k, hk, rfl, hB⟩ := hrel
    by_cases hlt : k < n
    · have hltI : (k : Int) < (n : Int) := by omega
      obtain ⟨e, he⟩ : ∃ e, es[k]? = some e := ⟨_, List.getElem?_eq_getElem (by rw [HN.out]; exact hlt)⟩
      obtain ⟨kk, p, nn, nm, ar⟩ := e
      have hE1 := HE.out _ (List.mem_of_getElem? he)
      obtain ⟨hS, hp1, hp2⟩ := hE1
      have G1 := H1.out.dr hB.out
      have G2 := H2.out.dr hB.out
      obtain ⟨q2', c2', e2, g2⟩ := ls_at G2
      obtain ⟨a2, v2, r2, l2, y0, y1, y2, y3, y4⟩ := g2 k kk p nn nm ar he
      have he1 := onL_at d es k _ he
      rw [Sx.on_mk] at he1
      obtain ⟨q1', c1', e1, g1⟩ := ls_at G1
      obtain ⟨a1, v1, r1, l1, x0, x1, x2, x3, x4⟩ := g1 k kk (p + d) nn nm (Sx.E.onL d ar) he1
      injection e1 with e1 en1 ec1
      injection e2 with e2 en2 ec2
      rw [r1] at e1
      rw [r2] at e2
      subst e1
      subst e2
      have C1 : Hid (∀ nq, Calls Tryz.prog 136 #[v1, v2, .int .i64 (d : Int)] (wr.drewN nq) fun e w' => e = .returned (.bool true) ∧ ∃ m, w' = (wr.drewN nq).drewN m) := Lib.hid (fun nq => hS d (wr.drewN nq) v1 v2 HD.out (l1.drewN nq) (l2.drewN nq))
      have hw : wrap64 (p + (d : Int)) = p + (d : Int) := by have := HD.out; simp only [wrap64]; omega
      have hw2 : IntKind.i64.wrap (p + (d : Int)) = p + (d : Int) := by have := HD.out; rw [IntKind.wrap_i64]; omega
      have hk1 : wrap64 ((k : Int) + 1) = ((k + 1 : Nat) : Int) := by have := HB.out; simp only [wrap64]; omega
      obtain ⟨pd, hpd⟩ : ∃ pd, p + (d : Int) = pd := ⟨_, rfl⟩
      have hw3 : wrap64 (p + (d : Int)) = pd := hw.trans hpd
      have hw4 : IntKind.i64.wrap (p + (d : Int)) = pd := hw2.trans hpd
      rw [hpd] at x1
      clear hpd hw hw2
      clear en1 ec1 en2 ec2 he he1 hS l1 l2 hp1 hp2 g1 g2 G1 G2 r1 r2
      go_wp2
      go_quiet ((go_at_call 136; exact Calls.quiet_of (C1.out _)))
      go_wp2
      exact ⟨⟨k + 1, by omega, congrArg (Value.int .i64) hk1, Lib.hid (hB.out.trans ⟨_, rfl⟩)⟩, by rw [hk1]; simp [intOf]; omega⟩
    · have hge : ¬ (k : Int) < (n : Int) := by omega
      go_wp2
      go_ret
      exact ⟨rfl, hB.out⟩
/-- what same_list asks of an element -/
def SEl (e : Sx.E) : Prop := match e with | .mk _ p _ _ ar => SE ar ∧ -1000000 ≤ p ∧ p ≤ 1000000
mutual
theorem sel_E : ∀ e : Sx.E, smE e → SEl e
  | .mk k p n nm ar, h => by
    rw [smE] at h
    exact ⟨same_list ar h.1.2 (sel_L ar h.2), h.1.1.1, h.1.1.2⟩
theorem sel_L : ∀ es : List Sx.E, smL es → ∀ e ∈ es, SEl e
  | [], _, e, he => by cases he
  | x :: es, h, e, he => by
    rw [smL] at h
    rcases List.mem_cons.1 he with h1 | h1
    · rw [h1]
      exact sel_E x h.1
    · exact sel_L es h.2 e h1
end
/-- SameExprs, of the true way -/
theorem same_E (es : List Sx.E) (hl : es.length ≤ 281474976710656) (h : smL es) : SE es := same_list es hl (sel_L es h)
end Go.Proofs.YtjfdcnggnldgdaaGreatDoor
end
section
namespace Go.Proofs.YtjfdcnggnldgdaaGreatDoor
open Go.ChangeShapes Go.WideShapes Go.ChangeAt Go.RowKit
set_option linter.unusedVariables false
set_option linter.unusedSimpArgs false

section
variable {H : Type} {enc : TypeId × Value → H} {w : World} {base : Nat} {sp : Nat → Bool} {held : Bool} {fuel : Nat} {cs : List Value} {y : DataW H × List MemPlace}
set_option maxRecDepth 100000 in
theorem str_of_trod {s : List UInt8} (h : DataW.trod enc Tryz.prog w base sp held fuel 9 cs = some y) (hy : y.1 = .lit (.string s)) : cs = [.string (Lx.S s)] := by
  cases fuel with
  | zero => simp [DataW.trod] at h
  | succ fuel =>
    unfold DataW.trod at h
    rw [Tryz.underlying9] at h
    split at h <;> simp_all
    rename_i b _
    obtain ⟨_, rfl⟩ := h
    simp at hy
    subst hy
    rfl
set_option maxRecDepth 100000 in
theorem int_of_trod {n : Int} (h : DataW.trod enc Tryz.prog w base sp held fuel 3 cs = some y) (hy : y.1 = .lit (.int .i64 n)) : cs = [.int .i64 n] := by
  cases fuel with
  | zero => simp [DataW.trod] at h
  | succ fuel =>
    unfold DataW.trod at h
    rw [Tryz.underlying3] at h
    split at h <;> simp_all
    obtain ⟨⟨rfl, _⟩, rfl⟩ := h
    simp at hy
    subst hy
    rfl
def entD {H : Type} (x : List UInt8 × Nat × Int) : DataW H := .agg [.lit (.string x.1), .lit (.int .i64 x.2.2), .lit (.int .i64 (x.2.1 : Int))]
def entC (x : List UInt8 × Nat × Int) : List Value := [.string (Lx.S x.1), .int .i64 x.2.2, .int .i64 x.2.1]
theorem ent_cells : Tryz.prog.cellsOf 298 = 3 := by kernel_rfl
theorem str_cells : Tryz.prog.cellsOf 9 = 1 := by kernel_rfl
theorem int_cells : Tryz.prog.cellsOf 3 = 1 := by kernel_rfl
theorem tab_cells : Tryz.prog.cellsOf 299 = 42 := by kernel_rfl
set_option maxRecDepth 100000 in
theorem ent_of_trod {x : List UInt8 × Nat × Int} (h : DataW.trod enc Tryz.prog w base sp held fuel 298 cs = some y) (hy : y.1 = entD x) : cs = entC x := by
  obtain ⟨y0, y1, y2, n, rfl, hl, h0, h1, h2⟩ := Go.Deep.trod_struct3 Tryz.underlying298 h
  rw [ent_cells] at hl
  match cs, hl with
  | [a, b, c], _ =>
    have hy' : y0.1 = .lit (.string x.1) ∧ y1.1 = .lit (.int .i64 x.2.2) ∧ y2.1 = .lit (.int .i64 (x.2.1 : Int)) := by
      unfold entD at hy
      simpa using hy
    have e0 := str_of_trod h0 hy'.1
    have e1 := int_of_trod h1 hy'.2.1
    have e2 := int_of_trod h2 hy'.2.2
    simp only [str_cells, int_cells, List.drop_zero, List.drop_succ_cons, List.take_succ_cons, List.take_zero, List.cons.injEq, and_true] at e0 e1 e2
    unfold entC
    rw [e0, e1, e2]
end
theorem chunks_flat {α : Type} (f : α → List Value) (hf : ∀ x, (f x).length = 3) : ∀ (L : List α) (cs : List Value), cs.length = L.length * 3 → (∀ (i : Nat) (hi : i < L.length), (cs.drop (i * 3)).take 3 = f L[i]) → cs = L.flatMap f
  | [], cs, hl, _ => by simpa using hl
  | x :: L, cs, hl, h => by
    have h0 := h 0 (by simp)
    simp only [Nat.zero_mul, List.drop_zero, List.getElem_cons_zero] at h0
    have ih := chunks_flat f hf L (cs.drop 3) (by rw [List.length_drop, hl, List.length_cons]; omega) (fun i hi => by
      have h1 := h (i + 1) (by simp; omega)
      rw [List.drop_drop, show 3 + i * 3 = (i + 1) * 3 by omega]
      exact h1)
    rw [List.flatMap_cons, ← ih, ← h0, List.take_append_drop]
set_option maxRecDepth 100000 in
theorem tab_of_trod {H : Type} {enc : TypeId × Value → H} {w : World} {base : Nat} {sp : Nat → Bool} {held : Bool} {fuel : Nat} {cs : List Value} {y : DataW H × List MemPlace} (h : DataW.trod enc Tryz.prog w base sp held fuel 299 cs = some y) (hy : y.1 = .agg (Sx.tights.map entD)) : cs = tabC := by
  obtain ⟨xs, m, rfl, rfl, hl, hn, hx⟩ := DataW.trod_array Tryz.underlying299 h
  rw [tab_cells] at hl
  have hm : xs.map (·.1) = Sx.tights.map entD := by simpa using hy
  refine chunks_flat entC (fun _ => rfl) Sx.tights cs (by rw [hl]; rfl) (fun i hi => ?_)
  have hi' : i < 14 := hi
  have h1 := hx i hi'
  rw [ent_cells, List.getElem?_eq_getElem (by omega)] at h1
  refine ent_of_trod h1 ?_
  have h2 : (xs.map (·.1))[i]? = (Sx.tights.map (entD (H := H)))[i]? := by rw [hm]
  rw [List.getElem?_map, List.getElem?_map, List.getElem?_eq_getElem (by omega), List.getElem?_eq_getElem hi] at h2
  simpa using h2
theorem tab_named : Tryz.prog.globalNamed "hauberk/syntax.between" = some 5 := by kernel_rfl
theorem tab_typed : (Tryz.prog.globals[5]?).map (·.type) = some 299 := by kernel_rfl
theorem tab_of_laid {W : World} {n1 n3 : String} {d1 d3 : DataW Unit} (h : laidMet Tryz.prog [(n1, d1), ("hauberk/syntax.between", Rows.laid_hauberk_syntax_between), (n3, d3)] W) : TabAt W := by
  obtain ⟨ps, ⟨g0, t0, cs0, f0, p0, q0, _, _, _, _, ⟨g, t, cs, fuel, p, q, hg, ht, hvar, hd, _, _⟩, _⟩, _⟩ := h
  obtain rfl := Option.some.inj (tab_named.symm.trans hg)
  obtain rfl := Option.some.inj (tab_typed.symm.trans ht)
  have hc : cs.toList = tabC := tab_of_trod hd rfl
  intro j v hj
  rw [World.var?_cell tab_named hvar j, ← Array.getElem?_toList, hc]
  exact hj
/-- a function on no parts that returns true, as a law wants it -/
theorem fun_as_law {f : FuncId} {args : Array Value} (h : Fn f args [] fun e J => e = .returned (.bool true) ∧ J = []) (w : World) (hT : TabAt w) : Calls Tryz.prog f args w fun e w' => e = .returned (.bool true) ∧ Below w.heap.size w w' := by
  refine (h w (fun _ => False) ⟨fun _ h => h.elim, fun h => h, hT⟩ trivial).mono ?_
  rintro e w' ⟨J, ⟨rfl, rfl⟩, hs⟩
  exact ⟨rfl, below_of hs⟩
end Go.Proofs.YtjfdcnggnldgdaaGreatDoor
end
section
namespace Go.Proofs.YtjfdcnggnldgdaaGreatDoor
open Go.ChangeShapes Go.WideShapes Go.ChangeAt Go.RowKit
set_option linter.unusedVariables false
set_option linter.unusedSimpArgs false

set_option maxRecDepth 100000 in
theorem ty_eq (a b c d e f : Int) (w : World) : (Op.equalIn 10000 47 (.agg #[.int .i64 a, .int .i64 b, .int .i64 c]) (.agg #[.int .i64 d, .int .i64 e, .int .i64 f])).run Tryz.prog w = .ok (a == d && b == e && c == f) w := by
  have hp : Tryz.prog.stoodInHeld 47 = false := by kernel_rfl
  have hu : Tryz.prog.underlying 47 = some (.struct (Tryz.prog.fieldsOf 47)) := by kernel_rfl
  have hf : ∃ f0 f1 f2 : Field, (Tryz.prog.fieldsOf 47).toList = [f0, f1, f2] ∧ (f0.name ≠ "_" ∧ f0.type = 3 ∧ f0.offset = 0) ∧ (f1.name ≠ "_" ∧ f1.type = 3 ∧ f1.offset = 1) ∧ (f2.name ≠ "_" ∧ f2.type = 3 ∧ f2.offset = 2) :=
    ⟨_, _, _, rfl, ⟨by decide, rfl, rfl⟩, ⟨by decide, rfl, rfl⟩, ⟨by decide, rfl, rfl⟩⟩
  obtain ⟨f0, f1, f2, hl, ⟨n0, t0, o0⟩, ⟨n1, t1, o1⟩, ⟨n2, t2, o2⟩⟩ := hf
  rw [run_equalIn_struct w 9999 _ _ _ hu hp, hl]
  rw [eqF_cons n0 (by rw [t0, o0]; exact part_int rfl w) (by rw [t0, o0]; exact part_int rfl w) (by rw [t0]; exact run_equalIn_int w 9998 _ .i64 .i64 a d Tryz.underlying3)]
  rw [eqF_cons n1 (by rw [t1, o1]; exact part_int rfl w) (by rw [t1, o1]; exact part_int rfl w) (by rw [t1]; exact run_equalIn_int w 9998 _ .i64 .i64 b e Tryz.underlying3)]
  rw [eqF_cons n2 (by rw [t2, o2]; exact part_int rfl w) (by rw [t2, o2]; exact part_int rfl w) (by rw [t2]; exact run_equalIn_int w 9998 _ .i64 .i64 c f Tryz.underlying3)]
  cases (a == d) <;> cases (b == e) <;> cases (c == f) <;> rfl
/-- statements behind a slice's value, to be read -/
def ssOn (w : World) (v : Value) (ss : List Sx.S) : Prop := ∃ xs P, OwnP w P 53 11 v ss.length xs ∧ slOn w P ss xs
theorem onSL_len (d : Nat) : ∀ ss : List Sx.S, (Sx.S.onL d ss).length = ss.length
  | [] => by rw [Sx.onSL_nil]
  | e :: es => by rw [Sx.onSL_cons, List.length_cons, List.length_cons, onSL_len d es]
theorem onSL_at (d : Nat) : ∀ (ss : List Sx.S) (k : Nat) (e : Sx.S), ss[k]? = some e → (Sx.S.onL d ss)[k]? = some (Sx.S.on d e)
  | [], k, e, h => by cases h
  | x :: es, 0, e, h => by cases h; rw [Sx.onSL_cons]; rfl
  | x :: es, k + 1, e, h => by rw [Sx.onSL_cons, List.getElem?_cons_succ]; exact onSL_at d es k e (by simpa using h)
theorem stOn_len {w : World} {P : Nat → Prop} : ∀ (x : Sx.S) (cs : List Value), stOn w P x cs → cs.length = 11
  | .mk k p m nm ty es bs cs h, xs, hx => by
    rw [stOn] at hx
    obtain ⟨va, vb, ve, xa, xb, xe, rfl, _⟩ := hx
    rfl
theorem sl_at {w : World} {P : Nat → Prop} : ∀ (ss : List Sx.S) (xs : List Value) (k : Nat) (kk p m : Int) (nm : List UInt8) (ty : Sx.Ty) (ar : List Sx.E) (bs cs : List Sx.S) (h : Bool), slOn w P ss xs → ss[k]? = some (.mk kk p m nm ty ar bs cs h) →
    ∃ va vb ve, (∀ j u, (stA kk p m nm ty.elem ty.len ty.label va vb ve h).toList[j]? = some u → xs[k * 11 + j]? = some u) ∧ lsOn w va ar ∧ ssOn w vb bs ∧ ssOn w ve cs
  | [], xs, k, kk, p, m, nm, ty, ar, bs, cs, h, hs, hk => by cases hk
  | x :: ss, xs, 0, kk, p, m, nm, ty, ar, bs, cs, h, hs, hk => by
    cases hk
    rw [slOn] at hs
    obtain ⟨c, r, rfl, h1, _⟩ := hs
    rw [stOn] at h1
    obtain ⟨va, vb, ve, xa, xb, xe, rfl, h2, h3, h4⟩ := h1
    refine ⟨va, vb, ve, fun j u hj => ?_, ⟨xa, P, h2.1, h2.2⟩, ⟨xb, P, h3.1, h3.2⟩, ⟨xe, P, h4.1, h4.2⟩⟩
    rw [Nat.zero_mul, Nat.zero_add]
    exact (List.getElem?_append_left (List.getElem?_eq_some_iff.1 hj).1).trans hj
  | x :: ss, xs, k + 1, kk, p, m, nm, ty, ar, bs, cs, h, hs, hk => by
    rw [slOn] at hs
    obtain ⟨c, r, rfl, h1, h2⟩ := hs
    have hl := stOn_len _ _ h1
    obtain ⟨va, vb, ve, h3, h4⟩ := sl_at ss r k kk p m nm ty ar bs cs h h2 (by simpa using hk)
    refine ⟨va, vb, ve, fun j u hj => ?_, h4⟩
    rw [List.getElem?_append_right (by omega), hl, show (k + 1) * 11 + j - 11 = k * 11 + j by omega]
    exact h3 j u hj
/-- an element's cells, where they lie -/
structure StCells (w : World) (a : Addr) (kk p m : Int) (nm : List UInt8) (e l b : Int) (va vb ve : Value) (h : Bool) : Prop where
  c0 : w.cell? a = some (.int .i64 kk)
  c1 : w.cell? ⟨a.block, a.off + 1, none⟩ = some (.int .i64 p)
  c2 : w.cell? ⟨a.block, a.off + 2, none⟩ = some (.int .i64 m)
  c3 : w.cell? ⟨a.block, a.off + 3, none⟩ = some (.string (Lx.S nm))
  c4 : w.cell? ⟨a.block, a.off + 4, none⟩ = some (.int .i64 e)
  c5 : w.cell? ⟨a.block, a.off + 5, none⟩ = some (.int .i64 l)
  c6 : w.cell? ⟨a.block, a.off + 6, none⟩ = some (.int .i64 b)
  c7 : w.cell? ⟨a.block, a.off + 7, none⟩ = some va
  c8 : w.cell? ⟨a.block, a.off + 8, none⟩ = some vb
  c9 : w.cell? ⟨a.block, a.off + 9, none⟩ = some ve
  c10 : w.cell? ⟨a.block, a.off + 10, none⟩ = some (.bool h)
theorem ss_at {w : World} {v : Value} {ss : List Sx.S} (hh : ssOn w v ss) : ∃ q cap, v = .slice q ss.length cap ∧ ∀ (k : Nat) (kk p m : Int) (nm : List UInt8) (ty : Sx.Ty) (ar : List Sx.E) (bs cs : List Sx.S) (h : Bool), ss[k]? = some (.mk kk p m nm ty ar bs cs h) →
    ∃ a va vb ve, q = some a ∧ (lsOn w va ar ∧ ssOn w vb bs ∧ ssOn w ve cs) ∧ StCells w (a.add (k * 11)) kk p m nm ty.elem ty.len ty.label va vb ve h := by
  obtain ⟨xs, P, h1, h2⟩ := hh
  by_cases h0 : ss.length = 0
  · obtain ⟨q, cap, hv⟩ := own_len h1
    refine ⟨q, cap, hv, fun k kk p m nm ty ar bs cs h hk => ?_⟩
    have := (List.getElem?_eq_some_iff.1 hk).1
    omega
  · obtain ⟨g, cap, hv, _, hc⟩ := own_on h1 h0
    refine ⟨_, cap, hv, fun k kk p m nm ty ar bs cs h hk => ?_⟩
    obtain ⟨va, vb, ve, h3, h4⟩ := sl_at ss xs k kk p m nm ty ar bs cs h h2 hk
    have ha : (⟨g, 0, none⟩ : Addr).add (k * 11) = ⟨g, k * 11, none⟩ := by unfold Addr.add; split <;> simp_all
    refine ⟨⟨g, 0, none⟩, va, vb, ve, rfl, h4, ?_⟩
    rw [ha]
    exact ⟨hc.at0 (k * 11) (h3 0 _ rfl), hc.at0 (k * 11 + 1) (h3 1 _ rfl), hc.at0 (k * 11 + 2) (h3 2 _ rfl), hc.at0 (k * 11 + 3) (h3 3 _ rfl), hc.at0 (k * 11 + 4) (h3 4 _ rfl), hc.at0 (k * 11 + 5) (h3 5 _ rfl), hc.at0 (k * 11 + 6) (h3 6 _ rfl), hc.at0 (k * 11 + 7) (h3 7 _ rfl), hc.at0 (k * 11 + 8) (h3 8 _ rfl), hc.at0 (k * 11 + 9) (h3 9 _ rfl), hc.at0 (k * 11 + 10) (h3 10 _ rfl)⟩
theorem ssOn.drewN {w : World} {v : Value} {ss : List Sx.S} (h : ssOn w v ss) (n : Nat) : ssOn (w.drewN n) v ss := by
  obtain ⟨xs, P, h1, h2⟩ := h
  have h3 : slOn (w.drewN n) P ss xs := slOn_mono (w := w) (w' := w.drewN n) (fun _ _ => rfl) (fun _ h => h) ss xs h2
  exact ⟨xs, P, h1.mono (w' := w.drewN n) (fun _ _ => rfl) (fun _ h => h), h3⟩
theorem ssOn.dr {w w' : World} {v : Value} {ss : List Sx.S} (h : ssOn w v ss) (hd : Dr w w') : ssOn w' v ss := by
  obtain ⟨m, rfl⟩ := hd
  exact h.drewN m
/-- what SameStmts tells of statements further on -/
def SSt (ss : List Sx.S) : Prop := ∀ (d : Nat) (w : World) (v v' : Value), d ≤ 100000 → ssOn w v (Sx.S.onL d ss) → ssOn w v' ss → Calls Tryz.prog 73 #[v, v', .int .i64 (d : Int)] w fun e w' => e = .returned (.bool true) ∧ Dr w w'
def SSl (s : Sx.S) : Prop := match s with | .mk _ p _ _ _ ar bs cs _ => (SE ar ∧ SSt bs ∧ SSt cs) ∧ -1000000 ≤ p ∧ p ≤ 1000000
set_option maxHeartbeats 8000000 in
set_option maxRecDepth 100000 in
theorem same_slist (ss : List Sx.S) (hbig : ss.length ≤ 281474976710656) (hE : ∀ s ∈ ss, SSl s) : SSt ss := by
  intro d w v v' hd h1 h2
  have H1 := Lib.hid h1
  have H2 := Lib.hid h2
  obtain ⟨q1, c1, rfl, _⟩ := ss_at h1
  obtain ⟨q2, c2, rfl, _⟩ := ss_at h2
  rw [onSL_len] at H1 ⊢
  obtain ⟨n, hn⟩ : ∃ n, ss.length = n := ⟨_, rfl⟩
  rw [hn] at H1 H2 hbig ⊢
  have HN := Lib.hid hn
  have HE := Lib.hid hE
  have HD := Lib.hid hd
  have hd0 : (0 : Int) ≤ (d : Int) := Int.natCast_nonneg d
  have HB := Lib.hid hbig
  clear h1 h2 hn hE hd hbig
  go_enter Tryz.func73, Tryz.ntmps73
  go_wp2
  go_loopw [7] (fun K wr => ∃ k : Nat, k ≤ n ∧ K = .int .i64 (k : Int) ∧ Hid (Dr w wr)) (fun K _ => n - (intOf K).toNat)
  case atStart => exact ⟨0, Nat.zero_le _, rfl, Lib.hid (Dr.refl w)⟩
  case round =>
    obtain ⟨k, hk, rfl, hB⟩ := hrel
    by_cases hlt : k < n
    · have hltI : (k : Int) < (n : Int) := by omega
      obtain ⟨e, he⟩ : ∃ e, ss[k]? = some e := ⟨_, List.getElem?_eq_getElem (by rw [HN.out]; exact hlt)⟩
      obtain ⟨kk, p, m, nm, ty, ar, bs, cs, hh⟩ := e
      have hE1 := HE.out _ (List.mem_of_getElem? he)
      obtain ⟨⟨hA, hB1, hB2⟩, hp1, hp2⟩ := hE1
      have G1 := H1.out.dr hB.out
      have G2 := H2.out.dr hB.out
      obtain ⟨q2', c2', e2, g2⟩ := ss_at G2
      obtain ⟨a2, va2, vb2, ve2, r2, l2, y⟩ := g2 k kk p m nm ty ar bs cs hh he
      have he1 := onSL_at d ss k _ he
      rw [Sx.onS_mk] at he1
      obtain ⟨q1', c1', e1, g1⟩ := ss_at G1
      obtain ⟨a1, va1, vb1, ve1, r1, l1, x⟩ := g1 k kk (p + d) m nm ty (Sx.E.onL d ar) (Sx.S.onL d bs) (Sx.S.onL d cs) hh he1
      injection e1 with e1 en1 ec1
      injection e2 with e2 en2 ec2
      rw [r1] at e1
      rw [r2] at e2
      subst e1
      subst e2
      have C1 : Hid (∀ nq, Calls Tryz.prog 136 #[va1, va2, .int .i64 (d : Int)] (wr.drewN nq) fun e w' => e = .returned (.bool true) ∧ ∃ m, w' = (wr.drewN nq).drewN m) := Lib.hid (fun nq => hA d (wr.drewN nq) va1 va2 HD.out (l1.1.drewN nq) (l2.1.drewN nq))
      have C2 : Hid (∀ nq, Calls Tryz.prog 73 #[vb1, vb2, .int .i64 (d : Int)] (wr.drewN nq) fun e w' => e = .returned (.bool true) ∧ ∃ m, w' = (wr.drewN nq).drewN m) := Lib.hid (fun nq => hB1 d (wr.drewN nq) vb1 vb2 HD.out (l1.2.1.drewN nq) (l2.2.1.drewN nq))
      have C3 : Hid (∀ nq, Calls Tryz.prog 73 #[ve1, ve2, .int .i64 (d : Int)] (wr.drewN nq) fun e w' => e = .returned (.bool true) ∧ ∃ m, w' = (wr.drewN nq).drewN m) := Lib.hid (fun nq => hB2 d (wr.drewN nq) ve1 ve2 HD.out (l1.2.2.drewN nq) (l2.2.2.drewN nq))
      have hw : wrap64 (p + (d : Int)) = p + (d : Int) := by have := HD.out; simp only [wrap64]; omega
      have hw2 : IntKind.i64.wrap (p + (d : Int)) = p + (d : Int) := by have := HD.out; rw [IntKind.wrap_i64]; omega
      have hk1 : wrap64 ((k : Int) + 1) = ((k + 1 : Nat) : Int) := by have := HB.out; simp only [wrap64]; omega
      obtain ⟨pd, hpd⟩ : ∃ pd, p + (d : Int) = pd := ⟨_, rfl⟩
      have hw3 : wrap64 (p + (d : Int)) = pd := hw.trans hpd
      have hw4 : IntKind.i64.wrap (p + (d : Int)) = pd := hw2.trans hpd
      rw [hpd] at x
      obtain ⟨x0, x1, x2, x3, x4, x5, x6, x7, x8, x9, x10⟩ := x
      obtain ⟨y0, y1, y2, y3, y4, y5, y6, y7, y8, y9, y10⟩ := y
      obtain ⟨te, tl, tb⟩ := ty
      simp only [] at x4 x5 x6 y4 y5 y6
      have hT : ∀ w, (Op.equalIn 10000 47 (.agg #[.int .i64 te, .int .i64 tl, .int .i64 tb]) (.agg #[.int .i64 te, .int .i64 tl, .int .i64 tb])).run Tryz.prog w = .ok true w := fun w => by rw [ty_eq]; simp
      clear hpd hw hw2
      clear en1 ec1 en2 ec2 he he1 hA hB1 hB2 l1 l2 hp1 hp2 g1 g2 G1 G2 r1 r2
      go_wp2
      go_quiet (fail)
      go_wp2
      go_quiet ((first | (go_at_call 136; refine (C1.out _).mono ?_; rintro e w' ⟨rfl, m, rfl⟩; exact ⟨rfl, _, by rw [World.drewN_drewN, Nat.add_assoc]⟩) | (go_at_call 73; first | (with_reducible refine (C2.out _).mono ?_; rintro e w' ⟨rfl, m, rfl⟩; exact ⟨rfl, _, by rw [World.drewN_drewN, Nat.add_assoc]⟩) | (with_reducible refine (C3.out _).mono ?_; rintro e w' ⟨rfl, m, rfl⟩; exact ⟨rfl, _, by rw [World.drewN_drewN, Nat.add_assoc]⟩))))
      go_wp2
      exact ⟨⟨k + 1, by omega, congrArg (Value.int .i64) hk1, Lib.hid (hB.out.trans ⟨_, rfl⟩)⟩, by rw [hk1]; simp [intOf]; omega⟩
    · have hge : ¬ (k : Int) < (n : Int) := by omega
      go_wp2
      go_ret
      exact ⟨rfl, hB.out⟩
end Go.Proofs.YtjfdcnggnldgdaaGreatDoor
end
