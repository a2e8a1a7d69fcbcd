/-
  What the document's SameExprs tells of expressions of which one is the other further on.
-/
import Derived.Test.YtbnhegipdfkdgaaDoorP38a
import Derived.BigQuiet
import Derived.Test.YtbnhegipdfkdgaaDoorSxSm
namespace Go.Proofs.YtbnhegipdfkdgaaDoor
open Go.ChangeShapes Go.WideShapes Go.ChangeAt Go.RowKit
set_option linter.unusedVariables false
set_option linter.unusedSimpArgs false

/-- expressions behind a slice's value, to be read -/
def lsOn (w : World) (v : Value) (es : List Sx.E) : Prop := ∃ xs P, OwnP w P 44 5 v es.length xs ∧ elOn w P es xs
theorem onL_len (d : Nat) : ∀ es : List Sx.E, (Sx.E.onL d es).length = es.length
  | [] => by rw [Sx.onL_nil]
  | e :: es => by rw [Sx.onL_cons, List.length_cons, List.length_cons, onL_len d es]
theorem onL_at (d : Nat) : ∀ (es : List Sx.E) (k : Nat) (e : Sx.E), es[k]? = some e → (Sx.E.onL d es)[k]? = some (Sx.E.on d e)
  | [], k, e, h => by cases h
  | x :: es, 0, e, h => by cases h; rw [Sx.onL_cons]; rfl
  | x :: es, k + 1, e, h => by rw [Sx.onL_cons, List.getElem?_cons_succ]; exact onL_at d es k e (by simpa using h)
/-- an element's cells -/
theorem el_at {w : World} {P : Nat → Prop} : ∀ (es : List Sx.E) (xs : List Value) (k : Nat) (kk p n : Int) (nm : List UInt8) (ar : List Sx.E), elOn w P es xs → es[k]? = some (.mk kk p n nm ar) →
    ∃ v, (∀ j u, (exA kk p n nm v).toList[j]? = some u → xs[k * 5 + j]? = some u) ∧ lsOn w v ar
  | [], xs, k, kk, p, n, nm, ar, h, hk => by cases hk
  | x :: es, xs, 0, kk, p, n, nm, ar, h, hk => by
    cases hk
    rw [elOn] at h
    obtain ⟨c, r, rfl, h1, _⟩ := h
    rw [exOn] at h1
    obtain ⟨v, ys, rfl, h2, h3⟩ := h1
    refine ⟨v, fun j u hj => ?_, ys, P, h2, h3⟩
    rw [Nat.zero_mul, Nat.zero_add]
    exact (List.getElem?_append_left (List.getElem?_eq_some_iff.1 hj).1).trans hj
  | x :: es, xs, k + 1, kk, p, n, nm, ar, h, hk => by
    rw [elOn] at h
    obtain ⟨c, r, rfl, h1, h2⟩ := h
    have hl := exOn_len _ _ h1
    obtain ⟨v, h3, h4⟩ := el_at es r k kk p n nm ar h2 (by simpa using hk)
    refine ⟨v, fun j u hj => ?_, h4⟩
    rw [List.getElem?_append_right (by omega), hl, show (k + 1) * 5 + j - 5 = k * 5 + j by omega]
    exact h3 j u hj
/-- an element's cells, where they lie -/
theorem ls_at {w : World} {v : Value} {es : List Sx.E} (h : lsOn w v es) : ∃ q cap, v = .slice q es.length cap ∧ ∀ (k : Nat) (kk p n : Int) (nm : List UInt8) (ar : List Sx.E), es[k]? = some (.mk kk p n nm ar) → ∃ a v', q = some a ∧ lsOn w v' ar ∧
    w.cell? (a.add (k * 5)) = some (.int .i64 kk) ∧ w.cell? ⟨(a.add (k * 5)).block, (a.add (k * 5)).off + 1, none⟩ = some (.int .i64 p) ∧ w.cell? ⟨(a.add (k * 5)).block, (a.add (k * 5)).off + 2, none⟩ = some (.int .i64 n) ∧ w.cell? ⟨(a.add (k * 5)).block, (a.add (k * 5)).off + 3, none⟩ = some (.string (Lx.S nm)) ∧ w.cell? ⟨(a.add (k * 5)).block, (a.add (k * 5)).off + 4, none⟩ = some v' := by
  obtain ⟨xs, P, h1, h2⟩ := h
  by_cases h0 : es.length = 0
  · obtain ⟨q, cap, hv⟩ := own_len h1
    refine ⟨q, cap, hv, fun k kk p n nm ar hk => ?_⟩
    have := (List.getElem?_eq_some_iff.1 hk).1
    omega
  · obtain ⟨g, cap, hv, _, hc⟩ := own_on h1 h0
    refine ⟨_, cap, hv, fun k kk p n nm ar hk => ?_⟩
    obtain ⟨v', h3, h4⟩ := el_at es xs k kk p n nm ar h2 hk
    have ha : (⟨g, 0, none⟩ : Addr).add (k * 5) = ⟨g, k * 5, none⟩ := by unfold Addr.add; split <;> simp_all
    refine ⟨⟨g, 0, none⟩, v', rfl, h4, ?_⟩
    rw [ha]
    exact ⟨hc.at0 (k * 5) (h3 0 _ rfl), hc.at0 (k * 5 + 1) (h3 1 _ rfl), hc.at0 (k * 5 + 2) (h3 2 _ rfl), hc.at0 (k * 5 + 3) (h3 3 _ rfl), hc.at0 (k * 5 + 4) (h3 4 _ rfl)⟩
theorem lsOn.drewN {w : World} {v : Value} {es : List Sx.E} (h : lsOn w v es) (n : Nat) : lsOn (w.drewN n) v es := by
  obtain ⟨xs, P, h1, h2⟩ := h
  have h3 : elOn (w.drewN n) P es xs := elOn_mono (w := w) (w' := w.drewN n) (fun _ _ => rfl) (fun _ h => h) es xs h2
  exact ⟨xs, P, h1.mono (w' := w.drewN n) (fun _ _ => rfl) (fun _ h => h), h3⟩
/-- a world from which only chances were drawn -/
def Dr (w w' : World) : Prop := ∃ m, w' = w.drewN m
theorem Dr.refl (w : World) : Dr w w := ⟨0, rfl⟩
theorem Dr.trans {a b c : World} (h : Dr a b) (h' : Dr b c) : Dr a c := by
  obtain ⟨m, rfl⟩ := h
  obtain ⟨n, rfl⟩ := h'
  exact ⟨m + n, World.drewN_drewN _ _ _⟩
theorem lsOn.dr {w w' : World} {v : Value} {es : List Sx.E} (h : lsOn w v es) (hd : Dr w w') : lsOn w' v es := by
  obtain ⟨m, rfl⟩ := hd
  exact h.drewN m
/-- what SameExprs tells of expressions further on -/
def SE (es : List Sx.E) : Prop := ∀ (d : Nat) (w : World) (v v' : Value), d ≤ 100000 → lsOn w v (Sx.E.onL d es) → lsOn w v' es → Calls Tryd.prog 19 #[v, v', .int .i64 (d : Int)] w fun e w' => e = .returned (.bool true) ∧ Dr w w'
set_option maxHeartbeats 8000000 in
set_option maxRecDepth 100000 in
theorem same_list (es : List Sx.E) (hbig : es.length ≤ 281474976710656) (hE : ∀ e ∈ es, (match e with | .mk _ p _ _ ar => SE ar ∧ -1000000 ≤ p ∧ p ≤ 1000000)) : SE es := by
  intro d w v v' hd h1 h2
  have H1 := Lib.hid h1
  have H2 := Lib.hid h2
  obtain ⟨q1, c1, rfl, _⟩ := ls_at h1
  obtain ⟨q2, c2, rfl, _⟩ := ls_at h2
  rw [onL_len] at H1 ⊢
  obtain ⟨n, hn⟩ : ∃ n, es.length = n := ⟨_, rfl⟩
  rw [hn] at H1 H2 hbig ⊢
  have HN := Lib.hid hn
  have HE := Lib.hid hE
  have HD := Lib.hid hd
  have hd0 : (0 : Int) ≤ (d : Int) := Int.natCast_nonneg d
  have HB := Lib.hid hbig
  clear h1 h2 hn hE hd hbig
  go_enter Tryd.func19, Tryd.ntmps19
  go_wp2
  go_loopw [7] (fun K wr => ∃ k : Nat, k ≤ n ∧ K = .int .i64 (k : Int) ∧ Hid (Dr w wr)) (fun K _ => n - (intOf K).toNat)
  case atStart => exact ⟨0, Nat.zero_le _, rfl, Lib.hid (Dr.refl w)⟩
  case round =>
    obtain ⟨k, hk, rfl, hB⟩ := hrel
    by_cases hlt : k < n
    · have hltI : (k : Int) < (n : Int) := by omega
      obtain ⟨e, he⟩ : ∃ e, es[k]? = some e := ⟨_, List.getElem?_eq_getElem (by rw [HN.out]; exact hlt)⟩
      obtain ⟨kk, p, nn, nm, ar⟩ := e
      have hE1 := HE.out _ (List.mem_of_getElem? he)
      obtain ⟨hS, hp1, hp2⟩ := hE1
      have G1 := H1.out.dr hB.out
      have G2 := H2.out.dr hB.out
      obtain ⟨q2', c2', e2, g2⟩ := ls_at G2
      obtain ⟨a2, v2, r2, l2, y0, y1, y2, y3, y4⟩ := g2 k kk p nn nm ar he
      have he1 := onL_at d es k _ he
      rw [Sx.on_mk] at he1
      obtain ⟨q1', c1', e1, g1⟩ := ls_at G1
      obtain ⟨a1, v1, r1, l1, x0, x1, x2, x3, x4⟩ := g1 k kk (p + d) nn nm (Sx.E.onL d ar) he1
      injection e1 with e1 en1 ec1
      injection e2 with e2 en2 ec2
      rw [r1] at e1
      rw [r2] at e2
      subst e1
      subst e2
      have C1 : Hid (∀ nq, Calls Tryd.prog 19 #[v1, v2, .int .i64 (d : Int)] (wr.drewN nq) fun e w' => e = .returned (.bool true) ∧ ∃ m, w' = (wr.drewN nq).drewN m) := Lib.hid (fun nq => hS d (wr.drewN nq) v1 v2 HD.out (l1.drewN nq) (l2.drewN nq))
      have hw : wrap64 (p + (d : Int)) = p + (d : Int) := by have := HD.out; simp only [wrap64]; omega
      have hw2 : IntKind.i64.wrap (p + (d : Int)) = p + (d : Int) := by have := HD.out; rw [IntKind.wrap_i64]; omega
      have hk1 : wrap64 ((k : Int) + 1) = ((k + 1 : Nat) : Int) := by have := HB.out; simp only [wrap64]; omega
      obtain ⟨pd, hpd⟩ : ∃ pd, p + (d : Int) = pd := ⟨_, rfl⟩
      have hw3 : wrap64 (p + (d : Int)) = pd := hw.trans hpd
      have hw4 : IntKind.i64.wrap (p + (d : Int)) = pd := hw2.trans hpd
      rw [hpd] at x1
      clear hpd hw hw2
      clear en1 ec1 en2 ec2 he he1 hS l1 l2 hp1 hp2 g1 g2 G1 G2 r1 r2
      go_wp2
      go_quiet ((go_at_call 19; exact Calls.quiet_of (C1.out _)))
      go_wp2
      exact ⟨⟨k + 1, by omega, congrArg (Value.int .i64) hk1, Lib.hid (hB.out.trans ⟨_, rfl⟩)⟩, by rw [hk1]; simp [intOf]; omega⟩
    · have hge : ¬ (k : Int) < (n : Int) := by omega
      go_wp2
      go_ret
      exact ⟨rfl, hB.out⟩
/-- what same_list asks of an element -/
def SEl (e : Sx.E) : Prop := match e with | .mk _ p _ _ ar => SE ar ∧ -1000000 ≤ p ∧ p ≤ 1000000
mutual
theorem sel_E : ∀ e : Sx.E, smE e → SEl e
  | .mk k p n nm ar, h => by
    rw [smE] at h
    exact ⟨same_list ar h.1.2 (sel_L ar h.2), h.1.1.1, h.1.1.2⟩
theorem sel_L : ∀ es : List Sx.E, smL es → ∀ e ∈ es, SEl e
  | [], _, e, he => by cases he
  | x :: es, h, e, he => by
    rw [smL] at h
    rcases List.mem_cons.1 he with h1 | h1
    · rw [h1]
      exact sel_E x h.1
    · exact sel_L es h.2 e h1
end
/-- SameExprs, of the true way -/
theorem same_E (es : List Sx.E) (hl : es.length ≤ 281474976710656) (h : smL es) : SE es := same_list es hl (sel_L es h)
end Go.Proofs.YtbnhegipdfkdgaaDoor
