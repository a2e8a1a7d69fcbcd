/-
  Elements of a slice, cell by cell; what Regions, the document's and the program's, returns.
-/
import Derived.Test.YtchljdcjlkfbfaaMryC
namespace Go.Proofs.Ytchljdcjlkfbfaa
open Go.ChangeShapes Go.WideShapes Go.ChangeAt Go.RowKit
set_option linter.unusedVariables false

theorem add_zero' (a : Addr) : a.add 0 = a := by unfold Addr.add; split <;> simp_all
theorem cell_lt {w : World} {a : Addr} {u : Value} (h : w.cell? a = some u) : a.block < w.heap.size := by
  apply Nat.lt_of_not_le
  intro hge
  simp [World.cell?, Array.getElem?_eq_none hge] at h
/-- cells from an address on -/
def OnC (W : World) (a : Addr) (cs : List Value) : Prop := ∀ j u, cs[j]? = some u → W.cell? (a.add j) = some u
theorem OnC.kept {W W' : World} {a : Addr} {cs : List Value} (h : OnC W a cs) (hb : Below W.heap.size W W') : OnC W' a cs := fun j u hj => by
  have h1 := h j u hj
  rw [hb.cell (p := a.add j) (cell_lt h1)]
  exact h1
/-- a slice's elements -/
def SliceC {α : Type} (f : α → List Value) (sz : Nat) (W : World) (v : Value) (L : List α) : Prop :=
  ∃ (p : Option Addr) (cap : Nat), v = .slice p L.length cap ∧ ∀ k (hk : k < L.length), ∃ a, p = some a ∧ OnC W (a.add (k * sz)) (f L[k])
theorem SliceC.kept {α : Type} {f : α → List Value} {sz : Nat} {W W' : World} {v : Value} {L : List α} (h : SliceC f sz W v L) (hb : Below W.heap.size W W') : SliceC f sz W' v L := by
  obtain ⟨p, cap, rfl, hc⟩ := h
  refine ⟨p, cap, rfl, fun k hk => ?_⟩
  obtain ⟨a, rfl, hi⟩ := hc k hk
  exact ⟨a, rfl, hi.kept hb⟩
theorem flatC_len {α : Type} (f : α → List Value) (sz : Nat) (hf : ∀ x, (f x).length = sz) (L : List α) : (L.flatMap f).length = L.length * sz := by
  induction L with
  | nil => simp
  | cons i L ih => rw [List.flatMap_cons, List.length_append, ih, hf, List.length_cons, Nat.succ_mul, Nat.add_comm]
theorem flatC_get {α : Type} (f : α → List Value) (sz : Nat) (hf : ∀ x, (f x).length = sz) (L : List α) : ∀ k (hk : k < L.length) j u, (f L[k])[j]? = some u → (L.flatMap f)[k * sz + j]? = some u := by
  induction L with
  | nil => intro k hk; exact absurd hk (Nat.not_lt_zero _)
  | cons i L ih =>
    intro k hk j u hj
    have hj8 : j < sz := by
      apply Nat.lt_of_not_le
      intro hge
      rw [List.getElem?_eq_none (by rw [hf]; exact hge)] at hj
      cases hj
    rw [List.flatMap_cons]
    cases k with
    | zero => rw [List.getElem?_append_left (by rw [hf]; omega)]; simpa using hj
    | succ k =>
      rw [List.getElem?_append_right (by rw [hf, Nat.succ_mul]; omega)]
      have e : (k + 1) * sz + j - (f i).length = k * sz + j := by rw [hf, Nat.succ_mul]; omega
      rw [e]
      exact ih k (by simpa using hk) j u (by simpa using hj)
/-- an owned row is a slice of its elements -/
theorem sliceC_own {α : Type} {f : α → List Value} {sz : Nat} (hf : ∀ x, (f x).length = sz) {W : World} {base : Nat} {e : TypeId} {v : Value} {L : List α} (h : W.ownsRow base e sz v L.length (L.flatMap f)) : SliceC f sz W v L := by
  rcases h.2 with ⟨rfl, h0⟩ | ⟨g, cap, cur, rfl, hb, hg, hc, hm, hs, ht⟩
  · exact ⟨none, 0, by rw [h0], fun k hk => by omega⟩
  · refine ⟨some ⟨g, 0, none⟩, cap, rfl, fun k hk => ⟨_, rfl, fun j u hj => ?_⟩⟩
    have h1 := flatC_get f sz hf L k hk j u hj
    have hadd : (((⟨g, 0, none⟩ : Addr).add (k * sz)).add j) = ⟨g, k * sz + j, none⟩ := by
      rw [Go.Deep.add_add]
      unfold Addr.add
      split <;> simp_all
    rw [hadd]
    simp only [World.cell?, hg]
    rw [← ht] at h1
    have h2 : cur.toList[k * sz + j]? = some u := by
      rw [List.getElem?_take] at h1
      split at h1
      · exact h1
      · cases h1
    simpa using h2
def rgC (r : Mm.Rg) : List Value := [.int .i64 r.base, .int .i64 r.len, .bool r.write]
theorem rgC_len (r : Mm.Rg) : (rgC r).length = 3 := rfl
theorem seven_at {W : World} {g : Nat} {i o r f : Int} (h : OnC W ⟨g, 0, none⟩ ((Mm.seven i o r f).flatMap rgC)) (c : Nat) : SliceC rgC 3 W (.slice (some ⟨g, 0, none⟩) 7 c) (Mm.seven i o r f) := by
  refine ⟨some ⟨g, 0, none⟩, c, rfl, fun k hk => ⟨_, rfl, fun j u hj => ?_⟩⟩
  have h1 := flatC_get rgC 3 rgC_len _ k hk j u hj
  have h2 := h _ _ h1
  rw [Go.Deep.add_add]
  exact h2
theorem cells_new (w : World) (cs : Array Value) (t : TypeId) : OnC (w.alloc (.cells cs t)) ⟨w.heap.size, 0, none⟩ cs.toList := by
  intro j u hj
  have hadd : ((⟨w.heap.size, 0, none⟩ : Addr).add j) = ⟨w.heap.size, j, none⟩ := by
    unfold Addr.add
    split <;> simp_all
  rw [hadd]
  simp only [World.cell?, World.alloc]
  simpa using hj
theorem box3 {w w1 : World} {t : TypeId} {i o r : Int} (hb : Below (w.alloc (.cells #[.int .i64 i, .int .i64 o, .int .i64 r] t)).heap.size (w.alloc (.cells #[.int .i64 i, .int .i64 o, .int .i64 r] t)) w1) :
    w1.cell? ⟨w.heap.size, 0, none⟩ = some (.int .i64 i) ∧ w1.cell? ⟨w.heap.size, 1, none⟩ = some (.int .i64 o) ∧ w1.cell? ⟨w.heap.size, 2, none⟩ = some (.int .i64 r) := by
  refine ⟨?_, ?_, ?_⟩ <;> (rw [hb.cell (by simp)]; simp [go_sem])
set_option maxHeartbeats 4000000 in
set_option maxRecDepth 100000 in
theorem regions_ok (i o r f : Int) (w : World) (hE : Hid (Mm.err i o r f = 0)) :
    Calls Try.prog 17 #[.agg #[.int .i64 i, .int .i64 o, .int .i64 r], .int .i64 f] w fun e w' => ∃ a c, e = .returned (.tuple #[.slice (some a) 7 c, .int .i64 0]) ∧ SliceC rgC 3 w' (.slice (some a) 7 c) (Mm.seven i o r f) ∧ Below w.heap.size w w' := by
  have C : Hid (∀ w : World, Calls Try.prog 27 #[.agg #[.int .i64 i, .int .i64 o, .int .i64 r], .int .i64 f] w fun e w' => e = .returned (.int .i64 0) ∧ Below w.heap.size w w') := Lib.hid fun w => by
    have := check_any i o r f w
    rw [hE.out] at this
    exact this
  go_enter Try.func17, Try.ntmps17
  go_wp2_with (go_at_call 27; refine (C.out _).mono ?_; rintro e w1 ⟨rfl, hb1⟩; obtain ⟨x0, x1, x2⟩ := box3 hb1; have HB := Lib.hid (((Below.refl _ _).alloc (Nat.le_refl _) _).trans (hb1.mono (by simp))); clear hb1)
  exact bodyPost_ret (v := .tuple #[.slice (some ⟨w1.heap.size, 0, none⟩) 7 7, .int .i64 0]) (by simp [results, Try.results17, go_sem]) rfl ⟨⟨w1.heap.size, 0, none⟩, 7, rfl, seven_at (cells_new w1 _ _) 7, HB.out.alloc HB.out.size _⟩
set_option maxHeartbeats 4000000 in
set_option maxRecDepth 100000 in
theorem regions_no (i o r f E : Int) (w : World) (hE : Hid (Mm.err i o r f = E)) (h0 : ¬ E = 0) :
    Calls Try.prog 17 #[.agg #[.int .i64 i, .int .i64 o, .int .i64 r], .int .i64 f] w fun e w' => e = .returned (.tuple #[.slice none 0 0, .int .i64 E]) ∧ Below w.heap.size w w' := by
  have C : Hid (∀ w : World, Calls Try.prog 27 #[.agg #[.int .i64 i, .int .i64 o, .int .i64 r], .int .i64 f] w fun e w' => e = .returned (.int .i64 E) ∧ Below w.heap.size w w') := Lib.hid fun w => by
    have := check_any i o r f w
    rw [hE.out] at this
    exact this
  go_enter Try.func17, Try.ntmps17
  go_wp2_with (go_at_call 27; refine (C.out _).mono ?_; rintro e w1 ⟨rfl, hb1⟩; have HB := Lib.hid (((Below.refl _ _).alloc (Nat.le_refl _) _).trans (hb1.mono (by simp))); clear hb1)
  exact bodyPost_ret (v := .tuple #[.slice none 0 0, .int .i64 E]) (by simp [results, Try.results17, go_sem]) rfl ⟨rfl, HB.out⟩
theorem regions_any (i o r f : Int) (w : World) :
    Calls Try.prog 17 #[.agg #[.int .i64 i, .int .i64 o, .int .i64 r], .int .i64 f] w fun e w' => ∃ p n c, e = .returned (.tuple #[.slice p n c, .int .i64 (Mm.err i o r f)]) ∧ SliceC rgC 3 w' (.slice p n c) (Mm.regs i o r f) ∧ Below w.heap.size w w' := by
  by_cases h0 : Mm.err i o r f = 0
  · refine (regions_ok i o r f w (Lib.hid h0)).mono ?_
    rintro e w' ⟨a, c, rfl, hs, hb⟩
    exact ⟨some a, 7, c, by rw [h0], by unfold Mm.regs; rw [if_pos h0]; exact hs, hb⟩
  · refine (regions_no i o r f _ w (Lib.hid rfl) h0).mono ?_
    rintro e w' ⟨rfl, hb⟩
    refine ⟨none, 0, 0, rfl, ?_, hb⟩
    unfold Mm.regs
    rw [if_neg h0]
    exact ⟨none, 0, rfl, fun k hk => absurd hk (Nat.not_lt_zero _)⟩
set_option maxHeartbeats 4000000 in
set_option maxRecDepth 100000 in
theorem rregions_ok (i o r f : Int) (w : World) (hE : Hid (Mm.err i o r f = 0)) (hr : Hid ((Lit.int .i64 r).wf = true)) :
    Calls Try.prog 22 #[.agg #[.int .i64 i, .int .i64 o, .int .i64 r], .int .i64 f] w fun e w' => ∃ a c, e = .returned (.tuple #[.slice (some a) 7 c, .int .i64 0]) ∧ SliceC rgC 3 w' (.slice (some a) 7 c) (Mm.seven i o r f) ∧ Below w.heap.size w w' := by
  have C : Hid (∀ w : World, Calls Try.prog 19 #[.agg #[.int .i64 i, .int .i64 o, .int .i64 r], .int .i64 f] w fun e w' => e = .returned (.int .i64 0) ∧ Below w.heap.size w w') := Lib.hid fun w => by
    have := rcheck_any i o r f w hr.out
    rw [hE.out] at this
    exact this
  go_enter Try.func22, Try.ntmps22
  go_wp2_with (go_at_call 19; refine (C.out _).mono ?_; rintro e w1 ⟨rfl, hb1⟩; obtain ⟨x0, x1, x2⟩ := box3 hb1; have HB := Lib.hid (((Below.refl _ _).alloc (Nat.le_refl _) _).trans (hb1.mono (by simp))); clear hb1)
  exact bodyPost_ret (v := .tuple #[.slice (some ⟨w1.heap.size, 0, none⟩) 7 7, .int .i64 0]) (by simp [results, Try.results22, go_sem]) rfl ⟨⟨w1.heap.size, 0, none⟩, 7, rfl, seven_at (cells_new w1 _ _) 7, HB.out.alloc HB.out.size _⟩
set_option maxHeartbeats 4000000 in
set_option maxRecDepth 100000 in
theorem rregions_no (i o r f E : Int) (w : World) (hE : Hid (Mm.err i o r f = E)) (h0 : ¬ E = 0) (hr : Hid ((Lit.int .i64 r).wf = true)) :
    Calls Try.prog 22 #[.agg #[.int .i64 i, .int .i64 o, .int .i64 r], .int .i64 f] w fun e w' => e = .returned (.tuple #[.slice none 0 0, .int .i64 E]) ∧ Below w.heap.size w w' := by
  have C : Hid (∀ w : World, Calls Try.prog 19 #[.agg #[.int .i64 i, .int .i64 o, .int .i64 r], .int .i64 f] w fun e w' => e = .returned (.int .i64 E) ∧ Below w.heap.size w w') := Lib.hid fun w => by
    have := rcheck_any i o r f w hr.out
    rw [hE.out] at this
    exact this
  go_enter Try.func22, Try.ntmps22
  go_wp2_with (go_at_call 19; refine (C.out _).mono ?_; rintro e w1 ⟨rfl, hb1⟩; have HB := Lib.hid (((Below.refl _ _).alloc (Nat.le_refl _) _).trans (hb1.mono (by simp))); clear hb1)
  exact bodyPost_ret (v := .tuple #[.slice none 0 0, .int .i64 E]) (by simp [results, Try.results22, go_sem]) rfl ⟨rfl, HB.out⟩
theorem rregions_any (i o r f : Int) (w : World) (hr : Hid ((Lit.int .i64 r).wf = true)) :
    Calls Try.prog 22 #[.agg #[.int .i64 i, .int .i64 o, .int .i64 r], .int .i64 f] w fun e w' => ∃ p n c, e = .returned (.tuple #[.slice p n c, .int .i64 (Mm.err i o r f)]) ∧ SliceC rgC 3 w' (.slice p n c) (Mm.regs i o r f) ∧ Below w.heap.size w w' := by
  by_cases h0 : Mm.err i o r f = 0
  · refine (rregions_ok i o r f w (Lib.hid h0) hr).mono ?_
    rintro e w' ⟨a, c, rfl, hs, hb⟩
    exact ⟨some a, 7, c, by rw [h0], by unfold Mm.regs; rw [if_pos h0]; exact hs, hb⟩
  · refine (rregions_no i o r f _ w (Lib.hid rfl) h0 hr).mono ?_
    rintro e w' ⟨rfl, hb⟩
    refine ⟨none, 0, 0, rfl, ?_, hb⟩
    unfold Mm.regs
    rw [if_neg h0]
    exact ⟨none, 0, rfl, fun k hk => absurd hk (Nat.not_lt_zero _)⟩
end Go.Proofs.Ytchljdcjlkfbfaa
