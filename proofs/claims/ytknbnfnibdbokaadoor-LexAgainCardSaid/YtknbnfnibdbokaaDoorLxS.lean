/-
  Slices of tokens, as cells.
-/
import Derived.Maps.AppendAt
import Derived.Test.YtknbnfnibdbokaaDoorLxP
namespace Go.Proofs.YtknbnfnibdbokaaDoor
open Go.ChangeShapes Go.WideShapes Go.ChangeAt Go.RowKit
set_option linter.unusedVariables false
set_option linter.unusedSimpArgs false

theorem cell_lt {w : World} {a : Addr} {u : Value} (h : w.cell? a = some u) : a.block < w.heap.size := by
  apply Nat.lt_of_not_le
  intro hge
  simp [World.cell?, Array.getElem?_eq_none hge] at h
/-- cells from an address on -/
def OnC (W : World) (a : Addr) (cs : List Value) : Prop := ∀ j u, cs[j]? = some u → W.cell? (a.add j) = some u
theorem OnC.kept {W W' : World} {a : Addr} {cs : List Value} (h : OnC W a cs) (hb : Below W.heap.size W W') : OnC W' a cs := fun j u hj => by
  have h1 := h j u hj
  rw [hb.cell (p := a.add j) (cell_lt h1)]
  exact h1
/-- a slice's elements -/
def SliceC {α : Type} (f : α → List Value) (sz : Nat) (W : World) (v : Value) (L : List α) : Prop :=
  ∃ (p : Option Addr) (cap : Nat), v = .slice p L.length cap ∧ ∀ k (hk : k < L.length), ∃ a, p = some a ∧ OnC W (a.add (k * sz)) (f L[k])
theorem SliceC.kept {α : Type} {f : α → List Value} {sz : Nat} {W W' : World} {v : Value} {L : List α} (h : SliceC f sz W v L) (hb : Below W.heap.size W W') : SliceC f sz W' v L := by
  obtain ⟨p, cap, rfl, hc⟩ := h
  refine ⟨p, cap, rfl, fun k hk => ?_⟩
  obtain ⟨a, rfl, hi⟩ := hc k hk
  exact ⟨a, rfl, hi.kept hb⟩
theorem flatC_len {α : Type} (f : α → List Value) (sz : Nat) (hf : ∀ x, (f x).length = sz) (L : List α) : (L.flatMap f).length = L.length * sz := by
  induction L with
  | nil => simp
  | cons i L ih => rw [List.flatMap_cons, List.length_append, ih, hf, List.length_cons, Nat.succ_mul, Nat.add_comm]
theorem flatC_get {α : Type} (f : α → List Value) (sz : Nat) (hf : ∀ x, (f x).length = sz) (L : List α) : ∀ k (hk : k < L.length) j u, (f L[k])[j]? = some u → (L.flatMap f)[k * sz + j]? = some u := by
  induction L with
  | nil => intro k hk; exact absurd hk (Nat.not_lt_zero _)
  | cons i L ih =>
    intro k hk j u hj
    have hj8 : j < sz := by
      apply Nat.lt_of_not_le
      intro hge
      rw [List.getElem?_eq_none (by rw [hf]; exact hge)] at hj
      cases hj
    rw [List.flatMap_cons]
    cases k with
    | zero => rw [List.getElem?_append_left (by rw [hf]; omega)]; simpa using hj
    | succ k =>
      rw [List.getElem?_append_right (by rw [hf, Nat.succ_mul]; omega)]
      have e : (k + 1) * sz + j - (f i).length = k * sz + j := by rw [hf, Nat.succ_mul]; omega
      rw [e]
      exact ih k (by simpa using hk) j u (by simpa using hj)
/-- an owned row is a slice of its elements -/
theorem sliceC_own {α : Type} {f : α → List Value} {sz : Nat} (hf : ∀ x, (f x).length = sz) {W : World} {base : Nat} {e : TypeId} {v : Value} {L : List α} (h : W.ownsRow base e sz v L.length (L.flatMap f)) : SliceC f sz W v L := by
  rcases h.2 with ⟨rfl, h0⟩ | ⟨g, cap, cur, rfl, hb, hg, hc, hm, hs, ht⟩
  · exact ⟨none, 0, by rw [h0], fun k hk => by omega⟩
  · refine ⟨some ⟨g, 0, none⟩, cap, rfl, fun k hk => ⟨_, rfl, fun j u hj => ?_⟩⟩
    have h1 := flatC_get f sz hf L k hk j u hj
    have hadd : (((⟨g, 0, none⟩ : Addr).add (k * sz)).add j) = ⟨g, k * sz + j, none⟩ := by
      rw [Go.Deep.add_add]
      unfold Addr.add
      split <;> simp_all
    rw [hadd]
    simp only [World.cell?, hg]
    rw [← ht] at h1
    have h2 : cur.toList[k * sz + j]? = some u := by
      rw [List.getElem?_take] at h1
      split at h1
      · exact h1
      · cases h1
    simpa using h2
/-- a token's cells -/
def tkC (x : Lx.Tok) : List Value := [.int .i64 x.kind, .int .i64 x.pos, .int .i64 x.num, .string (Lx.S x.text)]
theorem tkC_len (x : Lx.Tok) : (tkC x).length = 4 := rfl
theorem tkC_flat (ts : List Lx.Tok) : (ts.flatMap tkC).length = ts.length * 4 := flatC_len tkC 4 tkC_len ts
theorem own_ge {W : World} {base : Nat} {e : TypeId} {size : Nat} {v : Value} {n : Nat} {xs : List Value} (h : W.ownsRow base e size v n xs) : ∀ j, v.ownBlock = some j → base ≤ j := by
  rcases h.2 with ⟨rfl, h0⟩ | ⟨g, cap, cur, rfl, hb, hg, hc, hm, hs, ht⟩
  · intro j hj; cases hj
  · intro j hj; cases hj; exact hb
theorem grown_below {A B : World} (h : Below A.heap.size A B) : A.grownBy B none := ⟨h.os, h.tape, h.output, h.size, fun k hk _ => h.block k hk⟩
theorem own_below {W W' : World} {base : Nat} {e : TypeId} {size : Nat} {v : Value} {n : Nat} {xs : List Value} (h : W.ownsRow base e size v n xs) (hb : Below W.heap.size W W') : W'.ownsRow base e size v n xs :=
  h.kept (row := none) (grown_below hb) (by cases hv : v.ownBlock <;> simp)
theorem own_setRow {W : World} {base : Nat} {e : TypeId} {size : Nat} {v : Value} {n : Nat} {xs : List Value} (h : W.ownsRow base e size v n xs) {b : Nat} (hb : b < base) (cs : Array Value) : (W.setRow b cs).ownsRow base e size v n xs :=
  ⟨h.1, h.2.imp id fun ⟨g, cap, cur, h1, h2, h3, h4⟩ => ⟨g, cap, cur, h1, h2, by rw [setRow_other _ _ _ _ (by omega)]; exact h3, h4⟩⟩
theorem cell4_new (w : World) (x : Lx.Tok) (t : TypeId) : ∀ j u, (tkC x)[j]? = some u → (w.alloc (.cells #[.int .i64 x.kind, .int .i64 x.pos, .int .i64 x.num, .string (Lx.S x.text)] t)).cell? ((⟨w.heap.size, 0, none⟩ : Addr).add j) = some u := by
  intro j u hj
  have hlt : j < 4 := by
    apply Nat.lt_of_not_le
    intro hge
    rw [List.getElem?_eq_none (by exact hge)] at hj
    cases hj
  rcases (by omega : j = 0 ∨ j = 1 ∨ j = 2 ∨ j = 3) with rfl | rfl | rfl | rfl <;> (simp [tkC] at hj; subst hj; simp [go_sem, Addr.add])
theorem Tryd.infoTok : (Tryd.prog.info? 37).map (fun i => (i.zero, i.size, i.bytes)) = some (some (.agg #[.int .i64 0, .int .i64 0, .int .i64 0, .string ⟨#[]⟩]), 4, 40) := by kernel_rfl
end Go.Proofs.YtknbnfnibdbokaaDoor
