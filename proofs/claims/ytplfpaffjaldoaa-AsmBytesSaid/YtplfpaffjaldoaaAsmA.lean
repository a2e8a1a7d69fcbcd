/-
  Package asm: an item's cells, and what size, branch and none return.
-/
import Derived.Deep.Slices
import Derived.Test.YtplfpaffjaldoaaDecodeK0
import Derived.Test.YtplfpaffjaldoaaThumbX
import Derived.Test.YtplfpaffjaldoaaThumbE
namespace Go.Proofs.Ytplfpaffjaldoaa
open Go.ChangeShapes Go.WideShapes Go.ChangeAt Go.RowKit
set_option linter.unusedVariables false

/-- an item -/
structure As.It where
  kind : Int
  label : Int
  ins : Th.Ins
def itC (x : As.It) : List Value := .int .i64 x.kind :: .int .i64 x.label :: insC x.ins
abbrev itV (x : As.It) : Value := .agg #[.int .i64 x.kind, .int .i64 x.label, .int .i64 x.ins.op, .int .i64 x.ins.rd, .int .i64 x.ins.rn, .int .i64 x.ins.rm, .int .i64 x.ins.ra, .int .i64 x.ins.imm, .int .i64 x.ins.cond, .bool x.ins.wide]
/-- cells from an address on -/
def OnC (W : World) (a : Addr) (cs : List Value) : Prop := ∀ j u, cs[j]? = some u → W.cell? (a.add j) = some u
theorem OnC.kept {W W' : World} {a : Addr} {cs : List Value} (h : OnC W a cs) (hb : Below W.heap.size W W') : OnC W' a cs := fun j u hj => by
  have h1 := h j u hj
  rw [hb.cell (p := a.add j) (cell_lt h1)]
  exact h1
/-- a slice's elements -/
def SliceC {α : Type} (f : α → List Value) (sz : Nat) (W : World) (v : Value) (L : List α) : Prop :=
  ∃ (p : Option Addr) (cap : Nat), v = .slice p L.length cap ∧ ∀ k (hk : k < L.length), ∃ a, p = some a ∧ OnC W (a.add (k * sz)) (f L[k])
theorem SliceC.kept {α : Type} {f : α → List Value} {sz : Nat} {W W' : World} {v : Value} {L : List α} (h : SliceC f sz W v L) (hb : Below W.heap.size W W') : SliceC f sz W' v L := by
  obtain ⟨p, cap, rfl, hc⟩ := h
  refine ⟨p, cap, rfl, fun k hk => ?_⟩
  obtain ⟨a, rfl, hi⟩ := hc k hk
  exact ⟨a, rfl, hi.kept hb⟩
theorem flatC_len {α : Type} (f : α → List Value) (sz : Nat) (hf : ∀ x, (f x).length = sz) (L : List α) : (L.flatMap f).length = L.length * sz := by
  induction L with
  | nil => simp
  | cons i L ih => rw [List.flatMap_cons, List.length_append, ih, hf, List.length_cons, Nat.succ_mul, Nat.add_comm]
theorem flatC_get {α : Type} (f : α → List Value) (sz : Nat) (hf : ∀ x, (f x).length = sz) (L : List α) : ∀ k (hk : k < L.length) j u, (f L[k])[j]? = some u → (L.flatMap f)[k * sz + j]? = some u := by
  induction L with
  | nil => intro k hk; exact absurd hk (Nat.not_lt_zero _)
  | cons i L ih =>
    intro k hk j u hj
    have hj8 : j < sz := by
      apply Nat.lt_of_not_le
      intro hge
      rw [List.getElem?_eq_none (by rw [hf]; exact hge)] at hj
      cases hj
    rw [List.flatMap_cons]
    cases k with
    | zero => rw [List.getElem?_append_left (by rw [hf]; omega)]; simpa using hj
    | succ k =>
      rw [List.getElem?_append_right (by rw [hf, Nat.succ_mul]; omega)]
      have e : (k + 1) * sz + j - (f i).length = k * sz + j := by rw [hf, Nat.succ_mul]; omega
      rw [e]
      exact ih k (by simpa using hk) j u (by simpa using hj)
/-- an owned row is a slice of its elements -/
theorem sliceC_own {α : Type} {f : α → List Value} {sz : Nat} (hf : ∀ x, (f x).length = sz) {W : World} {base : Nat} {e : TypeId} {v : Value} {L : List α} (h : W.ownsRow base e sz v L.length (L.flatMap f)) : SliceC f sz W v L := by
  rcases h.2 with ⟨rfl, h0⟩ | ⟨g, cap, cur, rfl, hb, hg, hc, hm, hs, ht⟩
  · exact ⟨none, 0, by rw [h0], fun k hk => by omega⟩
  · refine ⟨some ⟨g, 0, none⟩, cap, rfl, fun k hk => ⟨_, rfl, fun j u hj => ?_⟩⟩
    have h1 := flatC_get f sz hf L k hk j u hj
    have hadd : (((⟨g, 0, none⟩ : Addr).add (k * sz)).add j) = ⟨g, k * sz + j, none⟩ := by
      rw [Go.Deep.add_add]
      unfold Addr.add
      split <;> simp_all
    rw [hadd]
    simp only [World.cell?, hg]
    rw [← ht] at h1
    have h2 : cur.toList[k * sz + j]? = some u := by
      rw [List.getElem?_take] at h1
      split at h1
      · exact h1
      · cases h1
    simpa using h2
theorem itC_len (x : As.It) : (itC x).length = 10 := rfl
/-- an item's cells, as a walk asks for them -/
abbrev ItAt (W : World) (a : Addr) (kind label op rd rn rm ra imm cond : Int) (wide : Bool) : Prop :=
  W.cell? a = some (.int .i64 kind) ∧ W.cell? ⟨(a).block, (a).off + 1, none⟩ = some (.int .i64 label) ∧ W.cell? ⟨(a).block, (a).off + 2, none⟩ = some (.int .i64 op) ∧ W.cell? ⟨(a).block, (a).off + 3, none⟩ = some (.int .i64 rd) ∧ W.cell? ⟨(a).block, (a).off + 4, none⟩ = some (.int .i64 rn) ∧ W.cell? ⟨(a).block, (a).off + 5, none⟩ = some (.int .i64 rm) ∧ W.cell? ⟨(a).block, (a).off + 6, none⟩ = some (.int .i64 ra) ∧ W.cell? ⟨(a).block, (a).off + 7, none⟩ = some (.int .i64 imm) ∧ W.cell? ⟨(a).block, (a).off + 8, none⟩ = some (.int .i64 cond) ∧ W.cell? ⟨(a).block, (a).off + 9, none⟩ = some (.bool wide)
theorem ItAt.of {W : World} {a : Addr} {kind label op rd rn rm ra imm cond : Int} {wide : Bool} (h : OnC W a (itC ⟨kind, label, ⟨op, rd, rn, rm, ra, imm, cond, wide⟩⟩)) : ItAt W a kind label op rd rn rm ra imm cond wide :=
  ⟨by have h0 := h 0 _ rfl; rw [add_zero'] at h0; exact h0, h 1 _ rfl, h 2 _ rfl, h 3 _ rfl, h 4 _ rfl, h 5 _ rfl, h 6 _ rfl, h 7 _ rfl, h 8 _ rfl, h 9 _ rfl⟩
abbrev ItBox (W : World) (b : Nat) (kind label op rd rn rm ra imm cond : Int) (wide : Bool) : Prop :=
  W.cell? ⟨b, 0, none⟩ = some (.int .i64 kind) ∧ W.cell? ⟨b, 1, none⟩ = some (.int .i64 label) ∧ W.cell? ⟨b, 2, none⟩ = some (.int .i64 op) ∧ W.cell? ⟨b, 3, none⟩ = some (.int .i64 rd) ∧ W.cell? ⟨b, 4, none⟩ = some (.int .i64 rn) ∧ W.cell? ⟨b, 5, none⟩ = some (.int .i64 rm) ∧ W.cell? ⟨b, 6, none⟩ = some (.int .i64 ra) ∧ W.cell? ⟨b, 7, none⟩ = some (.int .i64 imm) ∧ W.cell? ⟨b, 8, none⟩ = some (.int .i64 cond) ∧ W.cell? ⟨b, 9, none⟩ = some (.bool wide)
theorem it_alloc (w : World) (t : TypeId) (kind label op rd rn rm ra imm cond : Int) (wide : Bool) : ItBox (w.alloc (.cells #[.int .i64 kind, .int .i64 label, .int .i64 op, .int .i64 rd, .int .i64 rn, .int .i64 rm, .int .i64 ra, .int .i64 imm, .int .i64 cond, .bool wide] t)) w.heap.size kind label op rd rn rm ra imm cond wide := by
  refine ⟨?_, ?_, ?_, ?_, ?_, ?_, ?_, ?_, ?_, ?_⟩ <;> simp [go_sem]
section
variable {W w' : World} {b : Nat} {kind label op rd rn rm ra imm cond : Int} {wide : Bool}
theorem ItBox.below (h : ItBox W b kind label op rd rn rm ra imm cond wide) (hb : Below W.heap.size W w') (hlt : b < W.heap.size) : ItBox w' b kind label op rd rn rm ra imm cond wide := by
  obtain ⟨h0, h1, h2, h3, h4, h5, h6, h7, h8, h9⟩ := h
  refine ⟨?_, ?_, ?_, ?_, ?_, ?_, ?_, ?_, ?_, ?_⟩ <;> (rw [hb.cell (by exact hlt)]; assumption)
end
def As.size (kind : Int) (i : Th.Ins) (wd : Bool) : Int := if kind == 0 then Th.size i else if kind == 2 then (if wd then 4 else 2) else 0
theorem size_lit (op rd rn rm ra imm cond : Int) (wide : Bool) (n : Int) (w : World) (h : Hid (Th.size ⟨op, rd, rn, rm, ra, imm, cond, wide⟩ = n)) :
    Calls Try.prog 12 #[.agg #[.int .i64 op, .int .i64 rd, .int .i64 rn, .int .i64 rm, .int .i64 ra, .int .i64 imm, .int .i64 cond, .bool wide]] w fun e w' => e = .returned (.int .i64 n) ∧ Below w.heap.size w w' := by
  have := size_any op rd rn rm ra imm cond wide w
  rw [h.out] at this
  exact this
set_option maxHeartbeats 4000000 in
set_option maxRecDepth 100000 in
theorem asize_any (kind label op rd rn rm ra imm cond : Int) (wide : Bool) (wd : Bool) (w : World) :
    Calls Try.prog 30 #[.agg #[.int .i64 kind, .int .i64 label, .int .i64 op, .int .i64 rd, .int .i64 rn, .int .i64 rm, .int .i64 ra, .int .i64 imm, .int .i64 cond, .bool wide], .bool wd] w fun e w' => e = .returned (.int .i64 (As.size kind ⟨op, rd, rn, rm, ra, imm, cond, wide⟩ wd)) ∧ Below w.heap.size w w' := by
  by_cases h0 : kind = 0
  · subst h0
    obtain ⟨n, hn⟩ : ∃ n, Th.size ⟨op, rd, rn, rm, ra, imm, cond, wide⟩ = n := ⟨_, rfl⟩
    have HN := Lib.hid hn
    rw [show As.size 0 ⟨op, rd, rn, rm, ra, imm, cond, wide⟩ wd = n from hn]
    clear hn
    go_enter Try.func30, Try.ntmps30
    go_wp2_with (go_at_call 12; refine (size_lit _ _ _ _ _ _ _ _ _ _ HN).mono ?_; rintro e w1 ⟨rfl, hb1⟩)
    go_ret
    exact ⟨rfl, ((Below.refl _ _).alloc (Nat.le_refl _) _).trans (hb1.mono (by simp))⟩
  · have q0 : (kind == 0) = false := by simpa using h0
    by_cases h2 : kind = 2
    · subst h2
      clear h0 q0
      cases wd with
      | true =>
        rw [show As.size 2 ⟨op, rd, rn, rm, ra, imm, cond, wide⟩ true = 4 from rfl]
        go_enter Try.func30, Try.ntmps30
        go_wp2
        go_ret
        exact ⟨rfl, by go_grown⟩
      | false =>
        rw [show As.size 2 ⟨op, rd, rn, rm, ra, imm, cond, wide⟩ false = 2 from rfl]
        go_enter Try.func30, Try.ntmps30
        go_wp2
        go_ret
        exact ⟨rfl, by go_grown⟩
    · have q2 : (kind == 2) = false := by simpa using h2
      rw [show As.size kind ⟨op, rd, rn, rm, ra, imm, cond, wide⟩ wd = 0 by unfold As.size; rw [q0, q2]; rfl]
      go_enter Try.func30, Try.ntmps30
      go_wp2
      go_ret
      exact ⟨rfl, by go_grown⟩
set_option maxHeartbeats 4000000 in
set_option maxRecDepth 100000 in
theorem abranch_any (kind label op rd rn rm ra imm cond : Int) (wide : Bool) (im : Int) (wd : Bool) (w : World) :
    Calls Try.prog 36 #[.agg #[.int .i64 kind, .int .i64 label, .int .i64 op, .int .i64 rd, .int .i64 rn, .int .i64 rm, .int .i64 ra, .int .i64 imm, .int .i64 cond, .bool wide], .int .i64 im, .bool wd] w fun e w' => e = .returned (.agg #[.int .i64 op, .int .i64 0, .int .i64 0, .int .i64 0, .int .i64 0, .int .i64 im, .int .i64 cond, .bool wd]) ∧ Below w.heap.size w w' := by
  go_enter Try.func36, Try.ntmps36
  go_wp2
  exact bodyPost_ret (v := .agg #[.int .i64 op, .int .i64 0, .int .i64 0, .int .i64 0, .int .i64 0, .int .i64 im, .int .i64 cond, .bool wd]) (by simp [results, Try.results36, go_sem]) rfl ⟨rfl, by go_grown⟩
end Go.Proofs.Ytplfpaffjaldoaa
