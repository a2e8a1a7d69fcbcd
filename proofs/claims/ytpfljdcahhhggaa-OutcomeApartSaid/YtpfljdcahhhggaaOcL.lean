/-
  Layer 10's example is told; results among a law's arguments.
-/
import Derived.Lib.SmallJoins
import Derived.OpenShut
import Derived.Deep.RegionHeld3
import Derived.SizedLaws
import Derived.Test.YtpfljdcahhhggaaOcD
namespace Go.Proofs.Ytpfljdcahhhggaa
open Go.Joins Go.ChangeShapes Go.WideShapes Go.ChangeAt Go.RowKit Go.Deep
set_option linter.unusedVariables false
set_option linter.unusedSimpArgs false

abbrev Box9 (W : World) (b : Nat) (h : Bool) (st cy ha co su : Int) (o a b' : ByteArray) : Prop := W.cell? ⟨b, 0, none⟩ = some (.bool h) ∧ W.cell? ⟨b, 1, none⟩ = some (.int .i64 st) ∧ W.cell? ⟨b, 2, none⟩ = some (.int .i64 cy) ∧ W.cell? ⟨b, 3, none⟩ = some (.int .i64 ha) ∧ W.cell? ⟨b, 4, none⟩ = some (.int .i64 co) ∧ W.cell? ⟨b, 5, none⟩ = some (.int .i64 su) ∧ W.cell? ⟨b, 6, none⟩ = some (.string o) ∧ W.cell? ⟨b, 7, none⟩ = some (.string a) ∧ W.cell? ⟨b, 8, none⟩ = some (.string b')
abbrev Box2 (W : World) (b : Nat) (k : Int) (o : ByteArray) : Prop := W.cell? ⟨b, 0, none⟩ = some (.int .i64 k) ∧ W.cell? ⟨b, 1, none⟩ = some (.string o)
abbrev Box3 (W : World) (b : Nat) (i o r : Int) : Prop := W.cell? ⟨b, 0, none⟩ = some (.int .i64 i) ∧ W.cell? ⟨b, 1, none⟩ = some (.int .i64 o) ∧ W.cell? ⟨b, 2, none⟩ = some (.int .i64 r)
theorem cell_lt {w : World} {a : Addr} {u : Value} (h : w.cell? a = some u) : a.block < w.heap.size := by
  apply Nat.lt_of_not_le
  intro hge
  simp [World.cell?, Array.getElem?_eq_none hge] at h
section
variable {W W' : World} {c : Nat} {h : Bool} {st cy ha co su : Int} {o a b' : ByteArray} {k i r : Int} {t : TypeId}
theorem Box9.of (H : W.heap[c]? = some (.cells #[.bool h, .int .i64 st, .int .i64 cy, .int .i64 ha, .int .i64 co, .int .i64 su, .string o, .string a, .string b'] t (0, 0))) : Box9 W c h st cy ha co su o a b' :=
  ⟨cellOf H 0 _ rfl, cellOf H 1 _ rfl, cellOf H 2 _ rfl, cellOf H 3 _ rfl, cellOf H 4 _ rfl, cellOf H 5 _ rfl, cellOf H 6 _ rfl, cellOf H 7 _ rfl, cellOf H 8 _ rfl⟩
theorem Box2.of (H : W.heap[c]? = some (.cells #[.int .i64 k, .string o] t (0, 0))) : Box2 W c k o := ⟨cellOf H 0 _ rfl, cellOf H 1 _ rfl⟩
theorem Box3.of (H : W.heap[c]? = some (.cells #[.int .i64 i, .int .i64 k, .int .i64 r] t (0, 0))) : Box3 W c i k r := ⟨cellOf H 0 _ rfl, cellOf H 1 _ rfl, cellOf H 2 _ rfl⟩
theorem Box9.kept (H : Box9 W c h st cy ha co su o a b') (hb : Below W.heap.size W W') : Box9 W' c h st cy ha co su o a b' := by
  have hlt : c < W.heap.size := cell_lt H.1
  obtain ⟨h0, h1, h2, h3, h4, h5, h6, h7, h8⟩ := H
  refine ⟨?_, ?_, ?_, ?_, ?_, ?_, ?_, ?_, ?_⟩ <;> (rw [hb.cell (by exact hlt)]; assumption)
theorem Box2.kept (H : Box2 W c k o) (hb : Below W.heap.size W W') : Box2 W' c k o := by
  have hlt : c < W.heap.size := cell_lt H.1
  obtain ⟨h0, h1⟩ := H
  refine ⟨?_, ?_⟩ <;> (rw [hb.cell (by exact hlt)]; assumption)
theorem Box3.kept (H : Box3 W c i k r) (hb : Below W.heap.size W W') : Box3 W' c i k r := by
  have hlt : c < W.heap.size := cell_lt H.1
  obtain ⟨h0, h1, h2⟩ := H
  refine ⟨?_, ?_, ?_⟩ <;> (rw [hb.cell (by exact hlt)]; assumption)
end
theorem alloc_below (W : World) (o : Obj) : Below W.heap.size W (W.alloc o) := (Below.refl _ _).alloc (Nat.le_refl _) o
set_option maxHeartbeats 4000000 in
theorem lives_any (w : World) : Calls Try.prog 10 #[] w fun e w' => e = .returned (.bool true) ∧ Below w.heap.size w w' := by
  have C1 : Hid (∀ w : World, Calls Try.prog 6 #[.agg #[.bool true, .int .i64 0, .int .i64 0, .int .i64 0, .int .i64 3235799053, .int .i64 0, .string ⟨#[97, 98, 99, 100]⟩, .string ⟨#[]⟩, .string ⟨#[]⟩]] w fun e w' => e = .returned (.agg #[.int .i64 1, .string ⟨#[97, 98, 99, 100]⟩]) ∧ Below w.heap.size w w') := Lib.hid fun w => of_any true 0 0 0 3235799053 0 ⟨#[97, 98, 99, 100]⟩ ⟨#[]⟩ ⟨#[]⟩ w (by decide)
  have C2 : Hid (∀ w : World, Calls Try.prog 12 #[.agg #[.int .i64 4, .int .i64 8, .int .i64 12]] w fun e w' => e = .returned (.int .i64 1280) ∧ Below w.heap.size w w') := Lib.hid fun w => slack_any 4 8 12 w
  have C3 : Hid (∀ w : World, Calls Try.prog 8 #[.agg #[.bool false, .int .i64 0, .int .i64 0, .int .i64 0, .int .i64 0, .int .i64 0, .string ⟨#[]⟩, .string ⟨#[]⟩, .string ⟨#[]⟩]] w fun e w' => e = .returned (.bool true) ∧ Below w.heap.size w w') := Lib.hid fun w => wiped_any false 0 0 0 0 0 ⟨#[]⟩ ⟨#[]⟩ ⟨#[]⟩ w (by decide) (by decide) (by decide)
  go_enter Try.func10, Try.ntmps10
  go_wp2_with (first
    | (go_at_call 6; refine (C1.out _).mono ?_; rintro e w1 ⟨rfl, hb1⟩; have HB1 := Lib.hid hb1; clear hb1)
    | (go_at_call 12; refine (C2.out _).mono ?_; rintro e w2 ⟨rfl, hb2⟩; have HB2 := Lib.hid ((HB1.out.alloc HB1.out.size _).trans (hb2.mono (by have := HB1.out.size; simp; omega))); clear hb2)
    | (go_at_call 8; refine (C3.out _).mono ?_; rintro e w3 ⟨rfl, hb3⟩; have HB3 := Lib.hid (HB2.out.trans (hb3.mono HB2.out.size)); clear hb3))
  go_ret
  exact ⟨rfl, HB3.out⟩
set_option maxRecDepth 100000 in
theorem open_sizes {H : Type} {enc : TypeId × Value → H} {w : World} {base : Nat} {spare : Nat → Bool} {held : Bool} {r : Reach} {b0 : Nat} {v : Value} {d : DataW H} {p : List MemPlace}
    (hv : Value.okWide Try.prog w r b0 32 v) (h : DataW.Trod enc Try.prog w base spare held 32 v d p) :
    ∃ (i o r : Int), v = .agg #[.int .i64 i, .int .i64 o, .int .i64 r] ∧ (Lit.int .i64 i).wf = true ∧ (Lit.int .i64 o).wf = true ∧ (Lit.int .i64 r).wf = true := by
  obtain ⟨cs, rfl, hsz⟩ := okWide_struct Try.underlying32 hv
  have hC : Try.prog.cellsOf 32 = 3 := by kernel_rfl
  obtain ⟨l⟩ := cs
  match l, hsz.trans hC with
  | [c0, c1, c2], _ =>
    obtain ⟨fuel, hf⟩ := h
    obtain ⟨xs, n, _, hx, _, hlen, hg⟩ := DataW.trod_struct Try.underlying32 hf
    have k1 : Try.prog.cellsOf 3 = 1 := by kernel_rfl
    match xs, hlen with
    | [y0, y1, y2], _ =>
      have g0 := hg 0 _ rfl
      have g1 := hg 1 _ rfl
      have g2 := hg 2 _ rfl
      simp [Value.cells, k1] at g0 g1 g2
      obtain ⟨n0, e0, _, f0⟩ := DataW.trod_int Try.underlying3 g0
      obtain ⟨n1, e1, _, f1⟩ := DataW.trod_int Try.underlying3 g1
      obtain ⟨n2, e2, _, f2⟩ := DataW.trod_int Try.underlying3 g2
      simp at e0 e1 e2
      exact ⟨n0, n1, n2, by rw [e0, e1, e2], f0, f1, f2⟩
set_option maxRecDepth 100000 in
set_option maxHeartbeats 4000000 in
theorem open_result {H : Type} {enc : TypeId × Value → H} {w : World} {base : Nat} {spare : Nat → Bool} {held : Bool} {r : Reach} {b0 : Nat} {v : Value} {d : DataW H} {p : List MemPlace}
    (hv : Value.okWide Try.prog w r b0 23 v) (h : DataW.Trod enc Try.prog w base spare held 23 v d p) (hz : ∀ n ∈ d.weights Try.prog 23, n ≤ reachBytes) :
    ∃ (hl : Bool) (st cy ha co su : Int) (o a b : ByteArray), v = .agg #[.bool hl, .int .i64 st, .int .i64 cy, .int .i64 ha, .int .i64 co, .int .i64 su, .string o, .string a, .string b] ∧ o.size ≤ 281474976710656 ∧ a.size ≤ 281474976710656 ∧ b.size ≤ 281474976710656 := by
  obtain ⟨cs, rfl, hsz⟩ := okWide_struct Try.underlying23 hv
  have hC : Try.prog.cellsOf 23 = 9 := by kernel_rfl
  have hR : reachBytes ≤ 281474976710656 := by decide
  obtain ⟨l⟩ := cs
  match l, hsz.trans hC with
  | [c0, c1, c2, c3, c4, c5, c6, c7, c8], _ =>
    obtain ⟨fuel, hf⟩ := h
    obtain ⟨xs, n, _, hx, _, hlen, hg⟩ := DataW.trod_struct Try.underlying23 hf
    have k1 : Try.prog.cellsOf 3 = 1 := by kernel_rfl
    have k2 : Try.prog.cellsOf 4 = 1 := by kernel_rfl
    have k3 : Try.prog.cellsOf 9 = 1 := by kernel_rfl
    match xs, hlen with
    | [y0, y1, y2, y3, y4, y5, y6, y7, y8], _ =>
      have g0 := hg 0 _ rfl
      have g1 := hg 1 _ rfl
      have g2 := hg 2 _ rfl
      have g3 := hg 3 _ rfl
      have g4 := hg 4 _ rfl
      have g5 := hg 5 _ rfl
      have g6 := hg 6 _ rfl
      have g7 := hg 7 _ rfl
      have g8 := hg 8 _ rfl
      simp [Value.cells, k1, k2, k3] at g0 g1 g2 g3 g4 g5 g6 g7 g8
      obtain ⟨n0, e0, _⟩ := DataW.trod_bool Try.underlying4 g0
      obtain ⟨n1, e1, _, f1⟩ := DataW.trod_int Try.underlying3 g1
      obtain ⟨n2, e2, _, f2⟩ := DataW.trod_int Try.underlying3 g2
      obtain ⟨n3, e3, _, f3⟩ := DataW.trod_int Try.underlying3 g3
      obtain ⟨n4, e4, _, f4⟩ := DataW.trod_int Try.underlying3 g4
      obtain ⟨n5, e5, _, f5⟩ := DataW.trod_int Try.underlying3 g5
      obtain ⟨n6, e6, z6, f6⟩ := DataW.trod_string Try.underlying9 g6
      obtain ⟨n7, e7, z7, f7⟩ := DataW.trod_string Try.underlying9 g7
      obtain ⟨n8, e8, z8, f8⟩ := DataW.trod_string Try.underlying9 g8
      simp at e0 e1 e2 e3 e4 e5 e6 e7 e8
      have hd : d = .agg [y0.1, y1.1, y2.1, y3.1, y4.1, y5.1, y6.1, y7.1, y8.1] := congrArg Prod.fst hx
      have q6 : y6.1 = .lit (.string n6.data.toList) := by rw [z6]
      have q7 : y7.1 = .lit (.string n7.data.toList) := by rw [z7]
      have q8 : y8.1 = .lit (.string n8.data.toList) := by rw [z8]
      rw [hd, q6, q7, q8] at hz
      have b6 := hz n6.data.toList.length (by simp [DataW.weights, DataW.weightsEach, Try.underlying23])
      have b7 := hz n7.data.toList.length (by simp [DataW.weights, DataW.weightsEach, Try.underlying23])
      have b8 := hz n8.data.toList.length (by simp [DataW.weights, DataW.weightsEach, Try.underlying23])
      refine ⟨n0, n1, n2, n3, n4, n5, n6, n7, n8, by rw [e0, e1, e2, e3, e4, e5, e6, e7, e8], ?_, ?_, ?_⟩
      · exact Nat.le_trans (by simpa using b6) hR
      · exact Nat.le_trans (by simpa using b7) hR
      · exact Nat.le_trans (by simpa using b8) hR
end Go.Proofs.Ytpfljdcahhhggaa
