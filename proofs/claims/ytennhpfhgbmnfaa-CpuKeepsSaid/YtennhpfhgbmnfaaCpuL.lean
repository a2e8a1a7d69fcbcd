/-
  Stage 8: what lives returns; a state among a law's arguments.
-/
import Derived.Lib.SmallJoins
import Derived.OpenShut
import Derived.Test.YtennhpfhgbmnfaaCpuH
import Derived.Test.YtennhpfhgbmnfaaThumbO
namespace Go.Proofs.Ytennhpfhgbmnfaa
open Go.Joins Go.ChangeShapes Go.WideShapes Go.ChangeAt Go.RowKit Go.Deep
set_option linter.unusedVariables false
set_option linter.unusedSimpArgs false

set_option maxRecDepth 100000 in
theorem open_state {H : Type} {enc : TypeId × Value → H} {w : World} {base : Nat} {spare : Nat → Bool} {held : Bool} {r : Reach} {b0 : Nat} {v : Value} {d : DataW H} {p : List MemPlace}
    (hv : Value.okWide Try.prog w r b0 24 v) (h : DataW.Trod enc Try.prog w base spare held 24 v d p) :
    ∃ s : Cs.St, v = .agg (Cs.cells s) := by
  obtain ⟨cs, rfl, hsz⟩ := okWide_struct Try.underlying24 hv
  have hC : Try.prog.cellsOf 24 = 20 := by kernel_rfl
  obtain ⟨l⟩ := cs
  match l, hsz.trans hC with
  | [c0, c1, c2, c3, c4, c5, c6, c7, c8, c9, c10, c11, c12, c13, c14, c15, c16, c17, c18, c19], _ =>
    obtain ⟨fuel, hf⟩ := h
    obtain ⟨xs, n, _, hx, _, hlen, hg⟩ := DataW.trod_struct Try.underlying24 hf
    have k1 : Try.prog.cellsOf 3 = 1 := by kernel_rfl
    have k2 : Try.prog.cellsOf 4 = 1 := by kernel_rfl
    have k3 : Try.prog.cellsOf 22 = 15 := by kernel_rfl
    match xs, hlen with
    | [y0, y1, y2, y3, y4, y5], _ =>
      have g0 := hg 0 _ rfl
      have g1 := hg 1 _ rfl
      have g2 := hg 2 _ rfl
      have g3 := hg 3 _ rfl
      have g4 := hg 4 _ rfl
      have g5 := hg 5 _ rfl
      simp [Value.cells, k1, k2, k3] at g0 g1 g2 g3 g4 g5
      obtain ⟨npc, epc, _, _⟩ := DataW.trod_int Try.underlying3 g1
      obtain ⟨bn, ebn, _⟩ := DataW.trod_bool Try.underlying4 g2
      obtain ⟨bz, ebz, _⟩ := DataW.trod_bool Try.underlying4 g3
      obtain ⟨bc, ebc, _⟩ := DataW.trod_bool Try.underlying4 g4
      obtain ⟨bv, ebv, _⟩ := DataW.trod_bool Try.underlying4 g5
      obtain ⟨zs, n', _, hz, _, hzl, hzg⟩ := DataW.trod_array Try.underlying22 g0
      match zs, hzl with
      | [z0, z1, z2, z3, z4, z5, z6, z7, z8, z9, z10, z11, z12, z13, z14], _ =>
        have q0 := hzg 0 (by omega)
        have q1 := hzg 1 (by omega)
        have q2 := hzg 2 (by omega)
        have q3 := hzg 3 (by omega)
        have q4 := hzg 4 (by omega)
        have q5 := hzg 5 (by omega)
        have q6 := hzg 6 (by omega)
        have q7 := hzg 7 (by omega)
        have q8 := hzg 8 (by omega)
        have q9 := hzg 9 (by omega)
        have q10 := hzg 10 (by omega)
        have q11 := hzg 11 (by omega)
        have q12 := hzg 12 (by omega)
        have q13 := hzg 13 (by omega)
        have q14 := hzg 14 (by omega)
        simp [k1] at q0 q1 q2 q3 q4 q5 q6 q7 q8 q9 q10 q11 q12 q13 q14
        obtain ⟨n0, e0, _, _⟩ := DataW.trod_int Try.underlying3 q0
        obtain ⟨n1, e1, _, _⟩ := DataW.trod_int Try.underlying3 q1
        obtain ⟨n2, e2, _, _⟩ := DataW.trod_int Try.underlying3 q2
        obtain ⟨n3, e3, _, _⟩ := DataW.trod_int Try.underlying3 q3
        obtain ⟨n4, e4, _, _⟩ := DataW.trod_int Try.underlying3 q4
        obtain ⟨n5, e5, _, _⟩ := DataW.trod_int Try.underlying3 q5
        obtain ⟨n6, e6, _, _⟩ := DataW.trod_int Try.underlying3 q6
        obtain ⟨n7, e7, _, _⟩ := DataW.trod_int Try.underlying3 q7
        obtain ⟨n8, e8, _, _⟩ := DataW.trod_int Try.underlying3 q8
        obtain ⟨n9, e9, _, _⟩ := DataW.trod_int Try.underlying3 q9
        obtain ⟨n10, e10, _, _⟩ := DataW.trod_int Try.underlying3 q10
        obtain ⟨n11, e11, _, _⟩ := DataW.trod_int Try.underlying3 q11
        obtain ⟨n12, e12, _, _⟩ := DataW.trod_int Try.underlying3 q12
        obtain ⟨n13, e13, _, _⟩ := DataW.trod_int Try.underlying3 q13
        obtain ⟨n14, e14, _, _⟩ := DataW.trod_int Try.underlying3 q14
        simp at e0 e1 e2 e3 e4 e5 e6 e7 e8 e9 e10 e11 e12 e13 e14 epc ebn ebz ebc ebv
        exact ⟨⟨fun j => [n0, n1, n2, n3, n4, n5, n6, n7, n8, n9, n10, n11, n12, n13, n14].getD j 0, npc, bn, bz, bc, bv⟩, by rw [e0, e1, e2, e3, e4, e5, e6, e7, e8, e9, e10, e11, e12, e13, e14, epc, ebn, ebz, ebc, ebv]; rfl⟩

/-- the document's example -/
def Cs.ex : Cs.St := ⟨fun j => if j = 1 then 1 else if j = 2 then 2 else 0, 0, false, false, false, false⟩
abbrev Cs.exz : Array Value := #[.int .i64 0, .int .i64 1, .int .i64 2, .int .i64 0, .int .i64 0, .int .i64 0, .int .i64 0, .int .i64 0, .int .i64 0, .int .i64 0, .int .i64 0, .int .i64 0, .int .i64 0, .int .i64 0, .int .i64 0, .int .i64 0, .bool false, .bool false, .bool false, .bool false]
theorem Cs.ex_1 : ∃ S : Cs.St, Cs.stepS Cs.ex ⟨14, 0, 1, 2, 0, 0, 0, false⟩ 0 = S ∧ S.r 0 = 3 ∧ S.pc = 4 := ⟨_, rfl, by decide +kernel, by decide +kernel⟩
theorem Cs.ex_2 : Cs.stepB ⟨14, 0, 1, 2, 0, 0, 0, false⟩ = true := by decide +kernel
theorem Cs.ex_3 : Cs.cycles Cs.ex ⟨24, 0, 0, 0, 0, 0, 0, false⟩ = 3 := by decide +kernel
set_option maxHeartbeats 8000000 in
set_option maxRecDepth 100000 in
theorem lives_any (w : World) : Calls Try.prog 11 #[] w fun e w' => e = .returned (.bool true) ∧ Below w.heap.size w w' := by
  obtain ⟨S, hS, s0, s15⟩ := Cs.ex_1
  have C0 : Hid (∀ w : World, Calls Try.prog 9 #[.agg (Cs.cells Cs.ex), .agg #[.int .i64 14, .int .i64 0, .int .i64 1, .int .i64 2, .int .i64 0, .int .i64 0, .int .i64 0, .bool false], .int .i64 0] w fun e w' => e = .returned (.tuple #[.agg (Cs.cells S), .bool true]) ∧ Below w.heap.size w w') := by
    refine Lib.hid fun w => ?_
    have h := step_any Cs.ex 14 0 1 2 0 0 0 0 false w
    rw [hS, Cs.ex_2] at h
    exact h
  have C1 : Hid (∀ w : World, Calls Try.prog 16 #[.agg (Cs.cells Cs.ex), .int .i64 1] w fun e w' => e = .returned (.bool true) ∧ Below w.heap.size w w') := Lib.hid fun w => holds_any Cs.ex 1 w
  have C2 : Hid (∀ w : World, Calls Try.prog 16 #[.agg (Cs.cells Cs.ex), .int .i64 0] w fun e w' => e = .returned (.bool false) ∧ Below w.heap.size w w') := Lib.hid fun w => holds_any Cs.ex 0 w
  have C3 : Hid (∀ w : World, Calls Try.prog 14 #[.agg (Cs.cells Cs.ex), .agg #[.int .i64 24, .int .i64 0, .int .i64 0, .int .i64 0, .int .i64 0, .int .i64 0, .int .i64 0, .bool false]] w fun e w' => e = .returned (.int .i64 3) ∧ Below w.heap.size w w') := by
    refine Lib.hid fun w => ?_
    have h := cycles_any Cs.ex 24 0 0 0 0 0 0 false w
    rw [Cs.ex_3] at h
    exact h
  have HL : StateAt (w.alloc (.cells Cs.exz 24)) w.heap.size Cs.ex := state_alloc w Cs.ex
  have hb0 : Below w.heap.size w (w.alloc (.cells Cs.exz 24)) := (Below.refl _ _).alloc (Nat.le_refl _) _
  have HS := Lib.hid HL
  have HB := Lib.hid hb0
  clear HL hb0 hS
  go_enter Try.func11, Try.ntmps11
  go_wp2_with (first | ((with_reducible refine wpList_load_stg HS.out ?_ ?_ ?_); exact rfl; exact rfl) | (go_at_call 9; refine (C0.out _).mono ?_; rintro e w1 ⟨rfl, hb⟩; replace HS := Lib.hid (HS.out.below hb); replace HB := Lib.hid (HB.out.trans (hb.mono HB.out.size)); clear hb) | ((with_reducible apply wpList_store_st (state_alloc_zero _)); exact rfl; rw [World.setRow_alloc_new]; replace HS := Lib.hid (HS.out.alloc (.cells (Cs.cells S) 24)); replace HB := Lib.hid (HB.out.alloc HB.out.size (.cells (Cs.cells S) 24)); have t0 := (state_alloc w1 S).reg 0 (by omega); have t15 := (state_alloc w1 S).pc; rw [s0] at t0; rw [s15] at t15; generalize World.alloc w1 _ = W2 at *; generalize w1.heap.size = b1 at *) | ((with_reducible refine wpList_take ?_ ?_); exact rfl; intro _ _) | (go_at_call 16; first | ((with_reducible refine (C1.out _).mono ?_); rintro e w3 ⟨rfl, hb⟩; replace HS := Lib.hid (HS.out.below hb); replace HB := Lib.hid (HB.out.trans (hb.mono HB.out.size)); clear hb) | ((with_reducible refine (C2.out _).mono ?_); rintro e w3 ⟨rfl, hb⟩; replace HS := Lib.hid (HS.out.below hb); replace HB := Lib.hid (HB.out.trans (hb.mono HB.out.size)); clear hb)) | (go_at_call 14; refine (C3.out _).mono ?_; rintro e w4 ⟨rfl, hb⟩; replace HS := Lib.hid (HS.out.below hb); replace HB := Lib.hid (HB.out.trans (hb.mono HB.out.size)); clear hb))
  go_ret
  exact ⟨rfl, HB.out⟩
end Go.Proofs.Ytennhpfhgbmnfaa
