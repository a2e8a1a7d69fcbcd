/-
  Law ImageBuilds: of any head and code the image that is built, and the error, are those of the document.
  Conditions: none but those of the given row.
-/
import Derived.Test.YtncbgfcmekaniaaRows
import Derived.Test.YtncbgfcmekaniaaImageL
import Derived.WalkKit
import Derived.ProofKit
import Derived.OpenShut
import Derived.ShutString
import Derived.ChangeOld
import Derived.Below
import Derived.LoopN
import Derived.SizedLaws
namespace Go.Proofs.Ytncbgfcmekaniaa.imageBuilds
open Go.ChangeShapes Go.WideShapes Go.ChangeAt Go.RowKit
open Go.ChangeMaps (open_string shut_string)
set_option linter.unusedVariables false

theorem own : ownKnob Try.prog.godebug = none := by kernel_rfl
theorem laidOut : laidOutB Try.prog = true := by kernel_rfl

set_option maxHeartbeats 8000000 in
set_option maxRecDepth 100000 in
theorem whole_walk (r h i o l m : Int) (c : ByteArray) (w : World) (wl : Hid ((Lit.int .i64 l).wf = true)) (hm : c.size ≤ maxLen) :
    Calls Try.prog 3 #[.agg #[.int .i64 r, .int .i64 h, .int .i64 i, .int .i64 o, .int .i64 l, .int .i64 m], .string c] w fun e w' => e = .returned (.bool true) ∧ Below w.heap.size w w' := by
  have hm2 := hm
  unfold maxLen at hm2
  clear hm
  by_cases hz : 524288 < c.size
  · have hz' : (524288 : Int) < (c.size : Int) := by omega
    clear hz hm2
    go_enter Try.func3, Try.ntmps3
    go_wp2_with (go_at_call 6; refine (lives_any _).mono ?_; rintro e w1 ⟨rfl, hb1⟩)
    go_ret
    exact ⟨rfl, ((Below.refl w.heap.size w).alloc (Nat.le_refl _) _).trans (hb1.mono (by simp))⟩
  · have hz' : ¬ (524288 : Int) < (c.size : Int) := by omega
    have hc : Hid (c.size ≤ 600000) := Lib.hid (by omega)
    clear hz hm2
    obtain ⟨T, E, hB⟩ : ∃ T E, Im.build ⟨r, h, i, o, l, m⟩ c = (T, E) := ⟨_, _, rfl⟩
    have HB := Lib.hid hB
    clear hB
    have HN := Lib.hid (Im.HdAt.new w r h i o l m 25)
    go_enter Try.func3, Try.ntmps3
    go_wp2_with (first
      | (go_at_call 8; refine (own_any _ _ _ _ _ _ _).mono ?_; rintro e w1 ⟨rfl, hb1⟩; have HN1 := Lib.hid (HN.out.kept hb1); have HB1 := Lib.hid (((Below.refl w.heap.size w).alloc (Nat.le_refl _) _).trans (hb1.mono (by simp))); clear hb1)
      | (go_at_call 7; refine (build_lit _ _ _ _ _ _ _ T E _ hc.out HB).mono ?_; rintro e w2 ⟨rfl, hb2⟩; have HB2 := Lib.hid (below_on HB1.out hb2 HB1.out.size); have HN2 := Lib.hid (HN1.out.kept hb2); obtain ⟨c0, c1, c2, c3, c4, c5⟩ := HN2.out; clear hb2)
      | (go_at_call 9; refine (rbuild_lit _ _ _ _ _ _ _ T E _ hc.out wl HB).mono ?_; rintro e w3 ⟨rfl, hb3⟩; have HB3 := Lib.hid (below_on HB2.out hb3 HB2.out.size); clear hb3)
      | (go_at_call 6; refine (lives_any _).mono ?_; rintro e w4 ⟨rfl, hb4⟩; have HB4 := Lib.hid (below_on HB3.out hb4 HB3.out.size); clear hb4))
    go_ret
    exact ⟨rfl, HB4.out⟩
theorem walk (xr0 xh0 xi0 xo0 xl0 xm0 : Int) (a1 : ByteArray) (wl0 : (Lit.int .i64 xl0).wf = true) (w1 : a1.size ≤ maxLen) (w : World) :
    Calls Try.prog 3 #[.agg #[.int .i64 xr0, .int .i64 xh0, .int .i64 xi0, .int .i64 xo0, .int .i64 xl0, .int .i64 xm0], .string a1] w fun e w' => e = .returned (.bool true) ∧ Below w.heap.size w w' := by
  exact whole_walk xr0 xh0 xi0 xo0 xl0 xm0 a1 w (Lib.hid wl0) w1

set_option maxRecDepth 100000 in
theorem lifted (os : Os) (started : os.Started) (H : Type) (enc : TypeId × Value → H) :
    ReturnsInHanded {} Try.checked os 3 .any (Rows.imageBuildsSpec.pre6 enc Try.prog Try.f3 Rows.imageBuildsRow.domain false) (Rows.imageBuildsSpec.post enc Try.prog Try.f3 false true false false) := by
  refine returnsInHanded_of_change (C := Try.checked) own started (by kernel_rfl) Try.func3
    (ChangeSpec.witness6 (enc := enc) (C := Try.checked) false ⟨#[], #[.agg #[.int .i64 0, .int .i64 0, .int .i64 0, .int .i64 0, .int .i64 0, .int .i64 0], .string ByteArray.empty], []⟩ 8 (by kernel_rfl) (by kernel_rfl) (by kernel_rfl) (by kernel_rfl)) ?_
  intro W base args ds gs before hval0 hW hcnd _
  have hval : ∀ (j : Nat) t v, Try.f3.params[j]? = some t → args[j]? = some v → Value.okWide Try.prog W .any base t v := hval0
  have hW' := hW
  obtain ⟨p, q, hA0, hV, rfl, hfz, hnd⟩ := hW
  have hA : DataW.TrodAll enc Try.prog W 0 (fun _ => true) true Try.f3.params.toList args.toList ds p := hA0
  rw [Try.params3] at hA hval
  obtain ⟨v0, vs0, d0, ds0, p0, q0, hargs, rfl, rfl, h0, r0⟩ := trodAll_cons hA
  obtain ⟨v1, vs1, d1, ds1, p1, q1, rfl, rfl, rfl, h1, r1⟩ := trodAll_cons r0
  obtain ⟨rfl, rfl, rfl⟩ := trodAll_nil r1
  obtain rfl : args = #[v0, v1] := by cases args; simp_all
  obtain ⟨rfl, rfl⟩ := trodVars_none hV
  have k0 := h0
  have lt0 : ∀ x ∈ p0, x.block < W.heap.size := by obtain ⟨m, hm⟩ := k0; exact DataW.trod_lt m _ _ _ hm
  obtain ⟨xr0, xh0, xi0, xo0, xl0, xm0, rfl, wl0⟩ := open_head (hval 0 25 v0 rfl rfl) h0
  obtain ⟨a1, rfl, rfl, rfl, w1⟩ := open_string Try.underlying9 (hval 1 9 v1 rfl rfl) h1
  clear hA0 hval0
  refine (walk xr0 xh0 xi0 xo0 xl0 xm0 a1 wl0 w1 W).mono fun e W' ⟨he, bel⟩ => ?_
  subst he
  exact ⟨_, rfl, _, _, _, [], _, [], hW', trodAll_mk1 (shut_bool Try.underlying4 _), (trodAll_cons_mk (Below.trod laidOut (by kernel_rfl) (of_decide_eq_true (by kernel_rfl)) k0 bel lt0) (trodAll_cons_mk (shut_string Try.underlying9 w1) trodAll_mk0)), rfl, bel.frame _, fun h => by cases h⟩

theorem over : Rows.imageBuildsRow.holds Try.pinned (OpenSpec.ofChange Rows.imageBuildsSpec) :=
  OpenClaim.holds_of_wide 3 Try.f3 rfl rfl rfl rfl rfl rfl rfl ⟨rfl, rfl, rfl, rfl, rfl⟩ rfl rfl rfl rfl rfl (by kernel_rfl) Try.func3 (by kernel_rfl)
    (of_decide_eq_true (by kernel_rfl)) (by unfold Func.isWrapper; first | (rw [if_pos (by decide +kernel)]; kernel_rfl) | (rw [if_neg (by decide +kernel)]; exact ⟨rfl, rfl⟩))
    (fun os started H enc _ => lifted os started H enc)

/-- the statement -/
theorem proved : Rows.ImageBuildsSaid := over
#print axioms proved
end Go.Proofs.Ytncbgfcmekaniaa.imageBuilds
