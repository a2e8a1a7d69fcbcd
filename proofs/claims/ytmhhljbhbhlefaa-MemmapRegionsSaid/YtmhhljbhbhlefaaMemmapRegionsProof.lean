/-
  Law MemmapRegions: for all sizes and every length of the flash, the regions of the program are those of the document, with its error.
  Conditions: none but those of the given row.
-/
import Derived.Test.YtmhhljbhbhlefaaRows
import Derived.Test.YtmhhljbhbhlefaaMemO
import Derived.WalkKit
import Derived.ProofKit
import Derived.OpenShut
import Derived.ShutString
import Derived.ChangeOld
import Derived.Below
import Derived.LoopN
import Derived.SizedLaws
namespace Go.Proofs.Ytmhhljbhbhlefaa.memmapRegions
open Go.ChangeShapes Go.WideShapes Go.ChangeAt Go.RowKit
open Go.ChangeMaps (open_string shut_string)
set_option linter.unusedVariables false

theorem own : ownKnob Try.prog.godebug = none := by kernel_rfl
theorem laidOut : laidOutB Try.prog = true := by kernel_rfl

set_option maxHeartbeats 8000000 in
theorem whole_walk (i o r f : Int) (w : World) (hr : Hid ((Lit.int .i64 r).wf = true)) :
    Calls Try.prog 3 #[.agg #[.int .i64 i, .int .i64 o, .int .i64 r], .int .i64 f] w fun e w' => e = .returned (.bool true) ∧ Below w.heap.size w w' := by
  have C1 := Lib.hid fun w => regions_any i o r f w
  have C2 := Lib.hid fun w => rregions_any i o r f w hr
  have C3 := Lib.hid fun w => check_any i o r f w
  have C4 := Lib.hid fun w => rcheck_any i o r f w hr.out
  have HL := Lib.hid (Mm.regs_len i o r f)
  clear hr
  generalize Mm.err i o r f = E at C1 C2 C3 C4
  generalize Mm.regs i o r f = L at C1 C2 HL
  go_enter Try.func3, Try.ntmps3
  go_wp2_with (first
    | (go_at_call 7; refine (C1.out _).mono ?_; rintro e w1 ⟨p1, n1, c1, rfl, hs1, hb1⟩; obtain ⟨x0, x1, x2⟩ := box3 hb1; have HS1 := Lib.hid hs1; have HB1 := Lib.hid (((Below.refl _ _).alloc (Nat.le_refl _) _).trans (hb1.mono (by simp))); clear hs1 hb1)
    | (go_at_call 8; refine (C2.out _).mono ?_; rintro e w2 ⟨p2, n2, c2, rfl, hs2, hb2⟩; obtain ⟨y0, y1, y2⟩ := Box3.kept (b := w.heap.size) ⟨x0, x1, x2⟩ hb2; have HS2 := Lib.hid (HS1.out.kept hb2); have HS3 := Lib.hid hs2; have HB2 := Lib.hid (HB1.out.trans (hb2.mono HB1.out.size)); clear hs2 hb2))
  go_region_held3 (fun wx => Below w2.heap.size w2 wx ∧ Box3 wx w.heap.size i o r)
    (first | exact ⟨(Below.refl _ _).drew, ⟨y0, y1, y2⟩⟩ | exact sz_step (by assumption) (by assumption))
    (first | (go_at_call 9; refine (same_in (by assumption) HS2.out HS3.out HL.out).mono ?_; rintro e w3 ⟨rfl, hb3⟩) | (go_at_call 10; refine (C3.out _).mono ?_; rintro e w4 ⟨rfl, hb4⟩) | (go_at_call 11; refine (C4.out _).mono ?_; rintro e w5 ⟨rfl, hb5⟩) | (go_at_call 12; refine (lives_any _).mono ?_; rintro e w6 ⟨rfl, hb6⟩))
  rename_i hH
  go_wp2
  go_ret
  exact ⟨rfl, HB2.out.trans (hH.1.mono HB2.out.size)⟩
theorem walk (zi0 zo0 zr0 : Int) (a1 : Int) (wi0 : (Lit.int .i64 zi0).wf = true) (wo0 : (Lit.int .i64 zo0).wf = true) (wr0 : (Lit.int .i64 zr0).wf = true) (w1 : (Lit.int .i64 a1).wf = true) (w : World) :
    Calls Try.prog 3 #[.agg #[.int .i64 zi0, .int .i64 zo0, .int .i64 zr0], .int .i64 a1] w fun e w' => e = .returned (.bool true) ∧ Below w.heap.size w w' := by
  exact whole_walk zi0 zo0 zr0 a1 w (Lib.hid wr0)

set_option maxRecDepth 100000 in
theorem lifted (os : Os) (started : os.Started) (H : Type) (enc : TypeId × Value → H) :
    ReturnsInHanded {} Try.checked os 3 .any (Rows.memmapRegionsSpec.pre6 enc Try.prog Try.f3 Rows.memmapRegionsRow.domain false) (Rows.memmapRegionsSpec.post enc Try.prog Try.f3 false true false false) := by
  refine returnsInHanded_of_change (C := Try.checked) own started (by kernel_rfl) Try.func3
    (ChangeSpec.witness6 (enc := enc) (C := Try.checked) false ⟨#[], #[.agg #[.int .i64 0, .int .i64 0, .int .i64 0], .int .i64 0], []⟩ 8 (by kernel_rfl) (by kernel_rfl) (by kernel_rfl) (by kernel_rfl)) ?_
  intro W base args ds gs before hval0 hW hcnd _
  have hval : ∀ (j : Nat) t v, Try.f3.params[j]? = some t → args[j]? = some v → Value.okWide Try.prog W .any base t v := hval0
  have hW' := hW
  obtain ⟨p, q, hA0, hV, rfl, hfz, hnd⟩ := hW
  have hA : DataW.TrodAll enc Try.prog W 0 (fun _ => true) true Try.f3.params.toList args.toList ds p := hA0
  rw [Try.params3] at hA hval
  obtain ⟨v0, vs0, d0, ds0, p0, q0, hargs, rfl, rfl, h0, r0⟩ := trodAll_cons hA
  obtain ⟨v1, vs1, d1, ds1, p1, q1, rfl, rfl, rfl, h1, r1⟩ := trodAll_cons r0
  obtain ⟨rfl, rfl, rfl⟩ := trodAll_nil r1
  obtain rfl : args = #[v0, v1] := by cases args; simp_all
  obtain ⟨rfl, rfl⟩ := trodVars_none hV
  have k0 := h0
  have lt0 : ∀ x ∈ p0, x.block < W.heap.size := by obtain ⟨m, hm⟩ := k0; exact DataW.trod_lt m _ _ _ hm
  obtain ⟨zi0, zo0, zr0, rfl, wi0, wo0, wr0⟩ := open_sizes (hval 0 23 v0 rfl rfl) h0
  obtain ⟨a1, rfl, rfl, rfl, w1⟩ := open_int Try.underlying3 (hval 1 3 v1 rfl rfl) h1
  clear hA0 hval0
  refine (walk zi0 zo0 zr0 a1 wi0 wo0 wr0 w1 W).mono fun e W' ⟨he, bel⟩ => ?_
  subst he
  exact ⟨_, rfl, _, _, _, [], _, [], hW', trodAll_mk1 (shut_bool Try.underlying4 _), (trodAll_cons_mk (Below.trod laidOut (by kernel_rfl) (of_decide_eq_true (by kernel_rfl)) k0 bel lt0) (trodAll_cons_mk (shut_int Try.underlying3 w1) trodAll_mk0)), rfl, bel.frame _, fun h => by cases h⟩

theorem over : Rows.memmapRegionsRow.holds Try.pinned (OpenSpec.ofChange Rows.memmapRegionsSpec) :=
  OpenClaim.holds_of_wide 3 Try.f3 rfl rfl rfl rfl rfl rfl rfl ⟨rfl, rfl, rfl, rfl, rfl⟩ rfl rfl rfl rfl rfl (by kernel_rfl) Try.func3 (by kernel_rfl)
    (of_decide_eq_true (by kernel_rfl)) (by unfold Func.isWrapper; first | (rw [if_pos (by decide +kernel)]; kernel_rfl) | (rw [if_neg (by decide +kernel)]; exact ⟨rfl, rfl⟩))
    (fun os started H enc _ => lifted os started H enc)

/-- the statement -/
theorem proved : Rows.MemmapRegionsSaid := over
#print axioms proved
end Go.Proofs.Ytmhhljbhbhlefaa.memmapRegions
