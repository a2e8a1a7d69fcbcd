/-
  Law OutcomeTells: What any result means, and whether it is wiped, is as the document says.
  Conditions: none but those of the given row.
-/
import Derived.Test.YtpfljdcahhhggaaRows
import Derived.Test.YtpfljdcahhhggaaOcL
import Derived.WalkKit
import Derived.ProofKit
import Derived.OpenShut
import Derived.ShutString
import Derived.ChangeOld
import Derived.Below
import Derived.LoopN
import Derived.SizedLaws
namespace Go.Proofs.Ytpfljdcahhhggaa.outcomeTells
open Go.ChangeShapes Go.WideShapes Go.ChangeAt Go.RowKit
open Go.ChangeMaps (open_string shut_string)
set_option linter.unusedVariables false
set_option linter.unusedSimpArgs false

theorem own : ownKnob Try.prog.godebug = none := by kernel_rfl
theorem laidOut : laidOutB Try.prog = true := by kernel_rfl

theorem tells_step {W wx w' : World} {b c : Nat} {h : Bool} {st cy ha co su k : Int} {o a b' o2 : ByteArray} (H : Below W.heap.size W wx ∧ Box9 wx b h st cy ha co su o a b' ∧ Box2 wx c k o2) (hb : Below wx.heap.size wx w') : Below W.heap.size W w' ∧ Box9 w' b h st cy ha co su o a b' ∧ Box2 w' c k o2 :=
  ⟨H.1.trans (hb.mono H.1.size), H.2.1.kept hb, H.2.2.kept hb⟩
set_option maxHeartbeats 8000000 in
theorem walk (xh0 : Bool) (xt0 xc0 xa0 xm0 xs0 : Int) (xo0 xp0 xq0 : ByteArray) (zo0 : xo0.size ≤ 281474976710656) (zp0 : xp0.size ≤ 281474976710656) (zq0 : xq0.size ≤ 281474976710656) (w : World) :
    Calls Try.prog 3 #[.agg #[.bool xh0, .int .i64 xt0, .int .i64 xc0, .int .i64 xa0, .int .i64 xm0, .int .i64 xs0, .string xo0, .string xp0, .string xq0]] w fun e w' => e = .returned (.bool true) ∧ Below w.heap.size w w' := by
  have C1 := Lib.hid fun w => of_any xh0 xt0 xc0 xa0 xm0 xs0 xo0 xp0 xq0 w zo0
  have C2 := Lib.hid fun w => rof_any xh0 xt0 xc0 xa0 xm0 xs0 xo0 xp0 xq0 w
  have C3 := Lib.hid fun w => wiped_any xh0 xt0 xc0 xa0 xm0 xs0 xo0 xp0 xq0 w zo0 zp0 zq0
  have C4 := Lib.hid fun w => rwiped_any xh0 xt0 xc0 xa0 xm0 xs0 xo0 xp0 xq0 w zo0 zp0 zq0
  have C5 := Lib.hid lives_any
  clear zo0 zp0 zq0
  generalize Oc.kind xh0 xm0 xs0 = K at *
  generalize Oc.out xh0 xm0 xo0 = O at *
  generalize Oc.wiped xm0 xo0 xp0 xq0 = Z at *
  go_enter Try.func3, Try.ntmps3
  go_wp2_with (first
    | (go_at_call 6; refine (C1.out _).mono ?_; rintro e w1 ⟨rfl, hb1⟩; obtain ⟨hx, hb⟩ := one_on hb1; have HX := Lib.hid hx; have b9 := fun o' => Box9.of (heap_alloc_old hx o'); have HB1 := Lib.hid hb; obtain ⟨x0, x1, x2, x3, x4, x5, x6, x7, x8⟩ := (⟨fun o' => (b9 o').1, fun o' => (b9 o').2.1, fun o' => (b9 o').2.2.1, fun o' => (b9 o').2.2.2.1, fun o' => (b9 o').2.2.2.2.1, fun o' => (b9 o').2.2.2.2.2.1, fun o' => (b9 o').2.2.2.2.2.2.1, fun o' => (b9 o').2.2.2.2.2.2.2.1, fun o' => (b9 o').2.2.2.2.2.2.2.2⟩ : _ ∧ _ ∧ _ ∧ _ ∧ _ ∧ _ ∧ _ ∧ _ ∧ _); clear b9 hb1 hb hx)
    | (go_at_call 7; refine (C2.out _).mono ?_; rintro e w2 ⟨rfl, hb2⟩; obtain ⟨hy, hb⟩ := one_on hb2; have B9 := Lib.hid (Box9.of (heap_on HX.out hb)); have B2 := Lib.hid (Box2.of hy); have HB2 := Lib.hid (HB1.out.trans (hb.mono HB1.out.size)); clear hb2 hb hy x0 x1 x2 x3 x4 x5 x6 x7 x8))
  go_region_held3 (fun wx => Below w2.heap.size w2 wx ∧ Box9 wx w.heap.size xh0 xt0 xc0 xa0 xm0 xs0 xo0 xp0 xq0 ∧ Box2 wx w1.heap.size K O)
    (first | exact ⟨(Below.refl _ _).drew, B9.out, B2.out⟩ | exact tells_step (by assumption) (by assumption))
    (first | (go_at_call 8; refine (C3.out _).mono ?_; rintro e w3 ⟨rfl, hb3⟩) | (go_at_call 9; refine (C4.out _).mono ?_; rintro e w4 ⟨rfl, hb4⟩) | (go_at_call 10; refine (C5.out _).mono ?_; rintro e w5 ⟨rfl, hb5⟩))
  rename_i hH
  go_wp2
  go_ret
  exact ⟨rfl, HB2.out.trans (hH.1.mono HB2.out.size)⟩

set_option maxRecDepth 100000 in
theorem lifted (os : Os) (started : os.Started) (H : Type) (enc : TypeId × Value → H) :
    ReturnsInHanded {} Try.checked os 3 .any (Rows.outcomeTellsSpec.pre6 enc Try.prog Try.f3 Rows.outcomeTellsRow.domain false) (Rows.outcomeTellsSpec.post enc Try.prog Try.f3 false true false false) := by
  refine returnsInHanded_of_change_sized (C := Try.checked) own started (by kernel_rfl) Try.func3
    (ChangeSpec.witness6 (enc := enc) (C := Try.checked) false ⟨#[], #[.agg #[.bool false, .int .i64 0, .int .i64 0, .int .i64 0, .int .i64 0, .int .i64 0, .string ByteArray.empty, .string ByteArray.empty, .string ByteArray.empty]], []⟩ 8 (by kernel_rfl) (by kernel_rfl) (by kernel_rfl) (by kernel_rfl)) ?_
  intro W base args ds gs before hval0 hW hcnd hsz _
  have hval : ∀ (j : Nat) t v, Try.f3.params[j]? = some t → args[j]? = some v → Value.okWide Try.prog W .any base t v := hval0
  have hW' := hW
  obtain ⟨p, q, hA0, hV, rfl, hfz, hnd⟩ := hW
  have hA : DataW.TrodAll enc Try.prog W 0 (fun _ => true) true Try.f3.params.toList args.toList ds p := hA0
  rw [Try.params3] at hA hval
  obtain ⟨v0, vs0, d0, ds0, p0, q0, hargs, rfl, rfl, h0, r0⟩ := trodAll_cons hA
  obtain ⟨rfl, rfl, rfl⟩ := trodAll_nil r0
  obtain rfl : args = #[v0] := by cases args; simp_all
  obtain ⟨rfl, rfl⟩ := trodVars_none hV
  have k0 := h0
  have lt0 : ∀ x ∈ p0, x.block < W.heap.size := by obtain ⟨m, hm⟩ := k0; exact DataW.trod_lt m _ _ _ hm
  obtain ⟨xh0, xt0, xc0, xa0, xm0, xs0, xo0, xp0, xq0, rfl, zo0, zp0, zq0⟩ := open_result (hval 0 23 v0 rfl rfl) h0 (fun n hn => by have := List.all_eq_true.1 hsz _ (DataW.weights_mem_each (ts := _) (ds := _) (j := 0) (t := 23) (d := d0) rfl rfl n hn); simpa using this)
  clear hA0 hval0
  refine (walk xh0 xt0 xc0 xa0 xm0 xs0 xo0 xp0 xq0 zo0 zp0 zq0 W).mono fun e W' ⟨he, bel⟩ => ?_
  subst he
  exact ⟨_, rfl, _, _, _, [], _, [], hW', trodAll_mk1 (shut_bool Try.underlying4 _), (trodAll_cons_mk (Below.trod laidOut (by kernel_rfl) (of_decide_eq_true (by kernel_rfl)) k0 bel lt0) trodAll_mk0), rfl, bel.frame _, fun h => by cases h⟩

theorem over : Rows.outcomeTellsRow.holds Try.pinned (OpenSpec.ofChange Rows.outcomeTellsSpec) :=
  OpenClaim.holds_of_wide 3 Try.f3 rfl rfl rfl rfl rfl rfl rfl ⟨rfl, rfl, rfl, rfl, rfl⟩ rfl rfl rfl rfl rfl (by kernel_rfl) Try.func3 (by kernel_rfl)
    (of_decide_eq_true (by kernel_rfl)) (by unfold Func.isWrapper; first | (rw [if_pos (by decide +kernel)]; kernel_rfl) | (rw [if_neg (by decide +kernel)]; exact ⟨rfl, rfl⟩))
    (fun os started H enc _ => lifted os started H enc)

/-- the statement -/
theorem proved : Rows.OutcomeTellsSaid := over
#print axioms proved
end Go.Proofs.Ytpfljdcahhhggaa.outcomeTells
