/-
  Law ImageParses: of any bytes the head that is told, and the error, are those of the document.
  Conditions: none but those of the given row.
-/
import Derived.Test.YtncbgfcmekaniaaRows
import Derived.Test.YtncbgfcmekaniaaImageL
import Derived.WalkKit
import Derived.ProofKit
import Derived.OpenShut
import Derived.ShutString
import Derived.ChangeOld
import Derived.Below
import Derived.LoopN
import Derived.SizedLaws
namespace Go.Proofs.Ytncbgfcmekaniaa.imageParses
open Go.ChangeShapes Go.WideShapes Go.ChangeAt Go.RowKit
open Go.ChangeMaps (open_string shut_string)
set_option linter.unusedVariables false

theorem own : ownKnob Try.prog.godebug = none := by kernel_rfl
theorem laidOut : laidOutB Try.prog = true := by kernel_rfl

set_option maxHeartbeats 8000000 in
set_option maxRecDepth 100000 in
theorem whole_walk (s : ByteArray) (w : World) (hm : s.size ≤ maxLen) :
    Calls Try.prog 4 #[.string s] w fun e w' => e = .returned (.bool true) ∧ Below w.heap.size w w' := by
  have hm2 := hm
  unfold maxLen at hm2
  clear hm
  by_cases hz : 524288 < s.size
  · have hz' : (524288 : Int) < (s.size : Int) := by omega
    clear hz hm2
    go_enter Try.func4, Try.ntmps4
    go_wp2_with (go_at_call 6; refine (lives_any _).mono ?_; rintro e w1 ⟨rfl, hb1⟩)
    go_ret
    exact ⟨rfl, hb1⟩
  · have hz' : ¬ (524288 : Int) < (s.size : Int) := by omega
    have hc : Hid (s.size ≤ 600000) := Lib.hid (by omega)
    clear hz hm2
    obtain ⟨⟨r, h, i, o, l, m⟩, E, hP⟩ : ∃ x E, Im.parse s = (x, E) := ⟨_, _, rfl⟩
    have HP := Lib.hid hP
    clear hP
    go_enter Try.func4, Try.ntmps4
    go_wp2_with (first
      | (go_at_call 10; refine (parse_lit s _ _ _ _ _ _ _ _ hc.out HP).mono ?_; rintro e w1 ⟨rfl, hb1⟩; have HB1 := Lib.hid hb1; have HN1 := Lib.hid (Im.HdAt.new w1 r h i o l m 30); clear hb1)
      | (go_at_call 11; refine (rparse_lit s _ _ _ _ _ _ _ _ hc.out HP).mono ?_; rintro e w2 ⟨rfl, hb2⟩; have HB2 := Lib.hid (below_on (HB1.out.alloc HB1.out.size _) hb2 (HB1.out.alloc HB1.out.size _).size); have HN2 := Lib.hid (HN1.out.kept hb2); clear hb2))
    have HB3 := Lib.hid (HB2.out.alloc (w := w2) HB2.out.size (.cells #[.int .i64 r, .int .i64 h, .int .i64 i, .int .i64 o, .int .i64 l, .int .i64 m] 25))
    have HN3 := Lib.hid (HN2.out.kept (W' := w2.alloc (.cells #[.int .i64 r, .int .i64 h, .int .i64 i, .int .i64 o, .int .i64 l, .int .i64 m] 25)) ((Below.refl _ _).alloc (Nat.le_refl _) _))
    have HM3 := Lib.hid (Im.HdAt.new w2 r h i o l m 25)
    obtain ⟨b1, hb1⟩ : ∃ b, w1.heap.size = b := ⟨_, rfl⟩
    obtain ⟨b2, hb2⟩ : ∃ b, w2.heap.size = b := ⟨_, rfl⟩
    rw [hb1] at HN3 ⊢
    rw [hb2] at HM3 ⊢
    clear HB1 HB2 HN1 HN2
    generalize w2.alloc (.cells #[.int .i64 r, .int .i64 h, .int .i64 i, .int .i64 o, .int .i64 l, .int .i64 m] 25) = w3 at HB3 HN3 HM3 ⊢
    clear hb1 hb2
    go_region_held3 (fun wx => Below w3.heap.size w3 wx ∧ Im.HdAt wx b1 r h i o l m ∧ Im.HdAt wx b2 r h i o l m)
      (first | exact ⟨(Below.refl _ _).drew, HN3.out, HM3.out⟩ | exact hd2_step (by assumption) (by assumption))
      (first | (go_at_call 8; refine (own_any _ _ _ _ _ _ _).mono ?_; rintro e w4 ⟨rfl, hb4⟩) | (go_at_call 6; refine (lives_any _).mono ?_; rintro e w5 ⟨rfl, hb5⟩))
    rename_i hH
    go_wp2
    go_ret
    exact ⟨rfl, HB3.out.trans (hH.1.mono HB3.out.size)⟩
theorem walk (a0 : ByteArray) (w0 : a0.size ≤ maxLen) (w : World) :
    Calls Try.prog 4 #[.string a0] w fun e w' => e = .returned (.bool true) ∧ Below w.heap.size w w' := by
  exact whole_walk a0 w w0

set_option maxRecDepth 100000 in
theorem lifted (os : Os) (started : os.Started) (H : Type) (enc : TypeId × Value → H) :
    ReturnsInHanded {} Try.checked os 4 .any (Rows.imageParsesSpec.pre6 enc Try.prog Try.f4 Rows.imageParsesRow.domain false) (Rows.imageParsesSpec.post enc Try.prog Try.f4 false true false false) := by
  refine returnsInHanded_of_change (C := Try.checked) own started (by kernel_rfl) Try.func4
    (ChangeSpec.witness6 (enc := enc) (C := Try.checked) false ⟨#[], #[.string ByteArray.empty], []⟩ 8 (by kernel_rfl) (by kernel_rfl) (by kernel_rfl) (by kernel_rfl)) ?_
  intro W base args ds gs before hval0 hW hcnd _
  have hval : ∀ (j : Nat) t v, Try.f4.params[j]? = some t → args[j]? = some v → Value.okWide Try.prog W .any base t v := hval0
  have hW' := hW
  obtain ⟨p, q, hA0, hV, rfl, hfz, hnd⟩ := hW
  have hA : DataW.TrodAll enc Try.prog W 0 (fun _ => true) true Try.f4.params.toList args.toList ds p := hA0
  rw [Try.params4] at hA hval
  obtain ⟨v0, vs0, d0, ds0, p0, q0, hargs, rfl, rfl, h0, r0⟩ := trodAll_cons hA
  obtain ⟨rfl, rfl, rfl⟩ := trodAll_nil r0
  obtain rfl : args = #[v0] := by cases args; simp_all
  obtain ⟨rfl, rfl⟩ := trodVars_none hV
  obtain ⟨a0, rfl, rfl, rfl, w0⟩ := open_string Try.underlying9 (hval 0 9 v0 rfl rfl) h0
  clear hA0 hval0
  refine (walk a0 w0 W).mono fun e W' ⟨he, bel⟩ => ?_
  subst he
  exact ⟨_, rfl, _, _, _, [], _, [], hW', trodAll_mk1 (shut_bool Try.underlying4 _), (trodAll_cons_mk (shut_string Try.underlying9 w0) trodAll_mk0), rfl, bel.frame _, fun h => by cases h⟩

theorem over : Rows.imageParsesRow.holds Try.pinned (OpenSpec.ofChange Rows.imageParsesSpec) :=
  OpenClaim.holds_of_wide 4 Try.f4 rfl rfl rfl rfl rfl rfl rfl ⟨rfl, rfl, rfl, rfl, rfl⟩ rfl rfl rfl rfl rfl (by kernel_rfl) Try.func4 (by kernel_rfl)
    (of_decide_eq_true (by kernel_rfl)) (by unfold Func.isWrapper; first | (rw [if_pos (by decide +kernel)]; kernel_rfl) | (rw [if_neg (by decide +kernel)]; exact ⟨rfl, rfl⟩))
    (fun os started H enc _ => lifted os started H enc)

/-- the statement -/
theorem proved : Rows.ImageParsesSaid := over
#print axioms proved
end Go.Proofs.Ytncbgfcmekaniaa.imageParses
