/-
  Law DecodeBytes: Any bytes are the instruction that the document says, or there is its error.
  Conditions: none but those of the given row.
-/
import Derived.Test.YtdefgliogmlghaaRows
import Derived.Test.YtdefgliogmlghaaDecodeG
import Derived.Test.YtdefgliogmlghaaDecodeY
import Derived.WalkKit
import Derived.ProofKit
import Derived.OpenShut
import Derived.ShutString
import Derived.ChangeOld
import Derived.Below
import Derived.LoopN
import Derived.SizedLaws
namespace Go.Proofs.Ytdefgliogmlghaa.decodeBytes
open Go.ChangeShapes Go.WideShapes Go.ChangeAt Go.RowKit
open Go.ChangeMaps (open_string shut_string)
set_option linter.unusedVariables false

theorem own : ownKnob Try.prog.godebug = none := by kernel_rfl
theorem laidOut : laidOutB Try.prog = true := by kernel_rfl

theorem rdecode_lit (s : ByteArray) (op rd rn rm ra imm cond : Int) (wide : Bool) (n e : Int) (w : World) (hm : s.size ≤ maxLen) (h : Hid (Told s ⟨op, rd, rn, rm, ra, imm, cond, wide⟩ n e)) :
    Calls Try.prog 12 #[.string s] w fun r w' => r = .returned (.tuple #[.agg #[.int .i64 op, .int .i64 rd, .int .i64 rn, .int .i64 rm, .int .i64 ra, .int .i64 imm, .int .i64 cond, .bool wide], .int .i64 n, .int .i64 e]) ∧ Below w.heap.size w w' := by
  have := rdecode_any s w hm
  rw [h.out.1, h.out.2.1, h.out.2.2] at this
  exact this
set_option maxHeartbeats 4000000 in
set_option maxRecDepth 100000 in
theorem bytes_walk (a0 : ByteArray) (op rd rn rm ra imm cond : Int) (wide : Bool) (n e z : Int) (w : World) (hm : Hid (a0.size ≤ maxLen)) (ht : Hid (Told a0 ⟨op, rd, rn, rm, ra, imm, cond, wide⟩ n e)) (hz : Hid ((De.size a0 : Int) = z)) :
    Calls Try.prog 3 #[.string a0] w fun e w' => e = .returned (.bool true) ∧ Below w.heap.size w w' := by
  go_enter Try.func3, Try.ntmps3
  go_wp2_with fail
  go_at_call 11
  refine (decode_lit _ _ _ _ _ _ _ _ _ _ _ _ hm.out ht.out).mono ?_
  rintro r w1 ⟨rfl, hb1⟩
  have HB1 := Lib.hid hb1
  have HI1 := Lib.hid (ins_alloc w1 23 op rd rn rm ra imm cond wide)
  have hz1 := hb1.size
  clear hb1
  go_wp2_with fail
  go_at_call 12
  refine (rdecode_lit _ _ _ _ _ _ _ _ _ _ _ _ hm.out ht).mono ?_
  rintro r w2 ⟨rfl, hb2⟩
  have hz2 := hb2.size
  simp at hz2
  have HB2 := Lib.hid ((HB1.out.alloc (by omega) (.cells #[.int .i64 op, .int .i64 rd, .int .i64 rn, .int .i64 rm, .int .i64 ra, .int .i64 imm, .int .i64 cond, .bool wide] 23)).trans (hb2.mono (by simp; omega)))
  have hlt : w1.heap.size < w2.heap.size := by omega
  have hne : ¬ w1.heap.size = w2.heap.size := by omega
  obtain ⟨i0, i1, i2, i3, i4, i5, i6, i7⟩ := (HI1.out.below hb2 (by simp)).alloc hlt (.cells #[.int .i64 op, .int .i64 rd, .int .i64 rn, .int .i64 rm, .int .i64 ra, .int .i64 imm, .int .i64 cond, .bool wide] 23)
  clear hb2 HB1 HI1
  go_wp2_with (first | (go_at_call 13; refine (size_int _ _ _ hz hm.out).mono ?_; rintro r w3 ⟨rfl, k, rfl⟩) | (go_at_call 14; refine (rsize_lit _ _ _ hm.out hz).mono ?_; rintro r w4 ⟨rfl, hb4⟩) | (go_at_call 15; refine (lives3_any _).mono ?_; rintro r w5 ⟨rfl, hb5⟩))
  go_ret
  exact ⟨rfl, ((below_drewN (HB2.out.alloc (by omega) _) _).trans (hb4.mono (by simp; omega))).trans (hb5.mono (by have := hb4.size; simp at this; omega))⟩
theorem walk (a0 : ByteArray) (w0 : a0.size ≤ maxLen) (w : World) :
    Calls Try.prog 3 #[.string a0] w fun e w' => e = .returned (.bool true) ∧ Below w.heap.size w w' := by
  have hm := Lib.hid w0
  rcases hI : De.ins a0 with ⟨op, rd, rn, rm, ra, imm, cond, wide⟩
  exact bytes_walk a0 op rd rn rm ra imm cond wide _ _ _ w hm (Lib.hid ⟨hI, rfl, rfl⟩) (Lib.hid rfl)

set_option maxRecDepth 100000 in
theorem lifted (os : Os) (started : os.Started) (H : Type) (enc : TypeId × Value → H) :
    ReturnsInHanded {} Try.checked os 3 .any (Rows.decodeBytesSpec.pre6 enc Try.prog Try.f3 Rows.decodeBytesRow.domain false) (Rows.decodeBytesSpec.post enc Try.prog Try.f3 false true false false) := by
  refine returnsInHanded_of_change (C := Try.checked) own started (by kernel_rfl) Try.func3
    (ChangeSpec.witness6 (enc := enc) (C := Try.checked) false ⟨#[], #[.string ByteArray.empty], []⟩ 8 (by kernel_rfl) (by kernel_rfl) (by kernel_rfl) (by kernel_rfl)) ?_
  intro W base args ds gs before hval0 hW hcnd _
  have hval : ∀ (j : Nat) t v, Try.f3.params[j]? = some t → args[j]? = some v → Value.okWide Try.prog W .any base t v := hval0
  have hW' := hW
  obtain ⟨p, q, hA0, hV, rfl, hfz, hnd⟩ := hW
  have hA : DataW.TrodAll enc Try.prog W 0 (fun _ => true) true Try.f3.params.toList args.toList ds p := hA0
  rw [Try.params3] at hA hval
  obtain ⟨v0, vs0, d0, ds0, p0, q0, hargs, rfl, rfl, h0, r0⟩ := trodAll_cons hA
  obtain ⟨rfl, rfl, rfl⟩ := trodAll_nil r0
  obtain rfl : args = #[v0] := by cases args; simp_all
  obtain ⟨rfl, rfl⟩ := trodVars_none hV
  obtain ⟨a0, rfl, rfl, rfl, w0⟩ := open_string Try.underlying9 (hval 0 9 v0 rfl rfl) h0
  clear hA0 hval0
  refine (walk a0 w0 W).mono fun e W' ⟨he, bel⟩ => ?_
  subst he
  exact ⟨_, rfl, _, _, _, [], _, [], hW', trodAll_mk1 (shut_bool Try.underlying4 _), (trodAll_cons_mk (shut_string Try.underlying9 w0) trodAll_mk0), rfl, bel.frame _, fun h => by cases h⟩

theorem over : Rows.decodeBytesRow.holds Try.pinned (OpenSpec.ofChange Rows.decodeBytesSpec) :=
  OpenClaim.holds_of_wide 3 Try.f3 rfl rfl rfl rfl rfl rfl rfl ⟨rfl, rfl, rfl, rfl, rfl⟩ rfl rfl rfl rfl rfl (by kernel_rfl) Try.func3 (by kernel_rfl)
    (of_decide_eq_true (by kernel_rfl)) (by unfold Func.isWrapper; first | (rw [if_pos (by decide +kernel)]; kernel_rfl) | (rw [if_neg (by decide +kernel)]; exact ⟨rfl, rfl⟩))
    (fun os started H enc _ => lifted os started H enc)

/-- the statement -/
theorem proved : Rows.DecodeBytesSaid := over
#print axioms proved
end Go.Proofs.Ytdefgliogmlghaa.decodeBytes
