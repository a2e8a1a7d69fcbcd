/-
  Law DecodeBack: An instruction's bytes, with whatever behind them, are decoded as it: the document's sentence P3.3, told of every instruction and every byte string.
  Conditions: none but those of the given row.
-/
import Derived.Test.YtcajllbhgfaofaaRows
import Derived.Test.YtcajllbhgfaofaaDecodeG
import Derived.Test.YtcajllbhgfaofaaThumbE
import Derived.Test.YtcajllbhgfaofaaThumbO
import Derived.WalkKit
import Derived.ProofKit
import Derived.OpenShut
import Derived.ShutString
import Derived.ChangeOld
import Derived.Below
import Derived.LoopN
import Derived.SizedLaws
namespace Go.Proofs.Ytcajllbhgfaofaa.decodeBack
open Go.ChangeShapes Go.WideShapes Go.ChangeAt Go.RowKit
open Go.ChangeMaps (open_string shut_string)
set_option linter.unusedVariables false

theorem own : ownKnob Try.prog.godebug = none := by kernel_rfl
theorem laidOut : laidOutB Try.prog = true := by kernel_rfl

theorem enc_bad (op rd rn rm ra imm cond : Int) (wide : Bool) (B : ByteArray) (c : Int) (w : World) (h : Hid (Th.encS ⟨op, rd, rn, rm, ra, imm, cond, wide⟩ = B ∧ Th.check ⟨op, rd, rn, rm, ra, imm, cond, wide⟩ = c)) :
    Calls Try.prog 19 #[.agg #[.int .i64 op, .int .i64 rd, .int .i64 rn, .int .i64 rm, .int .i64 ra, .int .i64 imm, .int .i64 cond, .bool wide]] w fun e w' => e = .returned (.tuple #[.string B, .int .i64 c]) ∧ Below w.heap.size w w' := by
  have := encode_any op rd rn rm ra imm cond wide w
  rw [h.out.1, h.out.2] at this
  exact this
set_option maxHeartbeats 4000000 in
theorem back_no (a1 : ByteArray) (op rd rn rm ra imm cond : Int) (wide : Bool) (B : ByteArray) (c : Int) (w : World) (h : Hid (Th.encS ⟨op, rd, rn, rm, ra, imm, cond, wide⟩ = B ∧ Th.check ⟨op, rd, rn, rm, ra, imm, cond, wide⟩ = c)) (hc : (c != 0) = true) :
    Calls Try.prog 9 #[.agg #[.int .i64 op, .int .i64 rd, .int .i64 rn, .int .i64 rm, .int .i64 ra, .int .i64 imm, .int .i64 cond, .bool wide], .string a1] w fun e w' => e = .returned (.bool true) ∧ Below w.heap.size w w' := by
  go_enter Try.func9, Try.ntmps9
  go_wp2_with fail
  go_at_call 19
  refine (enc_bad _ _ _ _ _ _ _ _ _ _ _ h).mono ?_
  rintro e w1 ⟨rfl, hb1⟩
  have hz1 := hb1.size
  simp at hz1
  have HB1 := Lib.hid (((Below.refl _ _).alloc (Nat.le_refl w.heap.size) _).trans (hb1.mono (by simp)))
  clear hb1
  go_wp2_with (go_at_call 25; refine (lives3_any _).mono ?_; rintro e w2 ⟨rfl, hb2⟩)
  go_ret
  exact ⟨rfl, HB1.out.trans (hb2.mono (by omega))⟩
set_option maxHeartbeats 4000000 in
theorem back_yes (a1 B : ByteArray) (op rd rn rm ra imm cond : Int) (wide : Bool) (n : Nat) (w : World) (hm : (B ++ a1).size ≤ maxLen) (hmB : B.size ≤ maxLen) (h : Hid (Th.encS ⟨op, rd, rn, rm, ra, imm, cond, wide⟩ = B ∧ Th.check ⟨op, rd, rn, rm, ra, imm, cond, wide⟩ = 0)) (ht : Told (B ++ a1) ⟨op, rd, rn, rm, ra, imm, cond, wide⟩ (n : Int) 0) (hs : B.size = n) (hz : Hid ((De.size B : Int) = (n : Int))) :
    Calls Try.prog 9 #[.agg #[.int .i64 op, .int .i64 rd, .int .i64 rn, .int .i64 rm, .int .i64 ra, .int .i64 imm, .int .i64 cond, .bool wide], .string a1] w fun e w' => e = .returned (.bool true) ∧ Below w.heap.size w w' := by
  have q1 : ((n : Int) == (B.size : Int)) = true := by rw [hs]; simp
  have q1' : (n == B.size) = true := by rw [hs]; simp
  have hcat : ¬ 9223372036854775807 < B.size + a1.size := by rw [ByteArray.size_append] at hm; unfold maxLen at hm; omega
  have HS := Lib.hid hs
  have HM := Lib.hid hm
  have HN := Lib.hid hmB
  clear hs hm hmB
  go_enter Try.func9, Try.ntmps9
  go_wp2_with fail
  go_at_call 19
  refine (enc_bad _ _ _ _ _ _ _ _ _ _ _ h).mono ?_
  rintro e w1 ⟨rfl, hb1⟩
  have hz1 := hb1.size
  simp at hz1
  have HB1 := Lib.hid (((Below.refl _ _).alloc (Nat.le_refl w.heap.size) _).trans (hb1.mono (by simp)))
  have HI1 := Lib.hid ((ins_alloc w 23 op rd rn rm ra imm cond wide).below hb1 (by simp))
  clear hb1
  go_wp2_with fail
  go_at_call 21
  refine (decode_lit _ _ _ _ _ _ _ _ _ _ _ _ HM.out ht).mono ?_
  rintro e w2 ⟨rfl, hb2⟩
  have hz2 := hb2.size
  have HB2 := Lib.hid (HB1.out.trans (hb2.mono (by omega)))
  have hlt : w.heap.size < w2.heap.size := by omega
  have hne : ¬ w.heap.size = w2.heap.size := by omega
  obtain ⟨i0, i1, i2, i3, i4, i5, i6, i7⟩ := (HI1.out.below hb2 (by omega)).alloc hlt (.cells #[.int .i64 op, .int .i64 rd, .int .i64 rn, .int .i64 rm, .int .i64 ra, .int .i64 imm, .int .i64 cond, .bool wide] 23)
  clear hb2 HB1 HI1
  go_wp2_with (first | (go_at_call 23; refine (size_int _ _ _ hz HN.out).mono ?_; rintro e w3 ⟨rfl, k, rfl⟩) | (go_at_call 25; refine (lives3_any _).mono ?_; rintro e w4 ⟨rfl, hb4⟩))
  go_ret
  exact ⟨rfl, (below_drewN (HB2.out.alloc (by omega) _) _).trans (hb4.mono (by simp; omega))⟩
theorem walk (op0 rd0 rn0 rm0 ra0 imm0 cond0 : Int) (wide0 : Bool) (a1 : ByteArray) (w1 : a1.size ≤ reachBytes) (w : World) :
    Calls Try.prog 9 #[.agg #[.int .i64 op0, .int .i64 rd0, .int .i64 rn0, .int .i64 rm0, .int .i64 ra0, .int .i64 imm0, .int .i64 cond0, .bool wide0], .string a1] w fun e w' => e = .returned (.bool true) ∧ Below w.heap.size w w' := by
  by_cases hc : Th.check ⟨op0, rd0, rn0, rm0, ra0, imm0, cond0, wide0⟩ = 0
  · obtain ⟨b1, b2, b3⟩ := De.begins _ hc a1
    have hz := De.enc_size _ hc
    have hq := De.size_enc _ hc
    obtain ⟨n, hn⟩ : ∃ n, (Th.encS ⟨op0, rd0, rn0, rm0, ra0, imm0, cond0, wide0⟩).size = n := ⟨_, rfl⟩
    have h4 : n ≤ 4 := by
      rcases Th.size_num _ hc with ⟨q, _⟩ | ⟨q, _⟩ <;> omega
    refine back_yes a1 _ op0 rd0 rn0 rm0 ra0 imm0 cond0 wide0 n w ?_ ?_ (Lib.hid ⟨rfl, hc⟩) ⟨b2, by rw [b3]; omega, b1⟩ hn (Lib.hid (by omega))
    · rw [ByteArray.size_append]; unfold maxLen reachBytes at *; omega
    · unfold maxLen; omega
  · exact back_no a1 op0 rd0 rn0 rm0 ra0 imm0 cond0 wide0 _ _ w (Lib.hid ⟨rfl, rfl⟩) (by simpa using hc)

set_option maxRecDepth 100000 in
theorem lifted (os : Os) (started : os.Started) (H : Type) (enc : TypeId × Value → H) :
    ReturnsInHanded {} Try.checked os 9 .any (Rows.decodeBackSpec.pre6 enc Try.prog Try.f9 Rows.decodeBackRow.domain false) (Rows.decodeBackSpec.post enc Try.prog Try.f9 false true false false) := by
  refine returnsInHanded_of_change_sized (C := Try.checked) own started (by kernel_rfl) Try.func9
    (ChangeSpec.witness6 (enc := enc) (C := Try.checked) false ⟨#[], #[.agg #[.int .i64 0, .int .i64 0, .int .i64 0, .int .i64 0, .int .i64 0, .int .i64 0, .int .i64 0, .bool false], .string ByteArray.empty], []⟩ 8 (by kernel_rfl) (by kernel_rfl) (by kernel_rfl) (by kernel_rfl)) ?_
  intro W base args ds gs before hval0 hW hcnd hsz _
  have hval : ∀ (j : Nat) t v, Try.f9.params[j]? = some t → args[j]? = some v → Value.okWide Try.prog W .any base t v := hval0
  have hW' := hW
  obtain ⟨p, q, hA0, hV, rfl, hfz, hnd⟩ := hW
  have hA : DataW.TrodAll enc Try.prog W 0 (fun _ => true) true Try.f9.params.toList args.toList ds p := hA0
  rw [Try.params9] at hA hval
  obtain ⟨v0, vs0, d0, ds0, p0, q0, hargs, rfl, rfl, h0, r0⟩ := trodAll_cons hA
  obtain ⟨v1, vs1, d1, ds1, p1, q1, rfl, rfl, rfl, h1, r1⟩ := trodAll_cons r0
  obtain ⟨rfl, rfl, rfl⟩ := trodAll_nil r1
  obtain rfl : args = #[v0, v1] := by cases args; simp_all
  obtain ⟨rfl, rfl⟩ := trodVars_none hV
  have k0 := h0
  have lt0 : ∀ x ∈ p0, x.block < W.heap.size := by obtain ⟨m, hm⟩ := k0; exact DataW.trod_lt m _ _ _ hm
  obtain ⟨op0, rd0, rn0, rm0, ra0, imm0, cond0, wide0, rfl⟩ := open_ins (hval 0 23 v0 rfl rfl) h0
  obtain ⟨a1, rfl, rfl, rfl, m1⟩ := open_string Try.underlying9 (hval 1 9 v1 rfl rfl) h1
  have w1 : a1.size ≤ reachBytes := by
    have := sized_string hsz (j := 1) (t := 9) (bytes := a1.data.toList) rfl rfl
    simpa using this
  clear hA0 hval0
  refine (walk op0 rd0 rn0 rm0 ra0 imm0 cond0 wide0 a1 w1 W).mono fun e W' ⟨he, bel⟩ => ?_
  subst he
  exact ⟨_, rfl, _, _, _, [], _, [], hW', trodAll_mk1 (shut_bool Try.underlying4 _), (trodAll_cons_mk (Below.trod laidOut (by kernel_rfl) (of_decide_eq_true (by kernel_rfl)) k0 bel lt0) (trodAll_cons_mk (shut_string Try.underlying9 m1) trodAll_mk0)), rfl, bel.frame _, fun h => by cases h⟩

theorem over : Rows.decodeBackRow.holds Try.pinned (OpenSpec.ofChange Rows.decodeBackSpec) :=
  OpenClaim.holds_of_wide 9 Try.f9 rfl rfl rfl rfl rfl rfl rfl ⟨rfl, rfl, rfl, rfl, rfl⟩ rfl rfl rfl rfl rfl (by kernel_rfl) Try.func9 (by kernel_rfl)
    (of_decide_eq_true (by kernel_rfl)) (by unfold Func.isWrapper; first | (rw [if_pos (by decide +kernel)]; kernel_rfl) | (rw [if_neg (by decide +kernel)]; exact ⟨rfl, rfl⟩))
    (fun os started H enc _ => lifted os started H enc)

/-- the statement -/
theorem proved : Rows.DecodeBackSaid := over
#print axioms proved
end Go.Proofs.Ytcajllbhgfaofaa.decodeBack
