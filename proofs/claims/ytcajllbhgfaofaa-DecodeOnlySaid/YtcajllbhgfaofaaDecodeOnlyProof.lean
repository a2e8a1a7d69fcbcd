/-
  Law DecodeOnly: What is decoded has just those bytes: the document's sentence P3.3, told of every byte string.
  Conditions: none but those of the given row.
-/
import Derived.Test.YtcajllbhgfaofaaRows
import Derived.Test.YtcajllbhgfaofaaDecodeG
import Derived.Test.YtcajllbhgfaofaaThumbE
import Derived.WalkKit
import Derived.ProofKit
import Derived.OpenShut
import Derived.ShutString
import Derived.ChangeOld
import Derived.Below
import Derived.LoopN
namespace Go.Proofs.Ytcajllbhgfaofaa.decodeOnly
open Go.ChangeShapes Go.WideShapes Go.ChangeAt Go.RowKit
open Go.ChangeMaps (open_string shut_string)
set_option linter.unusedVariables false

theorem own : ownKnob Try.prog.godebug = none := by kernel_rfl
theorem laidOut : laidOutB Try.prog = true := by kernel_rfl

theorem encode_lit (op rd rn rm ra imm cond : Int) (wide : Bool) (B : ByteArray) (w : World) (h : Hid (Th.encS ⟨op, rd, rn, rm, ra, imm, cond, wide⟩ = B ∧ Th.check ⟨op, rd, rn, rm, ra, imm, cond, wide⟩ = 0)) :
    Calls Try.prog 19 #[.agg #[.int .i64 op, .int .i64 rd, .int .i64 rn, .int .i64 rm, .int .i64 ra, .int .i64 imm, .int .i64 cond, .bool wide]] w fun e w' => e = .returned (.tuple #[.string B, .int .i64 0]) ∧ Below w.heap.size w w' := by
  have := encode_any op rd rn rm ra imm cond wide w
  rw [h.out.1, h.out.2] at this
  exact this
set_option maxHeartbeats 4000000 in
theorem only_no (a0 : ByteArray) (e : Int) (w : World) (w0 : a0.size ≤ maxLen) (h : Told a0 ⟨0, 0, 0, 0, 0, 0, 0, false⟩ 0 e) (he : e = 3 ∨ e = 7) :
    Calls Try.prog 10 #[.string a0] w fun e w' => e = .returned (.bool true) ∧ Below w.heap.size w w' := by
  have w0' := Lib.hid w0
  clear w0
  rcases he with rfl | rfl
  all_goals
    go_enter Try.func10, Try.ntmps10
    go_wp2_with fail
    go_at_call 21
    refine (decode_lit _ _ _ _ _ _ _ _ _ _ _ _ w0'.out h).mono ?_
    rintro e w1 ⟨rfl, hb1⟩
    have HB1 := Lib.hid hb1
    have hz1 := hb1.size
    clear hb1
    go_wp2_with (go_at_call 25; refine (lives3_any _).mono ?_; rintro e w2 ⟨rfl, hb2⟩)
    go_ret
    exact ⟨rfl, (HB1.out.alloc (by omega) _).trans (hb2.mono (by simp; omega))⟩
set_option maxHeartbeats 4000000 in
theorem only_yes (a0 B : ByteArray) (op rd rn rm ra imm cond : Int) (wide : Bool) (n : Nat) (w : World) (w0 : a0.size ≤ maxLen) (h : Told a0 ⟨op, rd, rn, rm, ra, imm, cond, wide⟩ (n : Int) 0) (hB : Hid (Th.encS ⟨op, rd, rn, rm, ra, imm, cond, wide⟩ = B ∧ Th.check ⟨op, rd, rn, rm, ra, imm, cond, wide⟩ = 0)) (hn : n ≤ a0.size) (hs : B.size = n) (he : a0.extract 0 n = B) :
    Calls Try.prog 10 #[.string a0] w fun e w' => e = .returned (.bool true) ∧ Below w.heap.size w w' := by
  have w0' := Lib.hid w0
  unfold maxLen at w0
  have q1 : ((n : Int) == (B.size : Int)) = true := by rw [hs]; simp
  have q1' : (n == B.size) = true := by rw [hs]; simp
  have q2 : (n : Int) ≤ (a0.size : Int) := by omega
  have HS := Lib.hid hs
  clear hs
  go_enter Try.func10, Try.ntmps10
  go_wp2_with fail
  go_at_call 21
  refine (decode_lit _ _ _ _ _ _ _ _ _ _ _ _ w0'.out h).mono ?_
  rintro e w1 ⟨rfl, hb1⟩
  have HB1 := Lib.hid hb1
  have hz1 := hb1.size
  clear hb1
  go_wp2_with fail
  go_at_call 19
  refine (encode_lit _ _ _ _ _ _ _ _ _ _ hB).mono ?_
  rintro e w2 ⟨rfl, hb2⟩
  have hz2 := hb2.size
  simp at hz2
  have HB2 := Lib.hid ((HB1.out.alloc (by omega) _).trans (hb2.mono (by simp; omega)))
  clear hb2 HB1
  go_wp2_with (go_at_call 25; refine (lives3_any _).mono ?_; rintro e w3 ⟨rfl, hb3⟩)
  go_ret
  exact ⟨rfl, HB2.out.trans (hb3.mono (by omega))⟩
theorem walk (a0 : ByteArray) (w0 : a0.size ≤ maxLen) (w : World) :
    Calls Try.prog 10 #[.string a0] w fun e w' => e = .returned (.bool true) ∧ Below w.heap.size w w' := by
  rcases De.err_cases a0 with ⟨he, _⟩ | he | he
  · obtain ⟨c1, c2, c3, c4⟩ := De.only a0 he
    obtain ⟨⟨op, rd, rn, rm, ra, imm, cond, wide⟩, hI⟩ : ∃ i, De.ins a0 = i := ⟨_, rfl⟩
    rw [hI] at c1 c2 c4
    refine only_yes a0 (a0.extract 0 (De.len a0)) op rd rn rm ra imm cond wide (De.len a0) w w0 ⟨hI, rfl, he⟩ (Lib.hid ⟨c4, c1⟩) c3 ?_ rfl
    have := De.enc_size _ c1
    rw [c4] at this
    omega
  · refine only_no a0 3 w w0 ⟨?_, ?_, he⟩ (Or.inl rfl)
    · unfold De.ins; rw [he, if_neg (by decide)]; rfl
    · unfold De.len; rw [he, if_neg (by decide)]; rfl
  · refine only_no a0 7 w w0 ⟨?_, ?_, he⟩ (Or.inr rfl)
    · unfold De.ins; rw [he, if_neg (by decide)]; rfl
    · unfold De.len; rw [he, if_neg (by decide)]; rfl

set_option maxRecDepth 100000 in
theorem lifted (os : Os) (started : os.Started) (H : Type) (enc : TypeId × Value → H) :
    ReturnsInHanded {} Try.checked os 10 .any (Rows.decodeOnlySpec.pre6 enc Try.prog Try.f10 Rows.decodeOnlyRow.domain false) (Rows.decodeOnlySpec.post enc Try.prog Try.f10 false true false false) := by
  refine returnsInHanded_of_change (C := Try.checked) own started (by kernel_rfl) Try.func10
    (ChangeSpec.witness6 (enc := enc) (C := Try.checked) false ⟨#[], #[.string ByteArray.empty], []⟩ 8 (by kernel_rfl) (by kernel_rfl) (by kernel_rfl) (by kernel_rfl)) ?_
  intro W base args ds gs before hval0 hW hcnd _
  have hval : ∀ (j : Nat) t v, Try.f10.params[j]? = some t → args[j]? = some v → Value.okWide Try.prog W .any base t v := hval0
  have hW' := hW
  obtain ⟨p, q, hA0, hV, rfl, hfz, hnd⟩ := hW
  have hA : DataW.TrodAll enc Try.prog W 0 (fun _ => true) true Try.f10.params.toList args.toList ds p := hA0
  rw [Try.params10] at hA hval
  obtain ⟨v0, vs0, d0, ds0, p0, q0, hargs, rfl, rfl, h0, r0⟩ := trodAll_cons hA
  obtain ⟨rfl, rfl, rfl⟩ := trodAll_nil r0
  obtain rfl : args = #[v0] := by cases args; simp_all
  obtain ⟨rfl, rfl⟩ := trodVars_none hV
  obtain ⟨a0, rfl, rfl, rfl, w0⟩ := open_string Try.underlying9 (hval 0 9 v0 rfl rfl) h0
  clear hA0 hval0
  refine (walk a0 w0 W).mono fun e W' ⟨he, bel⟩ => ?_
  subst he
  exact ⟨_, rfl, _, _, _, [], _, [], hW', trodAll_mk1 (shut_bool Try.underlying4 _), (trodAll_cons_mk (shut_string Try.underlying9 w0) trodAll_mk0), rfl, bel.frame _, fun h => by cases h⟩

theorem over : Rows.decodeOnlyRow.holds Try.pinned (OpenSpec.ofChange Rows.decodeOnlySpec) :=
  OpenClaim.holds_of_wide 10 Try.f10 rfl rfl rfl rfl rfl rfl rfl ⟨rfl, rfl, rfl, rfl, rfl⟩ rfl rfl rfl rfl rfl (by kernel_rfl) Try.func10 (by kernel_rfl)
    (of_decide_eq_true (by kernel_rfl)) (by unfold Func.isWrapper; first | (rw [if_pos (by decide +kernel)]; kernel_rfl) | (rw [if_neg (by decide +kernel)]; exact ⟨rfl, rfl⟩))
    (fun os started H enc _ => lifted os started H enc)

/-- the statement -/
theorem proved : Rows.DecodeOnlySaid := over
#print axioms proved
end Go.Proofs.Ytcajllbhgfaofaa.decodeOnly
