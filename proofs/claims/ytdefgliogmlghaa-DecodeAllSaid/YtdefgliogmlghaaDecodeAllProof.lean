/-
  Law DecodeAll: Any bytes are the instructions, one behind the other, that the document says, or there is its error.
  Conditions: none but those of the given row.
-/
import Derived.Test.YtdefgliogmlghaaRows
import Derived.Test.YtdefgliogmlghaaDecodeG
import Derived.Test.YtdefgliogmlghaaDecodeL
import Derived.WalkKit
import Derived.ProofKit
import Derived.OpenShut
import Derived.ShutString
import Derived.ChangeOld
import Derived.Below
import Derived.LoopN
import Derived.SizedLaws
namespace Go.Proofs.Ytdefgliogmlghaa.decodeAll
open Go.ChangeShapes Go.WideShapes Go.ChangeAt Go.RowKit
open Go.ChangeMaps (open_string shut_string)
set_option linter.unusedVariables false

theorem own : ownKnob Try.prog.godebug = none := by kernel_rfl
theorem laidOut : laidOutB Try.prog = true := by kernel_rfl

theorem own_slice {W : World} {base : Nat} {e : TypeId} {size : Nat} {v : Value} {n : Nat} {xs : List Value} (h : W.ownsRow base e size v n xs) : ∃ q m c, v = .slice q m c := by
  rcases h.2 with ⟨rfl, _⟩ | ⟨g, cap, cur, rfl, _⟩ <;> exact ⟨_, _, _, rfl⟩
set_option maxHeartbeats 4000000 in
set_option maxRecDepth 100000 in
theorem all_long (a0 : ByteArray) (w : World) (h : (400 : Int) < (a0.size : Int)) :
    Calls Try.prog 4 #[.string a0] w fun e w' => e = .returned (.bool true) ∧ Below w.heap.size w w' := by
  go_enter Try.func4, Try.ntmps4
  go_wp2_with (go_at_call 15; refine (lives3_any _).mono ?_; rintro r w5 ⟨rfl, hb5⟩)
  go_ret
  exact ⟨rfl, hb5⟩
set_option maxHeartbeats 4000000 in
set_option maxRecDepth 100000 in
theorem all_short (a0 : ByteArray) (L : List Th.Ins) (E : Int) (w : World) (h : ¬ (400 : Int) < (a0.size : Int)) (hm : Hid (a0.size ≤ 16777216)) (hL : Hid (De.allL a0 = L)) (hE : Hid (De.allE a0 = E)) (hl : Hid (L.length ≤ 16777216)) :
    Calls Try.prog 4 #[.string a0] w fun e w' => e = .returned (.bool true) ∧ Below w.heap.size w w' := by
  have C1 : ∀ w : World, Calls Try.prog 16 #[.string a0] w fun e W' => ∃ q m c, e = .returned (.tuple #[.slice q m c, .int .i64 E]) ∧ W'.ownsRow w.heap.size 23 8 (.slice q m c) L.length (insCs L) ∧ Below w.heap.size w W' := fun w => by
    refine (all_any a0 hm.out w).mono ?_
    rintro e W' ⟨v, rfl, hrow, hb⟩
    obtain ⟨q, m, c, rfl⟩ := own_slice hrow
    rw [hE.out, hL.out] at *
    exact ⟨q, m, c, rfl, hrow, hb⟩
  have C2 : ∀ w : World, Calls Try.prog 17 #[.string a0] w fun e W' => ∃ q m c, e = .returned (.tuple #[.slice q m c, .int .i64 E]) ∧ W'.ownsRow w.heap.size 23 8 (.slice q m c) L.length (insCs L) ∧ Below w.heap.size w W' := fun w => by
    refine (rall_any a0 hm.out w).mono ?_
    rintro e W' ⟨v, rfl, hrow, hb⟩
    obtain ⟨q, m, c, rfl⟩ := own_slice hrow
    rw [hE.out, hL.out] at *
    exact ⟨q, m, c, rfl, hrow, hb⟩
  have H1 := Lib.hid C1
  have H2 := Lib.hid C2
  clear C1 C2
  go_enter Try.func4, Try.ntmps4
  go_wp2_with (first | (go_at_call 16; refine (H1.out _).mono ?_; rintro e w1 ⟨q1, m1, c1, rfl, hrow1, hb1⟩; have HR1 := Lib.hid hrow1; have HB1 := Lib.hid hb1; clear hrow1 hb1) | (go_at_call 17; refine (H2.out _).mono ?_; rintro e w2 ⟨q2, m2, c2, rfl, hrow2, hb2⟩; have HS1 := Lib.hid (slice_own (HR1.out.kept (grown_below hb2) (Classical.em _))); have HS2 := Lib.hid (slice_own hrow2); have HB2 := Lib.hid (HB1.out.trans (hb2.mono HB1.out.size)); clear hrow2 hb2) | (go_at_call 18; refine (same_any _ _ L _ hl.out HS1.out HS2.out).mono ?_; rintro e w3 ⟨rfl, hb3⟩; have HB3 := Lib.hid (HB2.out.trans (hb3.mono HB2.out.size)); clear hb3) | (go_at_call 15; refine (lives3_any _).mono ?_; rintro r w5 ⟨rfl, hb5⟩))
  go_ret
  exact ⟨rfl, HB3.out.trans (hb5.mono HB3.out.size)⟩
theorem all_len (s : ByteArray) : (De.allL s).length ≤ s.size := by
  unfold De.allL
  split
  · rw [List.length_map]; exact De.steps_len s
  · exact Nat.zero_le _
theorem walk (a0 : ByteArray) (w0 : a0.size ≤ maxLen) (w : World) :
    Calls Try.prog 4 #[.string a0] w fun e w' => e = .returned (.bool true) ∧ Below w.heap.size w w' := by
  by_cases h : (400 : Int) < (a0.size : Int)
  · exact all_long a0 w h
  · have := all_len a0
    exact all_short a0 _ _ w h (Lib.hid (by omega)) (Lib.hid rfl) (Lib.hid rfl) (Lib.hid (by omega))

set_option maxRecDepth 100000 in
theorem lifted (os : Os) (started : os.Started) (H : Type) (enc : TypeId × Value → H) :
    ReturnsInHanded {} Try.checked os 4 .any (Rows.decodeAllSpec.pre6 enc Try.prog Try.f4 Rows.decodeAllRow.domain false) (Rows.decodeAllSpec.post enc Try.prog Try.f4 false true false false) := by
  refine returnsInHanded_of_change (C := Try.checked) own started (by kernel_rfl) Try.func4
    (ChangeSpec.witness6 (enc := enc) (C := Try.checked) false ⟨#[], #[.string ByteArray.empty], []⟩ 8 (by kernel_rfl) (by kernel_rfl) (by kernel_rfl) (by kernel_rfl)) ?_
  intro W base args ds gs before hval0 hW hcnd _
  have hval : ∀ (j : Nat) t v, Try.f4.params[j]? = some t → args[j]? = some v → Value.okWide Try.prog W .any base t v := hval0
  have hW' := hW
  obtain ⟨p, q, hA0, hV, rfl, hfz, hnd⟩ := hW
  have hA : DataW.TrodAll enc Try.prog W 0 (fun _ => true) true Try.f4.params.toList args.toList ds p := hA0
  rw [Try.params4] at hA hval
  obtain ⟨v0, vs0, d0, ds0, p0, q0, hargs, rfl, rfl, h0, r0⟩ := trodAll_cons hA
  obtain ⟨rfl, rfl, rfl⟩ := trodAll_nil r0
  obtain rfl : args = #[v0] := by cases args; simp_all
  obtain ⟨rfl, rfl⟩ := trodVars_none hV
  obtain ⟨a0, rfl, rfl, rfl, w0⟩ := open_string Try.underlying9 (hval 0 9 v0 rfl rfl) h0
  clear hA0 hval0
  refine (walk a0 w0 W).mono fun e W' ⟨he, bel⟩ => ?_
  subst he
  exact ⟨_, rfl, _, _, _, [], _, [], hW', trodAll_mk1 (shut_bool Try.underlying4 _), (trodAll_cons_mk (shut_string Try.underlying9 w0) trodAll_mk0), rfl, bel.frame _, fun h => by cases h⟩

theorem over : Rows.decodeAllRow.holds Try.pinned (OpenSpec.ofChange Rows.decodeAllSpec) :=
  OpenClaim.holds_of_wide 4 Try.f4 rfl rfl rfl rfl rfl rfl rfl ⟨rfl, rfl, rfl, rfl, rfl⟩ rfl rfl rfl rfl rfl (by kernel_rfl) Try.func4 (by kernel_rfl)
    (of_decide_eq_true (by kernel_rfl)) (by unfold Func.isWrapper; first | (rw [if_pos (by decide +kernel)]; kernel_rfl) | (rw [if_neg (by decide +kernel)]; exact ⟨rfl, rfl⟩))
    (fun os started H enc _ => lifted os started H enc)

/-- the statement -/
theorem proved : Rows.DecodeAllSaid := over
#print axioms proved
end Go.Proofs.Ytdefgliogmlghaa.decodeAll
