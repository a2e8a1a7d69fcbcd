/-
  Law AsmBytes: of any items, at any base, the bytes, the places of labels and the error are those of the document.
  Conditions: none but those of the given row.
-/
import Derived.Test.YtplfpaffjaldoaaRows
import Derived.Test.YtplfpaffjaldoaaAsmJ
import Derived.Test.YtplfpaffjaldoaaAsmH
import Derived.WalkKit
import Derived.ProofKit
import Derived.OpenShut
import Derived.ShutString
import Derived.ChangeOld
import Derived.Below
import Derived.LoopN
import Derived.SizedLaws
namespace Go.Proofs.Ytplfpaffjaldoaa.asmBytes
open Go.ChangeShapes Go.WideShapes Go.ChangeAt Go.RowKit
open Go.ChangeMaps (open_string shut_string)
set_option linter.unusedVariables false

theorem own : ownKnob Try.prog.godebug = none := by kernel_rfl
theorem laidOut : laidOutB Try.prog = true := by kernel_rfl

open Go.Proofs.Ytplfpaffjaldoaa
theorem items_len (L : List As.Run) : (As.items L).length ≤ 21000 := by have := upto_len L 30; exact this
theorem items_wf {L : List As.Run} (h : ∀ r ∈ L, (Lit.int .i64 r.item.label).wf = true) : As.wf (As.items L) := by
  intro k hk
  have hm : (As.items L)[k] ∈ As.items L := List.getElem_mem hk
  generalize (As.items L)[k] = x at hm
  unfold As.items As.upto at hm
  rw [List.mem_flatMap] at hm
  obtain ⟨r, hr, hx⟩ := hm
  unfold As.one at hx
  rw [(List.mem_replicate.1 hx).2]
  exact h r (List.mem_of_mem_take hr)
theorem own_slice' {W : World} {base : Nat} {e : TypeId} {size : Nat} {v : Value} {n : Nat} {xs : List Value} (h : W.ownsRow base e size v n xs) : ∃ q c, v = .slice q n c := by
  obtain ⟨q, c, h1, _⟩ := own_q h
  exact ⟨q, c, h1⟩
set_option maxHeartbeats 8000000 in
set_option maxRecDepth 100000 in
theorem bytes_run (p : Option Addr) (c m n np : Nat) (base E : Int) (I : List As.It) (P : List As.Pl) (s : ByteArray) (w : World) (hnp : Hid (P.length = np)) (hpb : np ≤ 100000)
    (C1 : Hid (Calls Try.prog 6 #[.slice p m c] w fun e w' => ∃ q cc, e = .returned (.slice q n cc) ∧ SliceC itC 10 w' (.slice q n cc) I ∧ Below w.heap.size w w'))
    (C2 : Hid (∀ (w : World) (q : Option Addr) (cc : Nat), SliceC itC 10 w (.slice q n cc) I → Calls Try.prog 7 #[.slice q n cc, .int .i64 base] w fun e w' => ∃ r rc, e = .returned (.tuple #[.string s, .slice r np rc, .int .i64 E]) ∧ SliceC plC 2 w' (.slice r np rc) P ∧ Below w.heap.size w w'))
    (C3 : Hid (∀ (w : World) (q : Option Addr) (cc : Nat), SliceC itC 10 w (.slice q n cc) I → Calls Try.prog 8 #[.slice q n cc, .int .i64 base] w fun e w' => ∃ r rc, e = .returned (.tuple #[.string s, .slice r np rc, .int .i64 E]) ∧ SliceC plC 2 w' (.slice r np rc) P ∧ Below w.heap.size w w')) :
    Calls Try.prog 3 #[.slice p m c, .int .i64 base] w fun e w' => e = .returned (.bool true) ∧ Below w.heap.size w w' := by
  go_enter Try.func3, Try.ntmps3
  go_wp2_with (first
    | (go_at_call 6; refine C1.out.mono ?_; rintro e w1 ⟨q1, c1, rfl, hs1, hb1⟩; have HS1 := Lib.hid hs1; have HB1 := Lib.hid hb1; clear hs1 hb1)
    | (go_at_call 7; refine (C2.out _ _ _ HS1.out).mono ?_; rintro e w2 ⟨q2, c2, rfl, hs2, hb2⟩; have HS2 := Lib.hid hs2; have HI2 := Lib.hid (HS1.out.kept hb2); have HB2 := Lib.hid (below_on HB1.out hb2 HB1.out.size); clear hb2 hs2)
    | (go_at_call 8; refine (C3.out _ _ _ HI2.out).mono ?_; rintro e w3 ⟨q3, c3, rfl, hs3, hb3⟩; have HS3 := Lib.hid hs3; have HP3 := Lib.hid (HS2.out.kept hb3); have HB3 := Lib.hid (below_on HB2.out hb3 HB2.out.size); clear hb3 hs3)
    | (go_at_call 9; refine (psame_any _ _ P _ (by rw [hnp.out]; exact hpb) HP3.out HS3.out).mono ?_; rintro e w4 ⟨rfl, hb4⟩; have HB4 := Lib.hid (below_on HB3.out hb4 HB3.out.size); clear hb4)
    | (go_at_call 10; refine (lives4_any _).mono ?_; rintro r w5 ⟨rfl, hb5⟩; have HB5 := Lib.hid (below_on HB4.out hb5 HB4.out.size); clear hb5))
  go_ret
  exact ⟨rfl, HB5.out⟩
theorem none_slice (w : World) : SliceC plC 2 w (.slice none 0 0) [] := ⟨none, 0, rfl, fun k hk => absurd hk (Nat.not_lt_zero _)⟩
theorem bytes_no (p : Option Addr) (c m n : Nat) (base E : Int) (I : List As.It) (w : World) (hE : ¬ E = 0)
    (C1 : Hid (Calls Try.prog 6 #[.slice p m c] w fun e w' => ∃ q cc, e = .returned (.slice q n cc) ∧ SliceC itC 10 w' (.slice q n cc) I ∧ Below w.heap.size w w'))
    (C2 : ∀ (w : World) (q : Option Addr) (cc : Nat), SliceC itC 10 w (.slice q n cc) I → Calls Try.prog 7 #[.slice q n cc, .int .i64 base] w fun e w' => e = .returned (.tuple #[.string ⟨#[]⟩, .slice none 0 0, .int .i64 E]) ∧ Below w.heap.size w w')
    (C3 : ∀ (w : World) (q : Option Addr) (cc : Nat), SliceC itC 10 w (.slice q n cc) I → Calls Try.prog 22 #[.slice q n cc, .int .i64 base] w fun e w' => e = .returned (.int .i64 E) ∧ Below w.heap.size w w') :
    Calls Try.prog 3 #[.slice p m c, .int .i64 base] w fun e w' => e = .returned (.bool true) ∧ Below w.heap.size w w' := by
  refine bytes_run p c m n 0 base E I [] ⟨#[]⟩ w (Lib.hid rfl) (by omega) C1 (Lib.hid fun w q cc h => ?_) (Lib.hid fun w q cc h => ?_)
  · refine (C2 w q cc h).mono ?_
    rintro e w' ⟨rfl, hb⟩
    exact ⟨none, 0, rfl, none_slice _, hb⟩
  · refine (rasm_no q cc n base E w hE (Lib.hid fun _ _ => trivial) (Lib.hid (C3 w q cc h))).mono ?_
    rintro e w' ⟨rfl, hb⟩
    exact ⟨none, 0, rfl, none_slice _, hb⟩
theorem bytes_all (p : Option Addr) (c : Nat) (L : List As.Run) (base : Int) (w : World) (hs : SliceC runC 11 w (.slice p L.length c) L) (hf : ∀ r ∈ L, (Lit.int .i64 r.item.label).wf = true) (hm : L.length ≤ maxLen) :
    Calls Try.prog 3 #[.slice p L.length c, .int .i64 base] w fun e w' => e = .returned (.bool true) ∧ Below w.heap.size w w' := by
  have hl := items_len L
  have hwf := items_wf hf
  have C1 : Hid (Calls Try.prog 6 #[.slice p L.length c] w fun e w' => ∃ q cc, e = .returned (.slice q (As.items L).length cc) ∧ SliceC itC 10 w' (.slice q (As.items L).length cc) (As.items L) ∧ Below w.heap.size w w') := Lib.hid (by
    refine (items_any p c L.length L w (Lib.hid rfl) hm (Lib.hid hs)).mono ?_
    rintro e w' ⟨v, rfl, hrow, hb⟩
    have h1 := sliceC_own itC_len hrow
    obtain ⟨q, cc, rfl⟩ := own_slice' hrow
    exact ⟨q, cc, rfl, h1, hb⟩)
  generalize As.items L = I at *
  by_cases hbase : base < 0 ∨ 262144 < base ∨ (0 ≤ base ∧ base % 2 ≠ 0)
  · have hE : As.check I base = 2 := by
      unfold As.check
      rw [if_pos]
      rcases hbase with h | h | ⟨_, h⟩ <;> simp [h]
    exact bytes_no p c L.length I.length base 2 I w (by decide) C1 (fun w q cc h => asm_bad q cc I.length I base 2 w (Lib.hid rfl) (by omega) (Lib.hid h) (Lib.hid hE) (by decide)) (fun w q cc h => rwrong_base q cc I.length base w hbase)
  · have h0 : 0 ≤ base := by omega
    have h1 : base ≤ 262144 := by omega
    have h2 : (base % 2 != 0) = false := by
      have : base % 2 = 0 := by omega
      simp [this]
    have CW : ∀ (R : Int), As.outE I base = R → ∀ (w : World) (q : Option Addr) (cc : Nat), SliceC itC 10 w (.slice q I.length cc) I → Calls Try.prog 22 #[.slice q I.length cc, .int .i64 base] w fun e w' => e = .returned (.int .i64 R) ∧ Below w.heap.size w w' := fun R hR w q cc h => rwrong_in q cc I.length I base R w (Lib.hid rfl) (by omega) h0 h1 h2 (Lib.hid h) (Lib.hid hR)
    by_cases hc : As.check I base = 0
    · by_cases hfe : As.findE I = 0
      · by_cases ha : 262144 < As.allLen I
        · have hR : As.outE I base = 5 := by unfold As.outE; rw [if_pos hc, if_pos hfe, if_pos ha]
          exact bytes_no p c L.length I.length base 5 I w (by decide) C1 (fun w q cc h => asm_big q cc I.length I base _ w (Lib.hid rfl) (by omega) (Lib.hid h) (Lib.hid hwf) (Lib.hid hc) (Lib.hid hfe) (Lib.hid rfl) ha) (CW 5 hR)
        · have hR : As.outE I base = 0 := by unfold As.outE; rw [if_pos hc, if_pos hfe, if_neg ha]
          have hpl : (As.plcs I base).length ≤ I.length := pls_len I _ _ (Nat.le_refl _) (by unfold As.atL; rw [lat_len]; omega)
          refine bytes_run p c L.length I.length (As.plcs I base).length base 0 I (As.plcs I base) ⟨(As.code I base).toArray⟩ w (Lib.hid rfl) (by omega) C1 (Lib.hid fun w q cc h => ?_) (Lib.hid fun w q cc h => ?_)
          · refine (asm_ok q cc I.length I base _ w (Lib.hid rfl) (by omega) (Lib.hid h) (Lib.hid hwf) (Lib.hid hc) (Lib.hid hfe) (Lib.hid rfl) ha _ (Lib.hid rfl)).mono ?_
            rintro e w' ⟨v, rfl, hsl, hb⟩
            have hsl' := hsl
            obtain ⟨r, rc, rfl, _⟩ := hsl'
            exact ⟨r, rc, rfl, hsl, hb⟩
          · refine (rasm_ok q cc I.length I base w (Lib.hid rfl) (by omega) (Lib.hid h) (Lib.hid hc) (Lib.hid hfe) _ (Lib.hid rfl) (Lib.hid (CW 0 hR w q cc h))).mono ?_
            rintro e w' ⟨v, rfl, hsl, hb⟩
            have hsl' := hsl
            obtain ⟨r, rc, rfl, _⟩ := hsl'
            exact ⟨r, rc, rfl, hsl, hb⟩
      · have hR : As.outE I base = As.findE I := by unfold As.outE; rw [if_pos hc, if_neg hfe]
        exact bytes_no p c L.length I.length base _ I w hfe C1 (fun w q cc h => asm_lost q cc I.length I base _ w (Lib.hid rfl) (by omega) (Lib.hid h) (Lib.hid hwf) (Lib.hid hc) (Lib.hid rfl) hfe) (CW _ hR)
    · have hR : As.outE I base = As.check I base := by unfold As.outE; rw [if_neg hc]
      exact bytes_no p c L.length I.length base _ I w hc C1 (fun w q cc h => asm_bad q cc I.length I base _ w (Lib.hid rfl) (by omega) (Lib.hid h) (Lib.hid rfl) hc) (CW _ hR)
theorem walk (p0v : Option Addr) (c0v : Nat) (L0 : List As.Run) (a1 : Int) (w1 : (Lit.int .i64 a1).wf = true) (w : World) (s0 : SliceC runC 11 w (.slice p0v L0.length c0v) L0) (f0 : ∀ r ∈ L0, (Lit.int .i64 r.item.label).wf = true) (m0 : L0.length ≤ maxLen) :
    Calls Try.prog 3 #[.slice p0v L0.length c0v, .int .i64 a1] w fun e w' => e = .returned (.bool true) ∧ Below w.heap.size w w' := by
  exact bytes_all p0v c0v L0 a1 w s0 f0 m0

set_option maxRecDepth 100000 in
theorem lifted (os : Os) (started : os.Started) (H : Type) (enc : TypeId × Value → H) :
    ReturnsInHanded {} Try.checked os 3 .any (Rows.asmBytesSpec.pre6 enc Try.prog Try.f3 Rows.asmBytesRow.domain false) (Rows.asmBytesSpec.post enc Try.prog Try.f3 false true false false) := by
  refine returnsInHanded_of_change (C := Try.checked) own started (by kernel_rfl) Try.func3
    (ChangeSpec.witness6 (enc := enc) (C := Try.checked) false ⟨#[], #[.slice none 0 0, .int .i64 0], []⟩ 8 (by kernel_rfl) (by kernel_rfl) (by kernel_rfl) (by kernel_rfl)) ?_
  intro W base args ds gs before hval0 hW hcnd _
  have hval : ∀ (j : Nat) t v, Try.f3.params[j]? = some t → args[j]? = some v → Value.okWide Try.prog W .any base t v := hval0
  have hW' := hW
  obtain ⟨p, q, hA0, hV, rfl, hfz, hnd⟩ := hW
  have hA : DataW.TrodAll enc Try.prog W 0 (fun _ => true) true Try.f3.params.toList args.toList ds p := hA0
  rw [Try.params3] at hA hval
  obtain ⟨v0, vs0, d0, ds0, p0, q0, hargs, rfl, rfl, h0, r0⟩ := trodAll_cons hA
  obtain ⟨v1, vs1, d1, ds1, p1, q1, rfl, rfl, rfl, h1, r1⟩ := trodAll_cons r0
  obtain ⟨rfl, rfl, rfl⟩ := trodAll_nil r1
  obtain rfl : args = #[v0, v1] := by cases args; simp_all
  obtain ⟨rfl, rfl⟩ := trodVars_none hV
  have k0 := h0
  have lt0 : ∀ x ∈ p0, x.block < W.heap.size := by obtain ⟨m, hm⟩ := k0; exact DataW.trod_lt m _ _ _ hm
  obtain ⟨L0, hL0, f0, m0⟩ := open_runs (hval 0 22 v0 rfl rfl) h0
  have s0 := hL0
  obtain ⟨p0v, c0v, rfl, -⟩ := hL0
  obtain ⟨a1, rfl, rfl, rfl, w1⟩ := open_int Try.underlying3 (hval 1 3 v1 rfl rfl) h1
  clear hA0 hval0
  refine (walk p0v c0v L0 a1 w1 W s0 f0 m0).mono fun e W' ⟨he, bel⟩ => ?_
  subst he
  exact ⟨_, rfl, _, _, _, [], _, [], hW', trodAll_mk1 (shut_bool Try.underlying4 _), (trodAll_cons_mk (Below.trod laidOut (by kernel_rfl) (of_decide_eq_true (by kernel_rfl)) k0 bel lt0) (trodAll_cons_mk (shut_int Try.underlying3 w1) trodAll_mk0)), rfl, bel.frame _, fun h => by cases h⟩

theorem over : Rows.asmBytesRow.holds Try.pinned (OpenSpec.ofChange Rows.asmBytesSpec) :=
  OpenClaim.holds_of_wide 3 Try.f3 rfl rfl rfl rfl rfl rfl rfl ⟨rfl, rfl, rfl, rfl, rfl⟩ rfl rfl rfl rfl rfl (by kernel_rfl) Try.func3 (by kernel_rfl)
    (of_decide_eq_true (by kernel_rfl)) (by unfold Func.isWrapper; first | (rw [if_pos (by decide +kernel)]; kernel_rfl) | (rw [if_neg (by decide +kernel)]; exact ⟨rfl, rfl⟩))
    (fun os started H enc _ => lifted os started H enc)

/-- the statement -/
theorem proved : Rows.AsmBytesSaid := over
#print axioms proved
end Go.Proofs.Ytplfpaffjaldoaa.asmBytes
