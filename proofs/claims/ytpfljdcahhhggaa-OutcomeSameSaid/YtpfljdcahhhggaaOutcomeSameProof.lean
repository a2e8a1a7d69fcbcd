/-
  Law OutcomeSame: Whether two results look the same from without, and how many steps more there may be of any sizes, is as the document says.
  Conditions: none but those of the given row.
-/
import Derived.Test.YtpfljdcahhhggaaRows
import Derived.Test.YtpfljdcahhhggaaOcL
import Derived.WalkKit
import Derived.ProofKit
import Derived.OpenShut
import Derived.ShutString
import Derived.ChangeOld
import Derived.Below
import Derived.LoopN
import Derived.SizedLaws
namespace Go.Proofs.Ytpfljdcahhhggaa.outcomeSame
open Go.ChangeShapes Go.WideShapes Go.ChangeAt Go.RowKit
open Go.ChangeMaps (open_string shut_string)
set_option linter.unusedVariables false
set_option linter.unusedSimpArgs false

theorem own : ownKnob Try.prog.godebug = none := by kernel_rfl
theorem laidOut : laidOutB Try.prog = true := by kernel_rfl

theorem same_step {W wx w' : World} {b c d : Nat} {h1 h2 : Bool} {st1 cy1 ha1 co1 su1 st2 cy2 ha2 co2 su2 i j r : Int} {o1 a1 b1 o2 a2 b2 : ByteArray} (H : Below W.heap.size W wx ∧ Box9 wx b h1 st1 cy1 ha1 co1 su1 o1 a1 b1 ∧ Box9 wx c h2 st2 cy2 ha2 co2 su2 o2 a2 b2 ∧ Box3 wx d i j r) (hb : Below wx.heap.size wx w') : Below W.heap.size W w' ∧ Box9 w' b h1 st1 cy1 ha1 co1 su1 o1 a1 b1 ∧ Box9 w' c h2 st2 cy2 ha2 co2 su2 o2 a2 b2 ∧ Box3 w' d i j r :=
  ⟨H.1.trans (hb.mono H.1.size), H.2.1.kept hb, H.2.2.1.kept hb, H.2.2.2.kept hb⟩
theorem heap_alloc_last3 (w : World) (A B C : Obj) : (((w.alloc A).alloc B).alloc C).heap[w.heap.size]? = some A ∧ (((w.alloc A).alloc B).alloc C).heap[w.heap.size + 1]? = some B ∧ (((w.alloc A).alloc B).alloc C).heap[w.heap.size + 2]? = some C := by
  have e1 : (w.alloc A).heap.size = w.heap.size + 1 := Array.size_push _
  have e2 : ((w.alloc A).alloc B).heap.size = w.heap.size + 2 := (Array.size_push _).trans (congrArg (· + 1) e1)
  refine ⟨heap_alloc_old (heap_alloc_old (heap_alloc_new w A) B) C, ?_, ?_⟩
  · have h := heap_alloc_old (heap_alloc_new (w.alloc A) B) C
    rw [e1] at h; exact h
  · have h := heap_alloc_new ((w.alloc A).alloc B) C
    rw [e2] at h; exact h
set_option maxHeartbeats 8000000 in
theorem walk (xh0 : Bool) (xt0 xc0 xa0 xm0 xs0 : Int) (xo0 xp0 xq0 : ByteArray) (xh1 : Bool) (xt1 xc1 xa1 xm1 xs1 : Int) (xo1 xp1 xq1 : ByteArray) (zi2 zo2 zr2 : Int) (zo0 : xo0.size ≤ 281474976710656) (zp0 : xp0.size ≤ 281474976710656) (zq0 : xq0.size ≤ 281474976710656) (zo1 : xo1.size ≤ 281474976710656) (zp1 : xp1.size ≤ 281474976710656) (zq1 : xq1.size ≤ 281474976710656) (wi2 : (Lit.int .i64 zi2).wf = true) (wo2 : (Lit.int .i64 zo2).wf = true) (wr2 : (Lit.int .i64 zr2).wf = true) (w : World) :
    Calls Try.prog 4 #[.agg #[.bool xh0, .int .i64 xt0, .int .i64 xc0, .int .i64 xa0, .int .i64 xm0, .int .i64 xs0, .string xo0, .string xp0, .string xq0], .agg #[.bool xh1, .int .i64 xt1, .int .i64 xc1, .int .i64 xa1, .int .i64 xm1, .int .i64 xs1, .string xo1, .string xp1, .string xq1], .agg #[.int .i64 zi2, .int .i64 zo2, .int .i64 zr2]] w fun e w' => e = .returned (.bool true) ∧ Below w.heap.size w w' := by
  have C1 := Lib.hid fun w => same_any xh0 xt0 xc0 xa0 xm0 xs0 xo0 xp0 xq0 xh1 xt1 xc1 xa1 xm1 xs1 xo1 xp1 xq1 w
  have C2 := Lib.hid fun w => slack_any zi2 zo2 zr2 w
  have C3 := Lib.hid fun w => rslack_any zi2 zo2 zr2 w wr2
  have C5 := Lib.hid lives_any
  clear zo0 zp0 zq0 zo1 zp1 zq1 wi2 wo2 wr2
  generalize Oc.slack zi2 zo2 zr2 = K at *
  have HS : Hid (Oc.same xh0 xh1 xm0 xm1 xs0 xs1 xo0 xo1 = ((xh0 == xh1) && (xm0 == xm1) && (xs0 == xs1) && (xo0.toList == xo1.toList))) := Lib.hid rfl
  generalize Oc.same xh0 xh1 xm0 xm1 xs0 xs1 xo0 xo1 = Z at *
  cases e0 : (xh0 == xh1) <;> rw [e0] at HS
  · go_enter Try.func4, Try.ntmps4
    go_wp2
    have hl := heap_alloc_last3 w (.cells #[.bool xh0, .int .i64 xt0, .int .i64 xc0, .int .i64 xa0, .int .i64 xm0, .int .i64 xs0, .string xo0, .string xp0, .string xq0] 23) (.cells #[.bool xh1, .int .i64 xt1, .int .i64 xc1, .int .i64 xa1, .int .i64 xm1, .int .i64 xs1, .string xo1, .string xp1, .string xq1] 23) (.cells #[.int .i64 zi2, .int .i64 zo2, .int .i64 zr2] 32)
    have HB : Hid (Below w.heap.size w (((w.alloc (.cells #[.bool xh0, .int .i64 xt0, .int .i64 xc0, .int .i64 xa0, .int .i64 xm0, .int .i64 xs0, .string xo0, .string xp0, .string xq0] 23)).alloc (.cells #[.bool xh1, .int .i64 xt1, .int .i64 xc1, .int .i64 xa1, .int .i64 xm1, .int .i64 xs1, .string xo1, .string xp1, .string xq1] 23)).alloc (.cells #[.int .i64 zi2, .int .i64 zo2, .int .i64 zr2] 32))) := Lib.hid (by go_grown)
    have BA := Lib.hid (Box9.of hl.1)
    have BB := Lib.hid (Box9.of hl.2.1)
    have BC := Lib.hid (Box3.of hl.2.2)
    clear hl
    generalize (((w.alloc (.cells #[.bool xh0, .int .i64 xt0, .int .i64 xc0, .int .i64 xa0, .int .i64 xm0, .int .i64 xs0, .string xo0, .string xp0, .string xq0] 23)).alloc (.cells #[.bool xh1, .int .i64 xt1, .int .i64 xc1, .int .i64 xa1, .int .i64 xm1, .int .i64 xs1, .string xo1, .string xp1, .string xq1] 23)).alloc (.cells #[.int .i64 zi2, .int .i64 zo2, .int .i64 zr2] 32)) = W at *
    obtain rfl : Z = false := by rw [HS.out]; rfl
    clear HS
    go_region_held3 (fun wx => Below W.heap.size W wx ∧ Box9 wx w.heap.size xh0 xt0 xc0 xa0 xm0 xs0 xo0 xp0 xq0 ∧ Box9 wx (w.heap.size + 1) xh1 xt1 xc1 xa1 xm1 xs1 xo1 xp1 xq1 ∧ Box3 wx (w.heap.size + 2) zi2 zo2 zr2)
      (first | exact ⟨(Below.refl _ _).drew, BA.out, BB.out, BC.out⟩ | exact same_step (by assumption) (by assumption))
      (first | (go_at_call 11; refine (C1.out _).mono ?_; rintro e w1 ⟨rfl, hb1⟩) | (go_at_call 12; refine (C2.out _).mono ?_; rintro e w2 ⟨rfl, hb2⟩) | (go_at_call 13; refine (C3.out _).mono ?_; rintro e w3 ⟨rfl, hb3⟩) | (go_at_call 10; refine (C5.out _).mono ?_; rintro e w5 ⟨rfl, hb5⟩))
    rename_i hH
    go_wp2
    go_ret
    exact ⟨rfl, HB.out.trans (hH.1.mono HB.out.size)⟩
  · cases e1 : (xm0 == xm1) <;> rw [e1] at HS
    · go_enter Try.func4, Try.ntmps4
      go_wp2
      have hl := heap_alloc_last3 w (.cells #[.bool xh0, .int .i64 xt0, .int .i64 xc0, .int .i64 xa0, .int .i64 xm0, .int .i64 xs0, .string xo0, .string xp0, .string xq0] 23) (.cells #[.bool xh1, .int .i64 xt1, .int .i64 xc1, .int .i64 xa1, .int .i64 xm1, .int .i64 xs1, .string xo1, .string xp1, .string xq1] 23) (.cells #[.int .i64 zi2, .int .i64 zo2, .int .i64 zr2] 32)
      have HB : Hid (Below w.heap.size w (((w.alloc (.cells #[.bool xh0, .int .i64 xt0, .int .i64 xc0, .int .i64 xa0, .int .i64 xm0, .int .i64 xs0, .string xo0, .string xp0, .string xq0] 23)).alloc (.cells #[.bool xh1, .int .i64 xt1, .int .i64 xc1, .int .i64 xa1, .int .i64 xm1, .int .i64 xs1, .string xo1, .string xp1, .string xq1] 23)).alloc (.cells #[.int .i64 zi2, .int .i64 zo2, .int .i64 zr2] 32))) := Lib.hid (by go_grown)
      have BA := Lib.hid (Box9.of hl.1)
      have BB := Lib.hid (Box9.of hl.2.1)
      have BC := Lib.hid (Box3.of hl.2.2)
      clear hl
      generalize (((w.alloc (.cells #[.bool xh0, .int .i64 xt0, .int .i64 xc0, .int .i64 xa0, .int .i64 xm0, .int .i64 xs0, .string xo0, .string xp0, .string xq0] 23)).alloc (.cells #[.bool xh1, .int .i64 xt1, .int .i64 xc1, .int .i64 xa1, .int .i64 xm1, .int .i64 xs1, .string xo1, .string xp1, .string xq1] 23)).alloc (.cells #[.int .i64 zi2, .int .i64 zo2, .int .i64 zr2] 32)) = W at *
      obtain rfl : Z = false := by rw [HS.out]; rfl
      clear HS
      go_region_held3 (fun wx => Below W.heap.size W wx ∧ Box9 wx w.heap.size xh0 xt0 xc0 xa0 xm0 xs0 xo0 xp0 xq0 ∧ Box9 wx (w.heap.size + 1) xh1 xt1 xc1 xa1 xm1 xs1 xo1 xp1 xq1 ∧ Box3 wx (w.heap.size + 2) zi2 zo2 zr2)
        (first | exact ⟨(Below.refl _ _).drew, BA.out, BB.out, BC.out⟩ | exact same_step (by assumption) (by assumption))
        (first | (go_at_call 11; refine (C1.out _).mono ?_; rintro e w1 ⟨rfl, hb1⟩) | (go_at_call 12; refine (C2.out _).mono ?_; rintro e w2 ⟨rfl, hb2⟩) | (go_at_call 13; refine (C3.out _).mono ?_; rintro e w3 ⟨rfl, hb3⟩) | (go_at_call 10; refine (C5.out _).mono ?_; rintro e w5 ⟨rfl, hb5⟩))
      rename_i hH
      go_wp2
      go_ret
      exact ⟨rfl, HB.out.trans (hH.1.mono HB.out.size)⟩
    · cases e2 : (xs0 == xs1) <;> rw [e2] at HS
      · go_enter Try.func4, Try.ntmps4
        go_wp2
        have hl := heap_alloc_last3 w (.cells #[.bool xh0, .int .i64 xt0, .int .i64 xc0, .int .i64 xa0, .int .i64 xm0, .int .i64 xs0, .string xo0, .string xp0, .string xq0] 23) (.cells #[.bool xh1, .int .i64 xt1, .int .i64 xc1, .int .i64 xa1, .int .i64 xm1, .int .i64 xs1, .string xo1, .string xp1, .string xq1] 23) (.cells #[.int .i64 zi2, .int .i64 zo2, .int .i64 zr2] 32)
        have HB : Hid (Below w.heap.size w (((w.alloc (.cells #[.bool xh0, .int .i64 xt0, .int .i64 xc0, .int .i64 xa0, .int .i64 xm0, .int .i64 xs0, .string xo0, .string xp0, .string xq0] 23)).alloc (.cells #[.bool xh1, .int .i64 xt1, .int .i64 xc1, .int .i64 xa1, .int .i64 xm1, .int .i64 xs1, .string xo1, .string xp1, .string xq1] 23)).alloc (.cells #[.int .i64 zi2, .int .i64 zo2, .int .i64 zr2] 32))) := Lib.hid (by go_grown)
        have BA := Lib.hid (Box9.of hl.1)
        have BB := Lib.hid (Box9.of hl.2.1)
        have BC := Lib.hid (Box3.of hl.2.2)
        clear hl
        generalize (((w.alloc (.cells #[.bool xh0, .int .i64 xt0, .int .i64 xc0, .int .i64 xa0, .int .i64 xm0, .int .i64 xs0, .string xo0, .string xp0, .string xq0] 23)).alloc (.cells #[.bool xh1, .int .i64 xt1, .int .i64 xc1, .int .i64 xa1, .int .i64 xm1, .int .i64 xs1, .string xo1, .string xp1, .string xq1] 23)).alloc (.cells #[.int .i64 zi2, .int .i64 zo2, .int .i64 zr2] 32)) = W at *
        obtain rfl : Z = false := by rw [HS.out]; rfl
        clear HS
        go_region_held3 (fun wx => Below W.heap.size W wx ∧ Box9 wx w.heap.size xh0 xt0 xc0 xa0 xm0 xs0 xo0 xp0 xq0 ∧ Box9 wx (w.heap.size + 1) xh1 xt1 xc1 xa1 xm1 xs1 xo1 xp1 xq1 ∧ Box3 wx (w.heap.size + 2) zi2 zo2 zr2)
          (first | exact ⟨(Below.refl _ _).drew, BA.out, BB.out, BC.out⟩ | exact same_step (by assumption) (by assumption))
          (first | (go_at_call 11; refine (C1.out _).mono ?_; rintro e w1 ⟨rfl, hb1⟩) | (go_at_call 12; refine (C2.out _).mono ?_; rintro e w2 ⟨rfl, hb2⟩) | (go_at_call 13; refine (C3.out _).mono ?_; rintro e w3 ⟨rfl, hb3⟩) | (go_at_call 10; refine (C5.out _).mono ?_; rintro e w5 ⟨rfl, hb5⟩))
        rename_i hH
        go_wp2
        go_ret
        exact ⟨rfl, HB.out.trans (hH.1.mono HB.out.size)⟩
      · cases e3 : (xo0.toList == xo1.toList) <;> rw [e3] at HS
        · go_enter Try.func4, Try.ntmps4
          go_wp2
          have hl := heap_alloc_last3 w (.cells #[.bool xh0, .int .i64 xt0, .int .i64 xc0, .int .i64 xa0, .int .i64 xm0, .int .i64 xs0, .string xo0, .string xp0, .string xq0] 23) (.cells #[.bool xh1, .int .i64 xt1, .int .i64 xc1, .int .i64 xa1, .int .i64 xm1, .int .i64 xs1, .string xo1, .string xp1, .string xq1] 23) (.cells #[.int .i64 zi2, .int .i64 zo2, .int .i64 zr2] 32)
          have HB : Hid (Below w.heap.size w (((w.alloc (.cells #[.bool xh0, .int .i64 xt0, .int .i64 xc0, .int .i64 xa0, .int .i64 xm0, .int .i64 xs0, .string xo0, .string xp0, .string xq0] 23)).alloc (.cells #[.bool xh1, .int .i64 xt1, .int .i64 xc1, .int .i64 xa1, .int .i64 xm1, .int .i64 xs1, .string xo1, .string xp1, .string xq1] 23)).alloc (.cells #[.int .i64 zi2, .int .i64 zo2, .int .i64 zr2] 32))) := Lib.hid (by go_grown)
          have BA := Lib.hid (Box9.of hl.1)
          have BB := Lib.hid (Box9.of hl.2.1)
          have BC := Lib.hid (Box3.of hl.2.2)
          clear hl
          generalize (((w.alloc (.cells #[.bool xh0, .int .i64 xt0, .int .i64 xc0, .int .i64 xa0, .int .i64 xm0, .int .i64 xs0, .string xo0, .string xp0, .string xq0] 23)).alloc (.cells #[.bool xh1, .int .i64 xt1, .int .i64 xc1, .int .i64 xa1, .int .i64 xm1, .int .i64 xs1, .string xo1, .string xp1, .string xq1] 23)).alloc (.cells #[.int .i64 zi2, .int .i64 zo2, .int .i64 zr2] 32)) = W at *
          obtain rfl : Z = false := by rw [HS.out]; rfl
          clear HS
          go_region_held3 (fun wx => Below W.heap.size W wx ∧ Box9 wx w.heap.size xh0 xt0 xc0 xa0 xm0 xs0 xo0 xp0 xq0 ∧ Box9 wx (w.heap.size + 1) xh1 xt1 xc1 xa1 xm1 xs1 xo1 xp1 xq1 ∧ Box3 wx (w.heap.size + 2) zi2 zo2 zr2)
            (first | exact ⟨(Below.refl _ _).drew, BA.out, BB.out, BC.out⟩ | exact same_step (by assumption) (by assumption))
            (first | (go_at_call 11; refine (C1.out _).mono ?_; rintro e w1 ⟨rfl, hb1⟩) | (go_at_call 12; refine (C2.out _).mono ?_; rintro e w2 ⟨rfl, hb2⟩) | (go_at_call 13; refine (C3.out _).mono ?_; rintro e w3 ⟨rfl, hb3⟩) | (go_at_call 10; refine (C5.out _).mono ?_; rintro e w5 ⟨rfl, hb5⟩))
          rename_i hH
          go_wp2
          go_ret
          exact ⟨rfl, HB.out.trans (hH.1.mono HB.out.size)⟩
        · go_enter Try.func4, Try.ntmps4
          go_wp2
          have hl := heap_alloc_last3 w (.cells #[.bool xh0, .int .i64 xt0, .int .i64 xc0, .int .i64 xa0, .int .i64 xm0, .int .i64 xs0, .string xo0, .string xp0, .string xq0] 23) (.cells #[.bool xh1, .int .i64 xt1, .int .i64 xc1, .int .i64 xa1, .int .i64 xm1, .int .i64 xs1, .string xo1, .string xp1, .string xq1] 23) (.cells #[.int .i64 zi2, .int .i64 zo2, .int .i64 zr2] 32)
          have HB : Hid (Below w.heap.size w (((w.alloc (.cells #[.bool xh0, .int .i64 xt0, .int .i64 xc0, .int .i64 xa0, .int .i64 xm0, .int .i64 xs0, .string xo0, .string xp0, .string xq0] 23)).alloc (.cells #[.bool xh1, .int .i64 xt1, .int .i64 xc1, .int .i64 xa1, .int .i64 xm1, .int .i64 xs1, .string xo1, .string xp1, .string xq1] 23)).alloc (.cells #[.int .i64 zi2, .int .i64 zo2, .int .i64 zr2] 32))) := Lib.hid (by go_grown)
          have BA := Lib.hid (Box9.of hl.1)
          have BB := Lib.hid (Box9.of hl.2.1)
          have BC := Lib.hid (Box3.of hl.2.2)
          clear hl
          generalize (((w.alloc (.cells #[.bool xh0, .int .i64 xt0, .int .i64 xc0, .int .i64 xa0, .int .i64 xm0, .int .i64 xs0, .string xo0, .string xp0, .string xq0] 23)).alloc (.cells #[.bool xh1, .int .i64 xt1, .int .i64 xc1, .int .i64 xa1, .int .i64 xm1, .int .i64 xs1, .string xo1, .string xp1, .string xq1] 23)).alloc (.cells #[.int .i64 zi2, .int .i64 zo2, .int .i64 zr2] 32)) = W at *
          obtain rfl : Z = true := by rw [HS.out]; rfl
          clear HS
          go_region_held3 (fun wx => Below W.heap.size W wx ∧ Box9 wx w.heap.size xh0 xt0 xc0 xa0 xm0 xs0 xo0 xp0 xq0 ∧ Box9 wx (w.heap.size + 1) xh1 xt1 xc1 xa1 xm1 xs1 xo1 xp1 xq1 ∧ Box3 wx (w.heap.size + 2) zi2 zo2 zr2)
            (first | exact ⟨(Below.refl _ _).drew, BA.out, BB.out, BC.out⟩ | exact same_step (by assumption) (by assumption))
            (first | (go_at_call 11; refine (C1.out _).mono ?_; rintro e w1 ⟨rfl, hb1⟩) | (go_at_call 12; refine (C2.out _).mono ?_; rintro e w2 ⟨rfl, hb2⟩) | (go_at_call 13; refine (C3.out _).mono ?_; rintro e w3 ⟨rfl, hb3⟩) | (go_at_call 10; refine (C5.out _).mono ?_; rintro e w5 ⟨rfl, hb5⟩))
          rename_i hH
          go_wp2
          go_ret
          exact ⟨rfl, HB.out.trans (hH.1.mono HB.out.size)⟩

set_option maxRecDepth 100000 in
theorem lifted (os : Os) (started : os.Started) (H : Type) (enc : TypeId × Value → H) :
    ReturnsInHanded {} Try.checked os 4 .any (Rows.outcomeSameSpec.pre6 enc Try.prog Try.f4 Rows.outcomeSameRow.domain false) (Rows.outcomeSameSpec.post enc Try.prog Try.f4 false true false false) := by
  refine returnsInHanded_of_change_sized (C := Try.checked) own started (by kernel_rfl) Try.func4
    (ChangeSpec.witness6 (enc := enc) (C := Try.checked) false ⟨#[], #[.agg #[.bool false, .int .i64 0, .int .i64 0, .int .i64 0, .int .i64 0, .int .i64 0, .string ByteArray.empty, .string ByteArray.empty, .string ByteArray.empty], .agg #[.bool false, .int .i64 0, .int .i64 0, .int .i64 0, .int .i64 0, .int .i64 0, .string ByteArray.empty, .string ByteArray.empty, .string ByteArray.empty], .agg #[.int .i64 0, .int .i64 0, .int .i64 0]], []⟩ 8 (by kernel_rfl) (by kernel_rfl) (by kernel_rfl) (by kernel_rfl)) ?_
  intro W base args ds gs before hval0 hW hcnd hsz _
  have hval : ∀ (j : Nat) t v, Try.f4.params[j]? = some t → args[j]? = some v → Value.okWide Try.prog W .any base t v := hval0
  have hW' := hW
  obtain ⟨p, q, hA0, hV, rfl, hfz, hnd⟩ := hW
  have hA : DataW.TrodAll enc Try.prog W 0 (fun _ => true) true Try.f4.params.toList args.toList ds p := hA0
  rw [Try.params4] at hA hval
  obtain ⟨v0, vs0, d0, ds0, p0, q0, hargs, rfl, rfl, h0, r0⟩ := trodAll_cons hA
  obtain ⟨v1, vs1, d1, ds1, p1, q1, rfl, rfl, rfl, h1, r1⟩ := trodAll_cons r0
  obtain ⟨v2, vs2, d2, ds2, p2, q2, rfl, rfl, rfl, h2, r2⟩ := trodAll_cons r1
  obtain ⟨rfl, rfl, rfl⟩ := trodAll_nil r2
  obtain rfl : args = #[v0, v1, v2] := by cases args; simp_all
  obtain ⟨rfl, rfl⟩ := trodVars_none hV
  have k0 := h0
  have lt0 : ∀ x ∈ p0, x.block < W.heap.size := by obtain ⟨m, hm⟩ := k0; exact DataW.trod_lt m _ _ _ hm
  obtain ⟨xh0, xt0, xc0, xa0, xm0, xs0, xo0, xp0, xq0, rfl, zo0, zp0, zq0⟩ := open_result (hval 0 23 v0 rfl rfl) h0 (fun n hn => by have := List.all_eq_true.1 hsz _ (DataW.weights_mem_each (ts := _) (ds := _) (j := 0) (t := 23) (d := d0) rfl rfl n hn); simpa using this)
  have k1 := h1
  have lt1 : ∀ x ∈ p1, x.block < W.heap.size := by obtain ⟨m, hm⟩ := k1; exact DataW.trod_lt m _ _ _ hm
  obtain ⟨xh1, xt1, xc1, xa1, xm1, xs1, xo1, xp1, xq1, rfl, zo1, zp1, zq1⟩ := open_result (hval 1 23 v1 rfl rfl) h1 (fun n hn => by have := List.all_eq_true.1 hsz _ (DataW.weights_mem_each (ts := _) (ds := _) (j := 1) (t := 23) (d := d1) rfl rfl n hn); simpa using this)
  have k2 := h2
  have lt2 : ∀ x ∈ p2, x.block < W.heap.size := by obtain ⟨m, hm⟩ := k2; exact DataW.trod_lt m _ _ _ hm
  obtain ⟨zi2, zo2, zr2, rfl, wi2, wo2, wr2⟩ := open_sizes (hval 2 32 v2 rfl rfl) h2
  clear hA0 hval0
  refine (walk xh0 xt0 xc0 xa0 xm0 xs0 xo0 xp0 xq0 xh1 xt1 xc1 xa1 xm1 xs1 xo1 xp1 xq1 zi2 zo2 zr2 zo0 zp0 zq0 zo1 zp1 zq1 wi2 wo2 wr2 W).mono fun e W' ⟨he, bel⟩ => ?_
  subst he
  exact ⟨_, rfl, _, _, _, [], _, [], hW', trodAll_mk1 (shut_bool Try.underlying4 _), (trodAll_cons_mk (Below.trod laidOut (by kernel_rfl) (of_decide_eq_true (by kernel_rfl)) k0 bel lt0) (trodAll_cons_mk (Below.trod laidOut (by kernel_rfl) (of_decide_eq_true (by kernel_rfl)) k1 bel lt1) (trodAll_cons_mk (Below.trod laidOut (by kernel_rfl) (of_decide_eq_true (by kernel_rfl)) k2 bel lt2) trodAll_mk0))), rfl, bel.frame _, fun h => by cases h⟩

theorem over : Rows.outcomeSameRow.holds Try.pinned (OpenSpec.ofChange Rows.outcomeSameSpec) :=
  OpenClaim.holds_of_wide 4 Try.f4 rfl rfl rfl rfl rfl rfl rfl ⟨rfl, rfl, rfl, rfl, rfl⟩ rfl rfl rfl rfl rfl (by kernel_rfl) Try.func4 (by kernel_rfl)
    (of_decide_eq_true (by kernel_rfl)) (by unfold Func.isWrapper; first | (rw [if_pos (by decide +kernel)]; kernel_rfl) | (rw [if_neg (by decide +kernel)]; exact ⟨rfl, rfl⟩))
    (fun os started H enc _ => lifted os started H enc)

/-- the statement -/
theorem proved : Rows.OutcomeSameSaid := over
#print axioms proved
end Go.Proofs.Ytpfljdcahhhggaa.outcomeSame
