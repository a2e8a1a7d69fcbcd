/-
What package thumb's reaches, Check and Size return.
Package image: what starts, check, field and at return, and the document's place and at.
-/
import Derived.Test.YthciobjklhkkcaaGreatP01a
import Derived.Test.YthciobjklhkkcaaGreatP04a
import Derived.StillTailTactics
import Derived.Test.YthciobjklhkkcaaGreatP04b
import Derived.Test.YthciobjklhkkcaaGreatP02a
section
namespace Go.Proofs.YthciobjklhkkcaaGreat
open Go.ChangeShapes Go.WideShapes Go.ChangeAt Go.RowKit
set_option maxHeartbeats 4000000

theorem below_drewK {B : Nat} {a w : World} (h : Below B a w) (n : Nat) : Below B a (w.drewN n) := h.trans ⟨rfl, rfl, rfl, Nat.le_refl _, fun _ _ => rfl⟩
theorem tmod_two (n : Int) : (n.tmod 2 == 0) = (n % 2 == 0) := by
 rw [Bool.eq_iff_iff]; simp [Int.tmod_eq_emod]; split <;> omega

theorem reaches_any (op rd rn rm ra imm cond : Int) (wide : Bool) (w : World) :
  Calls Tryz.prog 160 #[.agg #[.int .i64 op, .int .i64 rd, .int .i64 rn, .int .i64 rm, .int .i64 ra, .int .i64 imm, .int .i64 cond, .bool wide]] w fun e w' => e = .returned (.bool (Th.reaches op imm wide)) ∧ Below w.heap.size w w' := by
 go_enter Tryz.func160, Tryz.ntmps160
 go_wp2_with (go_at_call 172; refine (reach_any _ _ _).mono ?_; rintro e w' ⟨rfl, rfl⟩)
 all_goals
  go_ret
  refine ⟨ret_bool ?_, by go_grown⟩
  first | (simp [Th.reaches, tmod_two, *]; done) | (simp [Th.reaches]; omega)

theorem sx_step {W w1 w2 : World} {b c : Nat} {op rd rn rm ra imm cond : Int} {wide : Bool} {op' rd' rn' rm' ra' imm' cond' : Int} {wide' : Bool}
  (h : Below W.heap.size W w1 ∧ InsAt w1 b op rd rn rm ra imm cond wide ∧ InsAt w1 c op' rd' rn' rm' ra' imm' cond' wide') (hb : Below w1.heap.size w1 w2) (h1 : b < W.heap.size) (h2 : c < W.heap.size) :
  Below W.heap.size W w2 ∧ InsAt w2 b op rd rn rm ra imm cond wide ∧ InsAt w2 c op' rd' rn' rm' ra' imm' cond' wide' := by
 obtain ⟨h0, g1, g2⟩ := h
 have := h0.size
 exact ⟨h0.trans (hb.mono h0.size), g1.below hb (by omega), g2.below hb (by omega)⟩
theorem check_k0 (op rd rn rm ra imm cond : Int) (wide : Bool) (w : World) (hk : Th.known op rd ra = false) :
  Calls Tryz.prog 118 #[.agg #[.int .i64 op, .int .i64 rd, .int .i64 rn, .int .i64 rm, .int .i64 ra, .int .i64 imm, .int .i64 cond, .bool wide]] w fun e w' => e = .returned (.int .i64 2) ∧ Below w.heap.size w w' := by
 go_enter Tryz.func118, Tryz.ntmps118
 go_wp2_with (go_at_call 157; refine (greatest_any _ _ _ _ _ _ _ _ _).mono ?_; rintro e w1 ⟨rfl, hb⟩)
 have hz := hb.size
 simp at hz
 have HC := (ins_alloc w 123 op rd rn rm ra imm cond wide).below hb (by simp)
 have HC := HC.alloc (by omega) (.cells #[.int .i64 (Th.most op imm).op, .int .i64 (Th.most op imm).rd, .int .i64 (Th.most op imm).rn, .int .i64 (Th.most op imm).rm, .int .i64 (Th.most op imm).ra, .int .i64 (Th.most op imm).imm, .int .i64 (Th.most op imm).cond, .bool (Th.most op imm).wide] 123)
 have HD := ins_alloc w1 123 (Th.most op imm).op (Th.most op imm).rd (Th.most op imm).rn (Th.most op imm).rm (Th.most op imm).ra (Th.most op imm).imm (Th.most op imm).cond (Th.most op imm).wide
 have HB : Hid (Below w.heap.size w (w1.alloc (.cells #[.int .i64 (Th.most op imm).op, .int .i64 (Th.most op imm).rd, .int .i64 (Th.most op imm).rn, .int .i64 (Th.most op imm).rm, .int .i64 (Th.most op imm).ra, .int .i64 (Th.most op imm).imm, .int .i64 (Th.most op imm).cond, .bool (Th.most op imm).wide] 123))) :=
  ((Below.refl _ _).alloc (Nat.le_refl _) _).trans ((hb.mono (by simp)).alloc (by omega) _)
 have hs2 : w1.heap.size < (w1.alloc (.cells #[.int .i64 (Th.most op imm).op, .int .i64 (Th.most op imm).rd, .int .i64 (Th.most op imm).rn, .int .i64 (Th.most op imm).rm, .int .i64 (Th.most op imm).ra, .int .i64 (Th.most op imm).imm, .int .i64 (Th.most op imm).cond, .bool (Th.most op imm).wide] 123)).heap.size := by simp
 generalize w1.alloc (.cells #[.int .i64 (Th.most op imm).op, .int .i64 (Th.most op imm).rd, .int .i64 (Th.most op imm).rn, .int .i64 (Th.most op imm).rm, .int .i64 (Th.most op imm).ra, .int .i64 (Th.most op imm).imm, .int .i64 (Th.most op imm).cond, .bool (Th.most op imm).wide] 123) = W at *
 have hs1 : w.heap.size < W.heap.size := by omega
 clear hb hz
 generalize w1.heap.size = b at *
 generalize Value.agg #[.int .i64 op, _, _, _, _, _, _, _] = u0
 generalize Value.agg #[.int .i64 (Th.most op imm).op, _, _, _, _, _, _, _] = u1
 go_quiet (fail)
 go_wp2
 go_ret
 exact ⟨rfl, below_drewK HB.out _⟩

theorem check_w0 (op rd rn rm ra imm cond : Int) (wide : Bool) (w : World) (hk : Th.known op rd ra = true) (hw : Th.within ⟨(Th.least op imm).op, (Th.least op imm).rd, (Th.least op imm).rn, (Th.least op imm).rm, (Th.least op imm).ra, (Th.least op imm).imm, (Th.least op imm).cond, (Th.least op imm).wide⟩ ⟨op, rd, rn, rm, ra, imm, cond, wide⟩ ⟨(Th.most op imm).op, (Th.most op imm).rd, (Th.most op imm).rn, (Th.most op imm).rm, (Th.most op imm).ra, (Th.most op imm).imm, (Th.most op imm).cond, (Th.most op imm).wide⟩ = false) :
  Calls Tryz.prog 118 #[.agg #[.int .i64 op, .int .i64 rd, .int .i64 rn, .int .i64 rm, .int .i64 ra, .int .i64 imm, .int .i64 cond, .bool wide]] w fun e w' => e = .returned (.int .i64 2) ∧ Below w.heap.size w w' := by
 go_enter Tryz.func118, Tryz.ntmps118
 go_wp2_with (go_at_call 157; refine (greatest_any _ _ _ _ _ _ _ _ _).mono ?_; rintro e w1 ⟨rfl, hb⟩)
 have hz := hb.size
 simp at hz
 have HC := (ins_alloc w 123 op rd rn rm ra imm cond wide).below hb (by simp)
 have HC := HC.alloc (by omega) (.cells #[.int .i64 (Th.most op imm).op, .int .i64 (Th.most op imm).rd, .int .i64 (Th.most op imm).rn, .int .i64 (Th.most op imm).rm, .int .i64 (Th.most op imm).ra, .int .i64 (Th.most op imm).imm, .int .i64 (Th.most op imm).cond, .bool (Th.most op imm).wide] 123)
 have HD := ins_alloc w1 123 (Th.most op imm).op (Th.most op imm).rd (Th.most op imm).rn (Th.most op imm).rm (Th.most op imm).ra (Th.most op imm).imm (Th.most op imm).cond (Th.most op imm).wide
 have HB : Hid (Below w.heap.size w (w1.alloc (.cells #[.int .i64 (Th.most op imm).op, .int .i64 (Th.most op imm).rd, .int .i64 (Th.most op imm).rn, .int .i64 (Th.most op imm).rm, .int .i64 (Th.most op imm).ra, .int .i64 (Th.most op imm).imm, .int .i64 (Th.most op imm).cond, .bool (Th.most op imm).wide] 123))) :=
  ((Below.refl _ _).alloc (Nat.le_refl _) _).trans ((hb.mono (by simp)).alloc (by omega) _)
 have hs2 : w1.heap.size < (w1.alloc (.cells #[.int .i64 (Th.most op imm).op, .int .i64 (Th.most op imm).rd, .int .i64 (Th.most op imm).rn, .int .i64 (Th.most op imm).rm, .int .i64 (Th.most op imm).ra, .int .i64 (Th.most op imm).imm, .int .i64 (Th.most op imm).cond, .bool (Th.most op imm).wide] 123)).heap.size := by simp
 generalize w1.alloc (.cells #[.int .i64 (Th.most op imm).op, .int .i64 (Th.most op imm).rd, .int .i64 (Th.most op imm).rn, .int .i64 (Th.most op imm).rm, .int .i64 (Th.most op imm).ra, .int .i64 (Th.most op imm).imm, .int .i64 (Th.most op imm).cond, .bool (Th.most op imm).wide] 123) = W at *
 have hs1 : w.heap.size < W.heap.size := by omega
 clear hb hz
 generalize w1.heap.size = b at *
 generalize Value.agg #[.int .i64 op, _, _, _, _, _, _, _] = u0
 generalize Value.agg #[.int .i64 (Th.most op imm).op, _, _, _, _, _, _, _] = u1
 go_region_held3 (fun wx => Below W.heap.size W wx ∧ InsAt wx w.heap.size op rd rn rm ra imm cond wide ∧ InsAt wx b (Th.most op imm).op (Th.most op imm).rd (Th.most op imm).rn (Th.most op imm).rm (Th.most op imm).ra (Th.most op imm).imm (Th.most op imm).cond (Th.most op imm).wide)
  (first | exact ⟨(Below.refl _ _).drew, HC, HD⟩ | exact sx_step (by assumption) (by assumption) hs1 hs2)
  (first | (go_at_call 159; refine (least_any _ _ _ _ _ _ _ _ _).mono ?_; rintro e w' ⟨rfl, hb1⟩) | (go_at_call 158; refine (within_any _ _ _ _ _ _ _ _ _ _ _ _ _ _ _ _ _ _ _ _ _ _ _ _ _).mono ?_; rintro e w' ⟨rfl, hb2⟩))
 rename_i hH
 go_wp2
 go_ret
 exact ⟨rfl, HB.out.trans (hH.1.mono (by omega))⟩

theorem check_b0 (op rd rn rm ra imm cond : Int) (wide : Bool) (w : World) (hk : Th.known op rd ra = true) (hw : Th.within ⟨(Th.least op imm).op, (Th.least op imm).rd, (Th.least op imm).rn, (Th.least op imm).rm, (Th.least op imm).ra, (Th.least op imm).imm, (Th.least op imm).cond, (Th.least op imm).wide⟩ ⟨op, rd, rn, rm, ra, imm, cond, wide⟩ ⟨(Th.most op imm).op, (Th.most op imm).rd, (Th.most op imm).rn, (Th.most op imm).rm, (Th.most op imm).ra, (Th.most op imm).imm, (Th.most op imm).cond, (Th.most op imm).wide⟩ = true) (hr : Th.branch op = false) :
  Calls Tryz.prog 118 #[.agg #[.int .i64 op, .int .i64 rd, .int .i64 rn, .int .i64 rm, .int .i64 ra, .int .i64 imm, .int .i64 cond, .bool wide]] w fun e w' => e = .returned (.int .i64 0) ∧ Below w.heap.size w w' := by
 go_enter Tryz.func118, Tryz.ntmps118
 go_wp2_with (go_at_call 157; refine (greatest_any _ _ _ _ _ _ _ _ _).mono ?_; rintro e w1 ⟨rfl, hb⟩)
 have hz := hb.size
 simp at hz
 have HC := (ins_alloc w 123 op rd rn rm ra imm cond wide).below hb (by simp)
 have HC := HC.alloc (by omega) (.cells #[.int .i64 (Th.most op imm).op, .int .i64 (Th.most op imm).rd, .int .i64 (Th.most op imm).rn, .int .i64 (Th.most op imm).rm, .int .i64 (Th.most op imm).ra, .int .i64 (Th.most op imm).imm, .int .i64 (Th.most op imm).cond, .bool (Th.most op imm).wide] 123)
 have HD := ins_alloc w1 123 (Th.most op imm).op (Th.most op imm).rd (Th.most op imm).rn (Th.most op imm).rm (Th.most op imm).ra (Th.most op imm).imm (Th.most op imm).cond (Th.most op imm).wide
 have HB : Hid (Below w.heap.size w (w1.alloc (.cells #[.int .i64 (Th.most op imm).op, .int .i64 (Th.most op imm).rd, .int .i64 (Th.most op imm).rn, .int .i64 (Th.most op imm).rm, .int .i64 (Th.most op imm).ra, .int .i64 (Th.most op imm).imm, .int .i64 (Th.most op imm).cond, .bool (Th.most op imm).wide] 123))) :=
  ((Below.refl _ _).alloc (Nat.le_refl _) _).trans ((hb.mono (by simp)).alloc (by omega) _)
 have hs2 : w1.heap.size < (w1.alloc (.cells #[.int .i64 (Th.most op imm).op, .int .i64 (Th.most op imm).rd, .int .i64 (Th.most op imm).rn, .int .i64 (Th.most op imm).rm, .int .i64 (Th.most op imm).ra, .int .i64 (Th.most op imm).imm, .int .i64 (Th.most op imm).cond, .bool (Th.most op imm).wide] 123)).heap.size := by simp
 generalize w1.alloc (.cells #[.int .i64 (Th.most op imm).op, .int .i64 (Th.most op imm).rd, .int .i64 (Th.most op imm).rn, .int .i64 (Th.most op imm).rm, .int .i64 (Th.most op imm).ra, .int .i64 (Th.most op imm).imm, .int .i64 (Th.most op imm).cond, .bool (Th.most op imm).wide] 123) = W at *
 have hs1 : w.heap.size < W.heap.size := by omega
 clear hb hz
 generalize w1.heap.size = b at *
 generalize Value.agg #[.int .i64 op, _, _, _, _, _, _, _] = u0
 generalize Value.agg #[.int .i64 (Th.most op imm).op, _, _, _, _, _, _, _] = u1
 go_region_held3 (fun wx => Below W.heap.size W wx ∧ InsAt wx w.heap.size op rd rn rm ra imm cond wide ∧ InsAt wx b (Th.most op imm).op (Th.most op imm).rd (Th.most op imm).rn (Th.most op imm).rm (Th.most op imm).ra (Th.most op imm).imm (Th.most op imm).cond (Th.most op imm).wide)
  (first | exact ⟨(Below.refl _ _).drew, HC, HD⟩ | exact sx_step (by assumption) (by assumption) hs1 hs2)
  (first | (go_at_call 159; refine (least_any _ _ _ _ _ _ _ _ _).mono ?_; rintro e w' ⟨rfl, hb1⟩) | (go_at_call 158; refine (within_any _ _ _ _ _ _ _ _ _ _ _ _ _ _ _ _ _ _ _ _ _ _ _ _ _).mono ?_; rintro e w' ⟨rfl, hb2⟩))
 rename_i hH
 go_wp2_with (first | (go_at_call 147; refine (branches_any _ _).mono ?_; rintro e w' ⟨rfl, rfl⟩) | (go_at_call 160; refine (reaches_any _ _ _ _ _ _ _ _ _).mono ?_; rintro e w' ⟨rfl, hb3⟩))
 go_ret
 exact ⟨rfl, HB.out.trans (hH.1.mono (by omega))⟩

theorem check_r0 (op rd rn rm ra imm cond : Int) (wide : Bool) (w : World) (hk : Th.known op rd ra = true) (hw : Th.within ⟨(Th.least op imm).op, (Th.least op imm).rd, (Th.least op imm).rn, (Th.least op imm).rm, (Th.least op imm).ra, (Th.least op imm).imm, (Th.least op imm).cond, (Th.least op imm).wide⟩ ⟨op, rd, rn, rm, ra, imm, cond, wide⟩ ⟨(Th.most op imm).op, (Th.most op imm).rd, (Th.most op imm).rn, (Th.most op imm).rm, (Th.most op imm).ra, (Th.most op imm).imm, (Th.most op imm).cond, (Th.most op imm).wide⟩ = true) (hr : Th.branch op = true) (hx : Th.reaches op imm wide = false) :
  Calls Tryz.prog 118 #[.agg #[.int .i64 op, .int .i64 rd, .int .i64 rn, .int .i64 rm, .int .i64 ra, .int .i64 imm, .int .i64 cond, .bool wide]] w fun e w' => e = .returned (.int .i64 6) ∧ Below w.heap.size w w' := by
 go_enter Tryz.func118, Tryz.ntmps118
 go_wp2_with (go_at_call 157; refine (greatest_any _ _ _ _ _ _ _ _ _).mono ?_; rintro e w1 ⟨rfl, hb⟩)
 have hz := hb.size
 simp at hz
 have HC := (ins_alloc w 123 op rd rn rm ra imm cond wide).below hb (by simp)
 have HC := HC.alloc (by omega) (.cells #[.int .i64 (Th.most op imm).op, .int .i64 (Th.most op imm).rd, .int .i64 (Th.most op imm).rn, .int .i64 (Th.most op imm).rm, .int .i64 (Th.most op imm).ra, .int .i64 (Th.most op imm).imm, .int .i64 (Th.most op imm).cond, .bool (Th.most op imm).wide] 123)
 have HD := ins_alloc w1 123 (Th.most op imm).op (Th.most op imm).rd (Th.most op imm).rn (Th.most op imm).rm (Th.most op imm).ra (Th.most op imm).imm (Th.most op imm).cond (Th.most op imm).wide
 have HB : Hid (Below w.heap.size w (w1.alloc (.cells #[.int .i64 (Th.most op imm).op, .int .i64 (Th.most op imm).rd, .int .i64 (Th.most op imm).rn, .int .i64 (Th.most op imm).rm, .int .i64 (Th.most op imm).ra, .int .i64 (Th.most op imm).imm, .int .i64 (Th.most op imm).cond, .bool (Th.most op imm).wide] 123))) :=
  ((Below.refl _ _).alloc (Nat.le_refl _) _).trans ((hb.mono (by simp)).alloc (by omega) _)
 have hs2 : w1.heap.size < (w1.alloc (.cells #[.int .i64 (Th.most op imm).op, .int .i64 (Th.most op imm).rd, .int .i64 (Th.most op imm).rn, .int .i64 (Th.most op imm).rm, .int .i64 (Th.most op imm).ra, .int .i64 (Th.most op imm).imm, .int .i64 (Th.most op imm).cond, .bool (Th.most op imm).wide] 123)).heap.size := by simp
 generalize w1.alloc (.cells #[.int .i64 (Th.most op imm).op, .int .i64 (Th.most op imm).rd, .int .i64 (Th.most op imm).rn, .int .i64 (Th.most op imm).rm, .int .i64 (Th.most op imm).ra, .int .i64 (Th.most op imm).imm, .int .i64 (Th.most op imm).cond, .bool (Th.most op imm).wide] 123) = W at *
 have hs1 : w.heap.size < W.heap.size := by omega
 clear hb hz
 generalize w1.heap.size = b at *
 generalize Value.agg #[.int .i64 op, _, _, _, _, _, _, _] = u0
 generalize Value.agg #[.int .i64 (Th.most op imm).op, _, _, _, _, _, _, _] = u1
 go_region_held3 (fun wx => Below W.heap.size W wx ∧ InsAt wx w.heap.size op rd rn rm ra imm cond wide ∧ InsAt wx b (Th.most op imm).op (Th.most op imm).rd (Th.most op imm).rn (Th.most op imm).rm (Th.most op imm).ra (Th.most op imm).imm (Th.most op imm).cond (Th.most op imm).wide)
  (first | exact ⟨(Below.refl _ _).drew, HC, HD⟩ | exact sx_step (by assumption) (by assumption) hs1 hs2)
  (first | (go_at_call 159; refine (least_any _ _ _ _ _ _ _ _ _).mono ?_; rintro e w' ⟨rfl, hb1⟩) | (go_at_call 158; refine (within_any _ _ _ _ _ _ _ _ _ _ _ _ _ _ _ _ _ _ _ _ _ _ _ _ _).mono ?_; rintro e w' ⟨rfl, hb2⟩))
 rename_i hH
 go_wp2_with (first | (go_at_call 147; refine (branches_any _ _).mono ?_; rintro e w' ⟨rfl, rfl⟩) | (go_at_call 160; refine (reaches_any _ _ _ _ _ _ _ _ _).mono ?_; rintro e w' ⟨rfl, hb3⟩))
 go_ret
 have := hH.1.size
 exact ⟨rfl, (HB.out.trans (hH.1.mono (by omega))).trans (hb3.mono (by omega))⟩

theorem check_r1 (op rd rn rm ra imm cond : Int) (wide : Bool) (w : World) (hk : Th.known op rd ra = true) (hw : Th.within ⟨(Th.least op imm).op, (Th.least op imm).rd, (Th.least op imm).rn, (Th.least op imm).rm, (Th.least op imm).ra, (Th.least op imm).imm, (Th.least op imm).cond, (Th.least op imm).wide⟩ ⟨op, rd, rn, rm, ra, imm, cond, wide⟩ ⟨(Th.most op imm).op, (Th.most op imm).rd, (Th.most op imm).rn, (Th.most op imm).rm, (Th.most op imm).ra, (Th.most op imm).imm, (Th.most op imm).cond, (Th.most op imm).wide⟩ = true) (hr : Th.branch op = true) (hx : Th.reaches op imm wide = true) :
  Calls Tryz.prog 118 #[.agg #[.int .i64 op, .int .i64 rd, .int .i64 rn, .int .i64 rm, .int .i64 ra, .int .i64 imm, .int .i64 cond, .bool wide]] w fun e w' => e = .returned (.int .i64 0) ∧ Below w.heap.size w w' := by
 go_enter Tryz.func118, Tryz.ntmps118
 go_wp2_with (go_at_call 157; refine (greatest_any _ _ _ _ _ _ _ _ _).mono ?_; rintro e w1 ⟨rfl, hb⟩)
 have hz := hb.size
 simp at hz
 have HC := (ins_alloc w 123 op rd rn rm ra imm cond wide).below hb (by simp)
 have HC := HC.alloc (by omega) (.cells #[.int .i64 (Th.most op imm).op, .int .i64 (Th.most op imm).rd, .int .i64 (Th.most op imm).rn, .int .i64 (Th.most op imm).rm, .int .i64 (Th.most op imm).ra, .int .i64 (Th.most op imm).imm, .int .i64 (Th.most op imm).cond, .bool (Th.most op imm).wide] 123)
 have HD := ins_alloc w1 123 (Th.most op imm).op (Th.most op imm).rd (Th.most op imm).rn (Th.most op imm).rm (Th.most op imm).ra (Th.most op imm).imm (Th.most op imm).cond (Th.most op imm).wide
 have HB : Hid (Below w.heap.size w (w1.alloc (.cells #[.int .i64 (Th.most op imm).op, .int .i64 (Th.most op imm).rd, .int .i64 (Th.most op imm).rn, .int .i64 (Th.most op imm).rm, .int .i64 (Th.most op imm).ra, .int .i64 (Th.most op imm).imm, .int .i64 (Th.most op imm).cond, .bool (Th.most op imm).wide] 123))) :=
  ((Below.refl _ _).alloc (Nat.le_refl _) _).trans ((hb.mono (by simp)).alloc (by omega) _)
 have hs2 : w1.heap.size < (w1.alloc (.cells #[.int .i64 (Th.most op imm).op, .int .i64 (Th.most op imm).rd, .int .i64 (Th.most op imm).rn, .int .i64 (Th.most op imm).rm, .int .i64 (Th.most op imm).ra, .int .i64 (Th.most op imm).imm, .int .i64 (Th.most op imm).cond, .bool (Th.most op imm).wide] 123)).heap.size := by simp
 generalize w1.alloc (.cells #[.int .i64 (Th.most op imm).op, .int .i64 (Th.most op imm).rd, .int .i64 (Th.most op imm).rn, .int .i64 (Th.most op imm).rm, .int .i64 (Th.most op imm).ra, .int .i64 (Th.most op imm).imm, .int .i64 (Th.most op imm).cond, .bool (Th.most op imm).wide] 123) = W at *
 have hs1 : w.heap.size < W.heap.size := by omega
 clear hb hz
 generalize w1.heap.size = b at *
 generalize Value.agg #[.int .i64 op, _, _, _, _, _, _, _] = u0
 generalize Value.agg #[.int .i64 (Th.most op imm).op, _, _, _, _, _, _, _] = u1
 go_region_held3 (fun wx => Below W.heap.size W wx ∧ InsAt wx w.heap.size op rd rn rm ra imm cond wide ∧ InsAt wx b (Th.most op imm).op (Th.most op imm).rd (Th.most op imm).rn (Th.most op imm).rm (Th.most op imm).ra (Th.most op imm).imm (Th.most op imm).cond (Th.most op imm).wide)
  (first | exact ⟨(Below.refl _ _).drew, HC, HD⟩ | exact sx_step (by assumption) (by assumption) hs1 hs2)
  (first | (go_at_call 159; refine (least_any _ _ _ _ _ _ _ _ _).mono ?_; rintro e w' ⟨rfl, hb1⟩) | (go_at_call 158; refine (within_any _ _ _ _ _ _ _ _ _ _ _ _ _ _ _ _ _ _ _ _ _ _ _ _ _).mono ?_; rintro e w' ⟨rfl, hb2⟩))
 rename_i hH
 go_wp2_with (first | (go_at_call 147; refine (branches_any _ _).mono ?_; rintro e w' ⟨rfl, rfl⟩) | (go_at_call 160; refine (reaches_any _ _ _ _ _ _ _ _ _).mono ?_; rintro e w' ⟨rfl, hb3⟩))
 go_ret
 have := hH.1.size
 exact ⟨rfl, (HB.out.trans (hH.1.mono (by omega))).trans (hb3.mono (by omega))⟩

theorem check_any (op rd rn rm ra imm cond : Int) (wide : Bool) (w : World) :
  Calls Tryz.prog 118 #[.agg #[.int .i64 op, .int .i64 rd, .int .i64 rn, .int .i64 rm, .int .i64 ra, .int .i64 imm, .int .i64 cond, .bool wide]] w fun e w' => e = .returned (.int .i64 (Th.check ⟨op, rd, rn, rm, ra, imm, cond, wide⟩)) ∧ Below w.heap.size w w' := by
 cases hk : Th.known op rd ra
 ·rw [show Th.check ⟨op, rd, rn, rm, ra, imm, cond, wide⟩ = 2 by simp [Th.check, Th.fits, hk]]
  exact check_k0 _ _ _ _ _ _ _ _ w hk
 cases hw : Th.within ⟨(Th.least op imm).op, (Th.least op imm).rd, (Th.least op imm).rn, (Th.least op imm).rm, (Th.least op imm).ra, (Th.least op imm).imm, (Th.least op imm).cond, (Th.least op imm).wide⟩ ⟨op, rd, rn, rm, ra, imm, cond, wide⟩ ⟨(Th.most op imm).op, (Th.most op imm).rd, (Th.most op imm).rn, (Th.most op imm).rm, (Th.most op imm).ra, (Th.most op imm).imm, (Th.most op imm).cond, (Th.most op imm).wide⟩
 ·rw [show Th.check ⟨op, rd, rn, rm, ra, imm, cond, wide⟩ = 2 by simp [Th.check, Th.fits, hw]]
  exact check_w0 _ _ _ _ _ _ _ _ w hk hw
 cases hr : Th.branch op
 ·rw [show Th.check ⟨op, rd, rn, rm, ra, imm, cond, wide⟩ = 0 by simp [Th.check, Th.fits, hk, hw, hr]]
  exact check_b0 _ _ _ _ _ _ _ _ w hk hw hr
 cases hx : Th.reaches op imm wide
 ·rw [show Th.check ⟨op, rd, rn, rm, ra, imm, cond, wide⟩ = 6 by simp [Th.check, Th.fits, hk, hw, hr, hx]]
  exact check_r0 _ _ _ _ _ _ _ _ w hk hw hr hx
 ·rw [show Th.check ⟨op, rd, rn, rm, ra, imm, cond, wide⟩ = 0 by simp [Th.check, Th.fits, hk, hw, hr, hx]]
  exact check_r1 _ _ _ _ _ _ _ _ w hk hw hr hx

theorem size_any (op rd rn rm ra imm cond : Int) (wide : Bool) (w : World) :
  Calls Tryz.prog 115 #[.agg #[.int .i64 op, .int .i64 rd, .int .i64 rn, .int .i64 rm, .int .i64 ra, .int .i64 imm, .int .i64 cond, .bool wide]] w fun e w' => e = .returned (.int .i64 (Th.size ⟨op, rd, rn, rm, ra, imm, cond, wide⟩)) ∧ Below w.heap.size w w' := by
 by_cases h0 : Th.check ⟨op, rd, rn, rm, ra, imm, cond, wide⟩ = 0
 ·have h1 : (Th.check ⟨op, rd, rn, rm, ra, imm, cond, wide⟩ != 0) = false := by simp [h0]
  have H0 := Lib.hid h0
  clear h0
  go_enter Tryz.func115, Tryz.ntmps115
  go_wp2_with (first | (go_at_call 118; refine (check_any _ _ _ _ _ _ _ _ _).mono ?_; rintro e w' ⟨rfl, hb⟩; obtain ⟨hc, hf⟩ := bcell hb; have hz := hb.size; simp at hz) | (go_at_call 147; refine (branches_any _ _).mono ?_; rintro e w' ⟨rfl, rfl⟩))
  all_goals
   go_ret
   refine ⟨ret_int ?_, ((Below.refl _ _).alloc (Nat.le_refl _) _).trans (hb.mono (by simp))⟩
   have h0 := H0.out
   clear hc hf hb h1
   simp [Th.size, Th.short, *]
 ·have h1 : (Th.check ⟨op, rd, rn, rm, ra, imm, cond, wide⟩ != 0) = true := by simp [h0]
  have H0 := Lib.hid h0
  clear h0
  go_enter Tryz.func115, Tryz.ntmps115
  go_wp2_with (go_at_call 118; refine (check_any _ _ _ _ _ _ _ _ _).mono ?_; rintro e w' ⟨rfl, hb⟩; obtain ⟨hc, hf⟩ := bcell hb; have hz := hb.size; simp at hz)
  go_ret
  refine ⟨ret_int ?_, ((Below.refl _ _).alloc (Nat.le_refl _) _).trans (hb.mono (by simp))⟩
  simp [Th.size, H0.out]
end Go.Proofs.YthciobjklhkkcaaGreat
end
section
namespace Go.Proofs.YthciobjklhkkcaaGreat
open Go.ChangeShapes Go.WideShapes Go.ChangeAt Go.RowKit
set_option maxHeartbeats 8000000
set_option maxRecDepth 100000
set_option linter.unusedVariables false

theorem Im.tmod2 (a : Int) : Int.tmod a 2 = 0 ↔ a % 2 = 0 := by
 rw [← Int.dvd_iff_tmod_eq_zero, Int.dvd_iff_emod_eq_zero]
theorem starts_any (a n : Int) (w : World) :
  Calls Tryz.prog 76 #[.int .i64 a, .int .i64 n] w fun e w' => e = .returned (.bool (Im.start a n)) ∧ w = w' := by
 by_cases h0 : Int.tmod a 2 = 0
 ·by_cases h1 : 64 ≤ a
  ·by_cases h2 : a < n
   ·have He : Hid (true = Im.start a n) := Lib.hid (by unfold Im.start; rw [decide_eq_true ⟨(Im.tmod2 a).1 h0, h1, h2⟩])
    go_enter Tryz.func76, Tryz.ntmps76
    go_wp2
    go_ret
    exact ⟨ret_bool He.out, rfl⟩
   ·have He : Hid (false = Im.start a n) := Lib.hid (by unfold Im.start; rw [decide_eq_false (fun h => h2 h.2.2)])
    go_enter Tryz.func76, Tryz.ntmps76
    go_wp2
    go_ret
    exact ⟨ret_bool He.out, rfl⟩
  ·have He : Hid (false = Im.start a n) := Lib.hid (by unfold Im.start; rw [decide_eq_false (fun h => h1 h.2.1)])
   go_enter Tryz.func76, Tryz.ntmps76
   go_wp2
   go_ret
   exact ⟨ret_bool He.out, rfl⟩
 ·have He : Hid (false = Im.start a n) := Lib.hid (by unfold Im.start; rw [decide_eq_false (fun h => h0 ((Im.tmod2 a).2 h.1))])
  go_enter Tryz.func76, Tryz.ntmps76
  go_wp2
  go_ret
  exact ⟨ret_bool He.out, rfl⟩
theorem place_any (a n : Int) (w : World) :
  Calls Tryz.prog 38 #[.int .i64 a, .int .i64 n] w fun e w' => e = .returned (.bool (Im.start a n)) ∧ w = w' := by
 by_cases h0 : 64 ≤ a
 ·by_cases h1 : a < n
  ·have He : Hid ((a % 2 == 0) = Im.start a n) := Lib.hid (by unfold Im.start; by_cases h : a % 2 = 0 <;> simp [h, h0, h1])
   go_enter Tryz.func38, Tryz.ntmps38
   go_wp2
   go_ret
   exact ⟨ret_bool He.out, rfl⟩
  ·have He : Hid (false = Im.start a n) := Lib.hid (by unfold Im.start; rw [decide_eq_false (fun h => h1 h.2.2)])
   go_enter Tryz.func38, Tryz.ntmps38
   go_wp2
   go_ret
   exact ⟨ret_bool He.out, rfl⟩
 ·have He : Hid (false = Im.start a n) := Lib.hid (by unfold Im.start; rw [decide_eq_false (fun h => h0 h.2.1)])
  go_enter Tryz.func38, Tryz.ntmps38
  go_wp2
  go_ret
  exact ⟨ret_bool He.out, rfl⟩
theorem Im.err_bad {x : Im.Hd} {n : Int} (h : ¬ Mm.err x.i x.o x.l n = 0) : Im.err x n = Mm.err x.i x.o x.l n := by unfold Im.err; rw [if_neg h]
theorem Im.err_arg {x : Im.Hd} {n : Int} (h : Mm.err x.i x.o x.l n = 0) (g : ¬ (0 ≤ x.m ∧ x.m ≤ 2 ∧ Im.start x.r n = true ∧ Im.start x.h n = true)) : Im.err x n = 2 := by unfold Im.err; rw [if_pos h, if_neg g]
theorem Im.err_good {x : Im.Hd} {n : Int} (h : Mm.err x.i x.o x.l n = 0) (g : 0 ≤ x.m ∧ x.m ≤ 2 ∧ Im.start x.r n = true ∧ Im.start x.h n = true) : Im.err x n = 0 := by unfold Im.err; rw [if_pos h, if_pos g]
theorem Im.check_lit (i o r f E : Int) (w : World) (h : Hid (Mm.err i o r f = E)) :
  Calls Tryz.prog 75 #[.agg #[.int .i64 i, .int .i64 o, .int .i64 r], .int .i64 f] w fun e w' => e = .returned (.int .i64 E) ∧ Below w.heap.size w w' := by
 have := mcheck_any i o r f w
 rw [h.out] at this
 exact this
/-- a head's cells in a block -/
abbrev Im.HdAt (W : World) (b : Nat) (r h i o l m : Int) : Prop := W.cell? ⟨b, 0, none⟩ = some (.int .i64 r) ∧ W.cell? ⟨b, 1, none⟩ = some (.int .i64 h) ∧ W.cell? ⟨b, 2, none⟩ = some (.int .i64 i) ∧ W.cell? ⟨b, 3, none⟩ = some (.int .i64 o) ∧ W.cell? ⟨b, 4, none⟩ = some (.int .i64 l) ∧ W.cell? ⟨b, 5, none⟩ = some (.int .i64 m)
theorem Im.HdAt.kept {W W' : World} {b : Nat} {r h i o l m : Int} (hc : Im.HdAt W b r h i o l m) (hb : Below W.heap.size W W') : Im.HdAt W' b r h i o l m := by
 have hlt : b < W.heap.size := cell_lt hc.1
 obtain ⟨h0, h1, h2, h3, h4, h5⟩ := hc
 refine ⟨?_, ?_, ?_, ?_, ?_, ?_⟩ <;> (rw [hb.cell (by exact hlt)]; assumption)
theorem Im.HdAt.new (w : World) (r h i o l m : Int) (t : TypeId) : Im.HdAt (w.alloc (.cells #[.int .i64 r, .int .i64 h, .int .i64 i, .int .i64 o, .int .i64 l, .int .i64 m] t)) w.heap.size r h i o l m := by
 refine ⟨?_, ?_, ?_, ?_, ?_, ?_⟩ <;> simp
theorem icheck_any (r h i o l m n : Int) (w : World) :
  Calls Tryz.prog 48 #[.agg #[.int .i64 r, .int .i64 h, .int .i64 i, .int .i64 o, .int .i64 l, .int .i64 m], .int .i64 n] w fun e w' => e = .returned (.int .i64 (Im.err ⟨r, h, i, o, l, m⟩ n)) ∧ Below w.heap.size w w' := by
 obtain ⟨E, hE⟩ : ∃ E, Mm.err i o l n = E := ⟨_, rfl⟩
 have HM := Lib.hid hE
 by_cases hz : E = 0
 ·subst hz
  clear hE
  by_cases hm0 : m < 0
  ·rw [Im.err_arg (x := ⟨r, h, i, o, l, m⟩) HM.out (fun g => by have := g.1; dsimp only at this; omega)]
   go_enter Tryz.func48, Tryz.ntmps48
   go_wp2_with (first | (go_at_call 75; refine (Im.check_lit _ _ _ _ _ _ HM).mono ?_; rintro e w1 ⟨rfl, hb1⟩; have HC := Lib.hid ((Im.HdAt.new w r h i o l m 84).kept hb1); obtain ⟨c0, c1, c2, c3, c4, c5⟩ := HC.out; have HB := Lib.hid (((Below.refl w.heap.size w).alloc (Nat.le_refl _) _).trans (hb1.mono (by simp))); clear hb1) | (go_at_call 76; refine (starts_any _ _ _).mono ?_; rintro e w2 ⟨rfl, rfl⟩))
   go_ret
   exact ⟨rfl, HB.out⟩
  ·by_cases hm1 : 3 ≤ m
   ·rw [Im.err_arg (x := ⟨r, h, i, o, l, m⟩) HM.out (fun g => by have := g.2.1; dsimp only at this; omega)]
    go_enter Tryz.func48, Tryz.ntmps48
    go_wp2_with (first | (go_at_call 75; refine (Im.check_lit _ _ _ _ _ _ HM).mono ?_; rintro e w1 ⟨rfl, hb1⟩; have HC := Lib.hid ((Im.HdAt.new w r h i o l m 84).kept hb1); obtain ⟨c0, c1, c2, c3, c4, c5⟩ := HC.out; have HB := Lib.hid (((Below.refl w.heap.size w).alloc (Nat.le_refl _) _).trans (hb1.mono (by simp))); clear hb1) | (go_at_call 76; refine (starts_any _ _ _).mono ?_; rintro e w2 ⟨rfl, rfl⟩))
    go_ret
    exact ⟨rfl, HB.out⟩
   ·cases hs : Im.start r n with
    | false =>
     rw [Im.err_arg (x := ⟨r, h, i, o, l, m⟩) HM.out (fun g => by have := g.2.2.1; dsimp only at this; rw [hs] at this; cases this)]
     go_enter Tryz.func48, Tryz.ntmps48
     go_wp2_with (first | (go_at_call 75; refine (Im.check_lit _ _ _ _ _ _ HM).mono ?_; rintro e w1 ⟨rfl, hb1⟩; have HC := Lib.hid ((Im.HdAt.new w r h i o l m 84).kept hb1); obtain ⟨c0, c1, c2, c3, c4, c5⟩ := HC.out; have HB := Lib.hid (((Below.refl w.heap.size w).alloc (Nat.le_refl _) _).trans (hb1.mono (by simp))); clear hb1) | (go_at_call 76; refine (starts_any _ _ _).mono ?_; rintro e w2 ⟨rfl, rfl⟩))
     go_ret
     exact ⟨rfl, HB.out⟩
    | true =>
     cases hh : Im.start h n with
     | false =>
      rw [Im.err_arg (x := ⟨r, h, i, o, l, m⟩) HM.out (fun g => by have := g.2.2.2; dsimp only at this; rw [hh] at this; cases this)]
      go_enter Tryz.func48, Tryz.ntmps48
      go_wp2_with (first | (go_at_call 75; refine (Im.check_lit _ _ _ _ _ _ HM).mono ?_; rintro e w1 ⟨rfl, hb1⟩; have HC := Lib.hid ((Im.HdAt.new w r h i o l m 84).kept hb1); obtain ⟨c0, c1, c2, c3, c4, c5⟩ := HC.out; have HB := Lib.hid (((Below.refl w.heap.size w).alloc (Nat.le_refl _) _).trans (hb1.mono (by simp))); clear hb1) | (go_at_call 76; refine (starts_any _ _ _).mono ?_; rintro e w2 ⟨rfl, rfl⟩))
      go_ret
      exact ⟨rfl, HB.out⟩
     | true =>
      rw [Im.err_good (x := ⟨r, h, i, o, l, m⟩) HM.out ⟨by dsimp only; omega, by dsimp only; omega, hs, hh⟩]
      go_enter Tryz.func48, Tryz.ntmps48
      go_wp2_with (first | (go_at_call 75; refine (Im.check_lit _ _ _ _ _ _ HM).mono ?_; rintro e w1 ⟨rfl, hb1⟩; have HC := Lib.hid ((Im.HdAt.new w r h i o l m 84).kept hb1); obtain ⟨c0, c1, c2, c3, c4, c5⟩ := HC.out; have HB := Lib.hid (((Below.refl w.heap.size w).alloc (Nat.le_refl _) _).trans (hb1.mono (by simp))); clear hb1) | (go_at_call 76; refine (starts_any _ _ _).mono ?_; rintro e w2 ⟨rfl, rfl⟩))
      go_ret
      exact ⟨rfl, HB.out⟩
 ·rw [Im.err_bad (x := ⟨r, h, i, o, l, m⟩) (by rw [HM.out]; exact hz), show Mm.err (⟨r, h, i, o, l, m⟩ : Im.Hd).i (⟨r, h, i, o, l, m⟩ : Im.Hd).o (⟨r, h, i, o, l, m⟩ : Im.Hd).l n = E from HM.out]
  clear hE
  go_enter Tryz.func48, Tryz.ntmps48
  go_wp2_with (first | (go_at_call 75; refine (Im.check_lit _ _ _ _ _ _ HM).mono ?_; rintro e w1 ⟨rfl, hb1⟩; have HC := Lib.hid ((Im.HdAt.new w r h i o l m 84).kept hb1); obtain ⟨c0, c1, c2, c3, c4, c5⟩ := HC.out; have HB := Lib.hid (((Below.refl w.heap.size w).alloc (Nat.le_refl _) _).trans (hb1.mono (by simp))); clear hb1) | (go_at_call 76; refine (starts_any _ _ _).mono ?_; rintro e w2 ⟨rfl, rfl⟩))
  go_ret
  exact ⟨rfl, HB.out⟩
theorem field_any (r h i o l m : Int) (k : Nat) (w : World) (hk : k < 16) (hr : r ≤ 1000000) (hr0 : 0 ≤ r) (hh : h ≤ 1000000) (hh0 : 0 ≤ h) :
  Calls Tryz.prog 79 #[.agg #[.int .i64 r, .int .i64 h, .int .i64 i, .int .i64 o, .int .i64 l, .int .i64 m], .int .i64 k] w fun e w' => e = .returned (.int .i64 (Im.field ⟨r, h, i, o, l, m⟩ k)) ∧ Below w.heap.size w w' := by
 rcases (by omega : k = 0 ∨ k = 1 ∨ k = 2 ∨ k = 3 ∨ k = 4 ∨ k = 5 ∨ k = 6 ∨ k = 7 ∨ k = 8 ∨ k = 9 ∨ k = 10 ∨ k = 11 ∨ k = 12 ∨ k = 13 ∨ k = 14 ∨ k = 15) with rfl | rfl | rfl | rfl | rfl | rfl | rfl | rfl | rfl | rfl | rfl | rfl | rfl | rfl | rfl | rfl
 all_goals
  go_enter Tryz.func79, Tryz.ntmps79
  go_wp2
  go_ret
  exact ⟨rfl, by go_grown⟩
end Go.Proofs.YthciobjklhkkcaaGreat
end
