/-
  What package thumb's reaches, Check and Size return.
-/
import Derived.Test.YtennhpfhgbmnfaaThumbS
import Derived.Test.YtennhpfhgbmnfaaThumbW
namespace Go.Proofs.Ytennhpfhgbmnfaa
open Go.ChangeShapes Go.WideShapes Go.ChangeAt Go.RowKit

theorem below_drewK {B : Nat} {a w : World} (h : Below B a w) (n : Nat) : Below B a (w.drewN n) := h.trans ⟨rfl, rfl, rfl, Nat.le_refl _, fun _ _ => rfl⟩
theorem tmod_two (n : Int) : (n.tmod 2 == 0) = (n % 2 == 0) := by
  rw [Bool.eq_iff_iff]; simp [Int.tmod_eq_emod]; split <;> omega

set_option maxHeartbeats 1000000 in
theorem reaches_any (op rd rn rm ra imm cond : Int) (wide : Bool) (w : World) :
    Calls Try.prog 42 #[.agg #[.int .i64 op, .int .i64 rd, .int .i64 rn, .int .i64 rm, .int .i64 ra, .int .i64 imm, .int .i64 cond, .bool wide]] w fun e w' => e = .returned (.bool (Th.reaches op imm wide)) ∧ Below w.heap.size w w' := by
  go_enter Try.func42, Try.ntmps42
  go_wp2_with (go_at_call 69; refine (reach_any _ _ _).mono ?_; rintro e w' ⟨rfl, rfl⟩)
  all_goals
    go_ret
    refine ⟨ret_bool ?_, by go_grown⟩
    first | (simp [Th.reaches, tmod_two, *]; done) | (simp [Th.reaches]; omega)

theorem sx_step {W w1 w2 : World} {b c : Nat} {op rd rn rm ra imm cond : Int} {wide : Bool} {op' rd' rn' rm' ra' imm' cond' : Int} {wide' : Bool}
    (h : Below W.heap.size W w1 ∧ InsAt w1 b op rd rn rm ra imm cond wide ∧ InsAt w1 c op' rd' rn' rm' ra' imm' cond' wide') (hb : Below w1.heap.size w1 w2) (h1 : b < W.heap.size) (h2 : c < W.heap.size) :
    Below W.heap.size W w2 ∧ InsAt w2 b op rd rn rm ra imm cond wide ∧ InsAt w2 c op' rd' rn' rm' ra' imm' cond' wide' := by
  obtain ⟨h0, g1, g2⟩ := h
  have := h0.size
  exact ⟨h0.trans (hb.mono h0.size), g1.below hb (by omega), g2.below hb (by omega)⟩
set_option maxHeartbeats 4000000 in
theorem check_k0 (op rd rn rm ra imm cond : Int) (wide : Bool) (w : World) (hk : Th.known op rd ra = false) :
    Calls Try.prog 18 #[.agg #[.int .i64 op, .int .i64 rd, .int .i64 rn, .int .i64 rm, .int .i64 ra, .int .i64 imm, .int .i64 cond, .bool wide]] w fun e w' => e = .returned (.int .i64 2) ∧ Below w.heap.size w w' := by
  go_enter Try.func18, Try.ntmps18
  go_wp2_with (go_at_call 38; refine (greatest_any _ _ _ _ _ _ _ _ _).mono ?_; rintro e w1 ⟨rfl, hb⟩)
  have hz := hb.size
  simp at hz
  have HC := (ins_alloc w 26 op rd rn rm ra imm cond wide).below hb (by simp)
  have HC := HC.alloc (by omega) (.cells #[.int .i64 (Th.most op imm).op, .int .i64 (Th.most op imm).rd, .int .i64 (Th.most op imm).rn, .int .i64 (Th.most op imm).rm, .int .i64 (Th.most op imm).ra, .int .i64 (Th.most op imm).imm, .int .i64 (Th.most op imm).cond, .bool (Th.most op imm).wide] 26)
  have HD := ins_alloc w1 26 (Th.most op imm).op (Th.most op imm).rd (Th.most op imm).rn (Th.most op imm).rm (Th.most op imm).ra (Th.most op imm).imm (Th.most op imm).cond (Th.most op imm).wide
  have HB : Hid (Below w.heap.size w (w1.alloc (.cells #[.int .i64 (Th.most op imm).op, .int .i64 (Th.most op imm).rd, .int .i64 (Th.most op imm).rn, .int .i64 (Th.most op imm).rm, .int .i64 (Th.most op imm).ra, .int .i64 (Th.most op imm).imm, .int .i64 (Th.most op imm).cond, .bool (Th.most op imm).wide] 26))) :=
    ((Below.refl _ _).alloc (Nat.le_refl _) _).trans ((hb.mono (by simp)).alloc (by omega) _)
  have hs2 : w1.heap.size < (w1.alloc (.cells #[.int .i64 (Th.most op imm).op, .int .i64 (Th.most op imm).rd, .int .i64 (Th.most op imm).rn, .int .i64 (Th.most op imm).rm, .int .i64 (Th.most op imm).ra, .int .i64 (Th.most op imm).imm, .int .i64 (Th.most op imm).cond, .bool (Th.most op imm).wide] 26)).heap.size := by simp
  generalize w1.alloc (.cells #[.int .i64 (Th.most op imm).op, .int .i64 (Th.most op imm).rd, .int .i64 (Th.most op imm).rn, .int .i64 (Th.most op imm).rm, .int .i64 (Th.most op imm).ra, .int .i64 (Th.most op imm).imm, .int .i64 (Th.most op imm).cond, .bool (Th.most op imm).wide] 26) = W at *
  have hs1 : w.heap.size < W.heap.size := by omega
  clear hb hz
  generalize w1.heap.size = b at *
  generalize Value.agg #[.int .i64 op, _, _, _, _, _, _, _] = u0
  generalize Value.agg #[.int .i64 (Th.most op imm).op, _, _, _, _, _, _, _] = u1
  go_quiet (fail)
  go_wp2
  go_ret
  exact ⟨rfl, below_drewK HB.out _⟩

set_option maxHeartbeats 4000000 in
theorem check_w0 (op rd rn rm ra imm cond : Int) (wide : Bool) (w : World) (hk : Th.known op rd ra = true) (hw : Th.within ⟨(Th.least op imm).op, (Th.least op imm).rd, (Th.least op imm).rn, (Th.least op imm).rm, (Th.least op imm).ra, (Th.least op imm).imm, (Th.least op imm).cond, (Th.least op imm).wide⟩ ⟨op, rd, rn, rm, ra, imm, cond, wide⟩ ⟨(Th.most op imm).op, (Th.most op imm).rd, (Th.most op imm).rn, (Th.most op imm).rm, (Th.most op imm).ra, (Th.most op imm).imm, (Th.most op imm).cond, (Th.most op imm).wide⟩ = false) :
    Calls Try.prog 18 #[.agg #[.int .i64 op, .int .i64 rd, .int .i64 rn, .int .i64 rm, .int .i64 ra, .int .i64 imm, .int .i64 cond, .bool wide]] w fun e w' => e = .returned (.int .i64 2) ∧ Below w.heap.size w w' := by
  go_enter Try.func18, Try.ntmps18
  go_wp2_with (go_at_call 38; refine (greatest_any _ _ _ _ _ _ _ _ _).mono ?_; rintro e w1 ⟨rfl, hb⟩)
  have hz := hb.size
  simp at hz
  have HC := (ins_alloc w 26 op rd rn rm ra imm cond wide).below hb (by simp)
  have HC := HC.alloc (by omega) (.cells #[.int .i64 (Th.most op imm).op, .int .i64 (Th.most op imm).rd, .int .i64 (Th.most op imm).rn, .int .i64 (Th.most op imm).rm, .int .i64 (Th.most op imm).ra, .int .i64 (Th.most op imm).imm, .int .i64 (Th.most op imm).cond, .bool (Th.most op imm).wide] 26)
  have HD := ins_alloc w1 26 (Th.most op imm).op (Th.most op imm).rd (Th.most op imm).rn (Th.most op imm).rm (Th.most op imm).ra (Th.most op imm).imm (Th.most op imm).cond (Th.most op imm).wide
  have HB : Hid (Below w.heap.size w (w1.alloc (.cells #[.int .i64 (Th.most op imm).op, .int .i64 (Th.most op imm).rd, .int .i64 (Th.most op imm).rn, .int .i64 (Th.most op imm).rm, .int .i64 (Th.most op imm).ra, .int .i64 (Th.most op imm).imm, .int .i64 (Th.most op imm).cond, .bool (Th.most op imm).wide] 26))) :=
    ((Below.refl _ _).alloc (Nat.le_refl _) _).trans ((hb.mono (by simp)).alloc (by omega) _)
  have hs2 : w1.heap.size < (w1.alloc (.cells #[.int .i64 (Th.most op imm).op, .int .i64 (Th.most op imm).rd, .int .i64 (Th.most op imm).rn, .int .i64 (Th.most op imm).rm, .int .i64 (Th.most op imm).ra, .int .i64 (Th.most op imm).imm, .int .i64 (Th.most op imm).cond, .bool (Th.most op imm).wide] 26)).heap.size := by simp
  generalize w1.alloc (.cells #[.int .i64 (Th.most op imm).op, .int .i64 (Th.most op imm).rd, .int .i64 (Th.most op imm).rn, .int .i64 (Th.most op imm).rm, .int .i64 (Th.most op imm).ra, .int .i64 (Th.most op imm).imm, .int .i64 (Th.most op imm).cond, .bool (Th.most op imm).wide] 26) = W at *
  have hs1 : w.heap.size < W.heap.size := by omega
  clear hb hz
  generalize w1.heap.size = b at *
  generalize Value.agg #[.int .i64 op, _, _, _, _, _, _, _] = u0
  generalize Value.agg #[.int .i64 (Th.most op imm).op, _, _, _, _, _, _, _] = u1
  go_region_held3 (fun wx => Below W.heap.size W wx ∧ InsAt wx w.heap.size op rd rn rm ra imm cond wide ∧ InsAt wx b (Th.most op imm).op (Th.most op imm).rd (Th.most op imm).rn (Th.most op imm).rm (Th.most op imm).ra (Th.most op imm).imm (Th.most op imm).cond (Th.most op imm).wide)
    (first | exact ⟨(Below.refl _ _).drew, HC, HD⟩ | exact sx_step (by assumption) (by assumption) hs1 hs2)
    (first | (go_at_call 40; refine (least_any _ _ _ _ _ _ _ _ _).mono ?_; rintro e w' ⟨rfl, hb1⟩) | (go_at_call 39; refine (within_any _ _ _ _ _ _ _ _ _ _ _ _ _ _ _ _ _ _ _ _ _ _ _ _ _).mono ?_; rintro e w' ⟨rfl, hb2⟩))
  rename_i hH
  go_wp2
  go_ret
  exact ⟨rfl, HB.out.trans (hH.1.mono (by omega))⟩

set_option maxHeartbeats 4000000 in
theorem check_b0 (op rd rn rm ra imm cond : Int) (wide : Bool) (w : World) (hk : Th.known op rd ra = true) (hw : Th.within ⟨(Th.least op imm).op, (Th.least op imm).rd, (Th.least op imm).rn, (Th.least op imm).rm, (Th.least op imm).ra, (Th.least op imm).imm, (Th.least op imm).cond, (Th.least op imm).wide⟩ ⟨op, rd, rn, rm, ra, imm, cond, wide⟩ ⟨(Th.most op imm).op, (Th.most op imm).rd, (Th.most op imm).rn, (Th.most op imm).rm, (Th.most op imm).ra, (Th.most op imm).imm, (Th.most op imm).cond, (Th.most op imm).wide⟩ = true) (hr : Th.branch op = false) :
    Calls Try.prog 18 #[.agg #[.int .i64 op, .int .i64 rd, .int .i64 rn, .int .i64 rm, .int .i64 ra, .int .i64 imm, .int .i64 cond, .bool wide]] w fun e w' => e = .returned (.int .i64 0) ∧ Below w.heap.size w w' := by
  go_enter Try.func18, Try.ntmps18
  go_wp2_with (go_at_call 38; refine (greatest_any _ _ _ _ _ _ _ _ _).mono ?_; rintro e w1 ⟨rfl, hb⟩)
  have hz := hb.size
  simp at hz
  have HC := (ins_alloc w 26 op rd rn rm ra imm cond wide).below hb (by simp)
  have HC := HC.alloc (by omega) (.cells #[.int .i64 (Th.most op imm).op, .int .i64 (Th.most op imm).rd, .int .i64 (Th.most op imm).rn, .int .i64 (Th.most op imm).rm, .int .i64 (Th.most op imm).ra, .int .i64 (Th.most op imm).imm, .int .i64 (Th.most op imm).cond, .bool (Th.most op imm).wide] 26)
  have HD := ins_alloc w1 26 (Th.most op imm).op (Th.most op imm).rd (Th.most op imm).rn (Th.most op imm).rm (Th.most op imm).ra (Th.most op imm).imm (Th.most op imm).cond (Th.most op imm).wide
  have HB : Hid (Below w.heap.size w (w1.alloc (.cells #[.int .i64 (Th.most op imm).op, .int .i64 (Th.most op imm).rd, .int .i64 (Th.most op imm).rn, .int .i64 (Th.most op imm).rm, .int .i64 (Th.most op imm).ra, .int .i64 (Th.most op imm).imm, .int .i64 (Th.most op imm).cond, .bool (Th.most op imm).wide] 26))) :=
    ((Below.refl _ _).alloc (Nat.le_refl _) _).trans ((hb.mono (by simp)).alloc (by omega) _)
  have hs2 : w1.heap.size < (w1.alloc (.cells #[.int .i64 (Th.most op imm).op, .int .i64 (Th.most op imm).rd, .int .i64 (Th.most op imm).rn, .int .i64 (Th.most op imm).rm, .int .i64 (Th.most op imm).ra, .int .i64 (Th.most op imm).imm, .int .i64 (Th.most op imm).cond, .bool (Th.most op imm).wide] 26)).heap.size := by simp
  generalize w1.alloc (.cells #[.int .i64 (Th.most op imm).op, .int .i64 (Th.most op imm).rd, .int .i64 (Th.most op imm).rn, .int .i64 (Th.most op imm).rm, .int .i64 (Th.most op imm).ra, .int .i64 (Th.most op imm).imm, .int .i64 (Th.most op imm).cond, .bool (Th.most op imm).wide] 26) = W at *
  have hs1 : w.heap.size < W.heap.size := by omega
  clear hb hz
  generalize w1.heap.size = b at *
  generalize Value.agg #[.int .i64 op, _, _, _, _, _, _, _] = u0
  generalize Value.agg #[.int .i64 (Th.most op imm).op, _, _, _, _, _, _, _] = u1
  go_region_held3 (fun wx => Below W.heap.size W wx ∧ InsAt wx w.heap.size op rd rn rm ra imm cond wide ∧ InsAt wx b (Th.most op imm).op (Th.most op imm).rd (Th.most op imm).rn (Th.most op imm).rm (Th.most op imm).ra (Th.most op imm).imm (Th.most op imm).cond (Th.most op imm).wide)
    (first | exact ⟨(Below.refl _ _).drew, HC, HD⟩ | exact sx_step (by assumption) (by assumption) hs1 hs2)
    (first | (go_at_call 40; refine (least_any _ _ _ _ _ _ _ _ _).mono ?_; rintro e w' ⟨rfl, hb1⟩) | (go_at_call 39; refine (within_any _ _ _ _ _ _ _ _ _ _ _ _ _ _ _ _ _ _ _ _ _ _ _ _ _).mono ?_; rintro e w' ⟨rfl, hb2⟩))
  rename_i hH
  go_wp2_with (first | (go_at_call 41; refine (branches_any _ _).mono ?_; rintro e w' ⟨rfl, rfl⟩) | (go_at_call 42; refine (reaches_any _ _ _ _ _ _ _ _ _).mono ?_; rintro e w' ⟨rfl, hb3⟩))
  go_ret
  exact ⟨rfl, HB.out.trans (hH.1.mono (by omega))⟩

set_option maxHeartbeats 4000000 in
theorem check_r0 (op rd rn rm ra imm cond : Int) (wide : Bool) (w : World) (hk : Th.known op rd ra = true) (hw : Th.within ⟨(Th.least op imm).op, (Th.least op imm).rd, (Th.least op imm).rn, (Th.least op imm).rm, (Th.least op imm).ra, (Th.least op imm).imm, (Th.least op imm).cond, (Th.least op imm).wide⟩ ⟨op, rd, rn, rm, ra, imm, cond, wide⟩ ⟨(Th.most op imm).op, (Th.most op imm).rd, (Th.most op imm).rn, (Th.most op imm).rm, (Th.most op imm).ra, (Th.most op imm).imm, (Th.most op imm).cond, (Th.most op imm).wide⟩ = true) (hr : Th.branch op = true) (hx : Th.reaches op imm wide = false) :
    Calls Try.prog 18 #[.agg #[.int .i64 op, .int .i64 rd, .int .i64 rn, .int .i64 rm, .int .i64 ra, .int .i64 imm, .int .i64 cond, .bool wide]] w fun e w' => e = .returned (.int .i64 6) ∧ Below w.heap.size w w' := by
  go_enter Try.func18, Try.ntmps18
  go_wp2_with (go_at_call 38; refine (greatest_any _ _ _ _ _ _ _ _ _).mono ?_; rintro e w1 ⟨rfl, hb⟩)
  have hz := hb.size
  simp at hz
  have HC := (ins_alloc w 26 op rd rn rm ra imm cond wide).below hb (by simp)
  have HC := HC.alloc (by omega) (.cells #[.int .i64 (Th.most op imm).op, .int .i64 (Th.most op imm).rd, .int .i64 (Th.most op imm).rn, .int .i64 (Th.most op imm).rm, .int .i64 (Th.most op imm).ra, .int .i64 (Th.most op imm).imm, .int .i64 (Th.most op imm).cond, .bool (Th.most op imm).wide] 26)
  have HD := ins_alloc w1 26 (Th.most op imm).op (Th.most op imm).rd (Th.most op imm).rn (Th.most op imm).rm (Th.most op imm).ra (Th.most op imm).imm (Th.most op imm).cond (Th.most op imm).wide
  have HB : Hid (Below w.heap.size w (w1.alloc (.cells #[.int .i64 (Th.most op imm).op, .int .i64 (Th.most op imm).rd, .int .i64 (Th.most op imm).rn, .int .i64 (Th.most op imm).rm, .int .i64 (Th.most op imm).ra, .int .i64 (Th.most op imm).imm, .int .i64 (Th.most op imm).cond, .bool (Th.most op imm).wide] 26))) :=
    ((Below.refl _ _).alloc (Nat.le_refl _) _).trans ((hb.mono (by simp)).alloc (by omega) _)
  have hs2 : w1.heap.size < (w1.alloc (.cells #[.int .i64 (Th.most op imm).op, .int .i64 (Th.most op imm).rd, .int .i64 (Th.most op imm).rn, .int .i64 (Th.most op imm).rm, .int .i64 (Th.most op imm).ra, .int .i64 (Th.most op imm).imm, .int .i64 (Th.most op imm).cond, .bool (Th.most op imm).wide] 26)).heap.size := by simp
  generalize w1.alloc (.cells #[.int .i64 (Th.most op imm).op, .int .i64 (Th.most op imm).rd, .int .i64 (Th.most op imm).rn, .int .i64 (Th.most op imm).rm, .int .i64 (Th.most op imm).ra, .int .i64 (Th.most op imm).imm, .int .i64 (Th.most op imm).cond, .bool (Th.most op imm).wide] 26) = W at *
  have hs1 : w.heap.size < W.heap.size := by omega
  clear hb hz
  generalize w1.heap.size = b at *
  generalize Value.agg #[.int .i64 op, _, _, _, _, _, _, _] = u0
  generalize Value.agg #[.int .i64 (Th.most op imm).op, _, _, _, _, _, _, _] = u1
  go_region_held3 (fun wx => Below W.heap.size W wx ∧ InsAt wx w.heap.size op rd rn rm ra imm cond wide ∧ InsAt wx b (Th.most op imm).op (Th.most op imm).rd (Th.most op imm).rn (Th.most op imm).rm (Th.most op imm).ra (Th.most op imm).imm (Th.most op imm).cond (Th.most op imm).wide)
    (first | exact ⟨(Below.refl _ _).drew, HC, HD⟩ | exact sx_step (by assumption) (by assumption) hs1 hs2)
    (first | (go_at_call 40; refine (least_any _ _ _ _ _ _ _ _ _).mono ?_; rintro e w' ⟨rfl, hb1⟩) | (go_at_call 39; refine (within_any _ _ _ _ _ _ _ _ _ _ _ _ _ _ _ _ _ _ _ _ _ _ _ _ _).mono ?_; rintro e w' ⟨rfl, hb2⟩))
  rename_i hH
  go_wp2_with (first | (go_at_call 41; refine (branches_any _ _).mono ?_; rintro e w' ⟨rfl, rfl⟩) | (go_at_call 42; refine (reaches_any _ _ _ _ _ _ _ _ _).mono ?_; rintro e w' ⟨rfl, hb3⟩))
  go_ret
  have := hH.1.size
  exact ⟨rfl, (HB.out.trans (hH.1.mono (by omega))).trans (hb3.mono (by omega))⟩

set_option maxHeartbeats 4000000 in
theorem check_r1 (op rd rn rm ra imm cond : Int) (wide : Bool) (w : World) (hk : Th.known op rd ra = true) (hw : Th.within ⟨(Th.least op imm).op, (Th.least op imm).rd, (Th.least op imm).rn, (Th.least op imm).rm, (Th.least op imm).ra, (Th.least op imm).imm, (Th.least op imm).cond, (Th.least op imm).wide⟩ ⟨op, rd, rn, rm, ra, imm, cond, wide⟩ ⟨(Th.most op imm).op, (Th.most op imm).rd, (Th.most op imm).rn, (Th.most op imm).rm, (Th.most op imm).ra, (Th.most op imm).imm, (Th.most op imm).cond, (Th.most op imm).wide⟩ = true) (hr : Th.branch op = true) (hx : Th.reaches op imm wide = true) :
    Calls Try.prog 18 #[.agg #[.int .i64 op, .int .i64 rd, .int .i64 rn, .int .i64 rm, .int .i64 ra, .int .i64 imm, .int .i64 cond, .bool wide]] w fun e w' => e = .returned (.int .i64 0) ∧ Below w.heap.size w w' := by
  go_enter Try.func18, Try.ntmps18
  go_wp2_with (go_at_call 38; refine (greatest_any _ _ _ _ _ _ _ _ _).mono ?_; rintro e w1 ⟨rfl, hb⟩)
  have hz := hb.size
  simp at hz
  have HC := (ins_alloc w 26 op rd rn rm ra imm cond wide).below hb (by simp)
  have HC := HC.alloc (by omega) (.cells #[.int .i64 (Th.most op imm).op, .int .i64 (Th.most op imm).rd, .int .i64 (Th.most op imm).rn, .int .i64 (Th.most op imm).rm, .int .i64 (Th.most op imm).ra, .int .i64 (Th.most op imm).imm, .int .i64 (Th.most op imm).cond, .bool (Th.most op imm).wide] 26)
  have HD := ins_alloc w1 26 (Th.most op imm).op (Th.most op imm).rd (Th.most op imm).rn (Th.most op imm).rm (Th.most op imm).ra (Th.most op imm).imm (Th.most op imm).cond (Th.most op imm).wide
  have HB : Hid (Below w.heap.size w (w1.alloc (.cells #[.int .i64 (Th.most op imm).op, .int .i64 (Th.most op imm).rd, .int .i64 (Th.most op imm).rn, .int .i64 (Th.most op imm).rm, .int .i64 (Th.most op imm).ra, .int .i64 (Th.most op imm).imm, .int .i64 (Th.most op imm).cond, .bool (Th.most op imm).wide] 26))) :=
    ((Below.refl _ _).alloc (Nat.le_refl _) _).trans ((hb.mono (by simp)).alloc (by omega) _)
  have hs2 : w1.heap.size < (w1.alloc (.cells #[.int .i64 (Th.most op imm).op, .int .i64 (Th.most op imm).rd, .int .i64 (Th.most op imm).rn, .int .i64 (Th.most op imm).rm, .int .i64 (Th.most op imm).ra, .int .i64 (Th.most op imm).imm, .int .i64 (Th.most op imm).cond, .bool (Th.most op imm).wide] 26)).heap.size := by simp
  generalize w1.alloc (.cells #[.int .i64 (Th.most op imm).op, .int .i64 (Th.most op imm).rd, .int .i64 (Th.most op imm).rn, .int .i64 (Th.most op imm).rm, .int .i64 (Th.most op imm).ra, .int .i64 (Th.most op imm).imm, .int .i64 (Th.most op imm).cond, .bool (Th.most op imm).wide] 26) = W at *
  have hs1 : w.heap.size < W.heap.size := by omega
  clear hb hz
  generalize w1.heap.size = b at *
  generalize Value.agg #[.int .i64 op, _, _, _, _, _, _, _] = u0
  generalize Value.agg #[.int .i64 (Th.most op imm).op, _, _, _, _, _, _, _] = u1
  go_region_held3 (fun wx => Below W.heap.size W wx ∧ InsAt wx w.heap.size op rd rn rm ra imm cond wide ∧ InsAt wx b (Th.most op imm).op (Th.most op imm).rd (Th.most op imm).rn (Th.most op imm).rm (Th.most op imm).ra (Th.most op imm).imm (Th.most op imm).cond (Th.most op imm).wide)
    (first | exact ⟨(Below.refl _ _).drew, HC, HD⟩ | exact sx_step (by assumption) (by assumption) hs1 hs2)
    (first | (go_at_call 40; refine (least_any _ _ _ _ _ _ _ _ _).mono ?_; rintro e w' ⟨rfl, hb1⟩) | (go_at_call 39; refine (within_any _ _ _ _ _ _ _ _ _ _ _ _ _ _ _ _ _ _ _ _ _ _ _ _ _).mono ?_; rintro e w' ⟨rfl, hb2⟩))
  rename_i hH
  go_wp2_with (first | (go_at_call 41; refine (branches_any _ _).mono ?_; rintro e w' ⟨rfl, rfl⟩) | (go_at_call 42; refine (reaches_any _ _ _ _ _ _ _ _ _).mono ?_; rintro e w' ⟨rfl, hb3⟩))
  go_ret
  have := hH.1.size
  exact ⟨rfl, (HB.out.trans (hH.1.mono (by omega))).trans (hb3.mono (by omega))⟩

theorem check_any (op rd rn rm ra imm cond : Int) (wide : Bool) (w : World) :
    Calls Try.prog 18 #[.agg #[.int .i64 op, .int .i64 rd, .int .i64 rn, .int .i64 rm, .int .i64 ra, .int .i64 imm, .int .i64 cond, .bool wide]] w fun e w' => e = .returned (.int .i64 (Th.check ⟨op, rd, rn, rm, ra, imm, cond, wide⟩)) ∧ Below w.heap.size w w' := by
  cases hk : Th.known op rd ra
  · rw [show Th.check ⟨op, rd, rn, rm, ra, imm, cond, wide⟩ = 2 by simp [Th.check, Th.fits, hk]]
    exact check_k0 _ _ _ _ _ _ _ _ w hk
  cases hw : Th.within ⟨(Th.least op imm).op, (Th.least op imm).rd, (Th.least op imm).rn, (Th.least op imm).rm, (Th.least op imm).ra, (Th.least op imm).imm, (Th.least op imm).cond, (Th.least op imm).wide⟩ ⟨op, rd, rn, rm, ra, imm, cond, wide⟩ ⟨(Th.most op imm).op, (Th.most op imm).rd, (Th.most op imm).rn, (Th.most op imm).rm, (Th.most op imm).ra, (Th.most op imm).imm, (Th.most op imm).cond, (Th.most op imm).wide⟩
  · rw [show Th.check ⟨op, rd, rn, rm, ra, imm, cond, wide⟩ = 2 by simp [Th.check, Th.fits, hw]]
    exact check_w0 _ _ _ _ _ _ _ _ w hk hw
  cases hr : Th.branch op
  · rw [show Th.check ⟨op, rd, rn, rm, ra, imm, cond, wide⟩ = 0 by simp [Th.check, Th.fits, hk, hw, hr]]
    exact check_b0 _ _ _ _ _ _ _ _ w hk hw hr
  cases hx : Th.reaches op imm wide
  · rw [show Th.check ⟨op, rd, rn, rm, ra, imm, cond, wide⟩ = 6 by simp [Th.check, Th.fits, hk, hw, hr, hx]]
    exact check_r0 _ _ _ _ _ _ _ _ w hk hw hr hx
  · rw [show Th.check ⟨op, rd, rn, rm, ra, imm, cond, wide⟩ = 0 by simp [Th.check, Th.fits, hk, hw, hr, hx]]
    exact check_r1 _ _ _ _ _ _ _ _ w hk hw hr hx

set_option maxHeartbeats 4000000 in
theorem size_any (op rd rn rm ra imm cond : Int) (wide : Bool) (w : World) :
    Calls Try.prog 20 #[.agg #[.int .i64 op, .int .i64 rd, .int .i64 rn, .int .i64 rm, .int .i64 ra, .int .i64 imm, .int .i64 cond, .bool wide]] w fun e w' => e = .returned (.int .i64 (Th.size ⟨op, rd, rn, rm, ra, imm, cond, wide⟩)) ∧ Below w.heap.size w w' := by
  by_cases h0 : Th.check ⟨op, rd, rn, rm, ra, imm, cond, wide⟩ = 0
  · have h1 : (Th.check ⟨op, rd, rn, rm, ra, imm, cond, wide⟩ != 0) = false := by simp [h0]
    have H0 := Lib.hid h0
    clear h0
    go_enter Try.func20, Try.ntmps20
    go_wp2_with (first | (go_at_call 18; refine (check_any _ _ _ _ _ _ _ _ _).mono ?_; rintro e w' ⟨rfl, hb⟩; obtain ⟨hc, hf⟩ := bcell hb; have hz := hb.size; simp at hz) | (go_at_call 41; refine (branches_any _ _).mono ?_; rintro e w' ⟨rfl, rfl⟩))
    all_goals
      go_ret
      refine ⟨ret_int ?_, ((Below.refl _ _).alloc (Nat.le_refl _) _).trans (hb.mono (by simp))⟩
      have h0 := H0.out
      clear hc hf hb h1
      simp [Th.size, Th.short, *]
  · have h1 : (Th.check ⟨op, rd, rn, rm, ra, imm, cond, wide⟩ != 0) = true := by simp [h0]
    have H0 := Lib.hid h0
    clear h0
    go_enter Try.func20, Try.ntmps20
    go_wp2_with (go_at_call 18; refine (check_any _ _ _ _ _ _ _ _ _).mono ?_; rintro e w' ⟨rfl, hb⟩; obtain ⟨hc, hf⟩ := bcell hb; have hz := hb.size; simp at hz)
    go_ret
    refine ⟨ret_int ?_, ((Below.refl _ _).alloc (Nat.le_refl _) _).trans (hb.mono (by simp))⟩
    simp [Th.size, H0.out]
end Go.Proofs.Ytennhpfhgbmnfaa
