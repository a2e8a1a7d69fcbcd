/-
  What package outcome and the document's answer for layer 10 return.
-/
import Derived.Test.YtpfljdcahhhggaaOcC
import Derived.Test.YtpfljdcahhhggaaOcA
import Derived.BigQuiet
namespace Go.Proofs.Ytpfljdcahhhggaa
open Go.ChangeShapes Go.WideShapes Go.ChangeAt Go.RowKit
set_option linter.unusedVariables false
set_option linter.unusedSimpArgs false

theorem ret_int {k : IntKind} {a b : Int} (h : a = b) : Ending.returned (.int k a) = .returned (.int k b) := by rw [h]
theorem below_drewN {B : Nat} {a w : World} (h : Below B a w) (n : Nat) : Below B a (w.drewN n) := ⟨h.os, h.tape, h.output, h.size, h.block⟩
def Zt (s : ByteArray) (k : Nat) : Prop := (s.data.toList.take k).all (fun b => ((b.toNat : Int) == 0)) = true
theorem Zt.next {s : ByteArray} {k : Nat} (h : Zt s k) (hk : k < s.size) (e : ((s[k].toNat : Int) == 0) = true) : Zt s (k + 1) := by
  unfold Zt at h ⊢
  rw [Oc.take_succ s k hk, List.all_append, h]
  simp [e]
set_option maxHeartbeats 2000000 in
theorem blank_any (s : ByteArray) (w : World) (hs : s.size ≤ 281474976710656) :
    Calls Try.prog 16 #[.string s] w fun e w' => e = .returned (.bool (Oc.zero s)) ∧ w = w' := by
  go_enter Try.func16, Try.ntmps16
  go_wp2
  go_loopw [6] (fun i wr => wr = w ∧ ∃ k : Nat, k ≤ s.size ∧ i = .int .i64 k ∧ Hid (Zt s k)) (fun i _ => s.size - (intOf i).toNat)
  case atStart => exact ⟨rfl, 0, Nat.zero_le _, rfl, Lib.hid (by unfold Zt; rfl)⟩
  case round =>
    obtain ⟨rfl, k, hk, rfl, HZ⟩ := hrel
    by_cases hlt : k < s.size
    · have hlt' : (k : Int) < (s.size : Int) := by omega
      cases he : ((s[k].toNat : Int) == 0)
      · have HN := Lib.hid (Oc.zero_no s k hlt he)
        have he' : ((s[k].toNat : Int) != 0) = true := by simp [bne, he]
        go_wp2
        go_ret
        exact ⟨ret_bool HN.out.symm, rfl⟩
      · have HN := Lib.hid (HZ.out.next hlt he)
        have he' : ((s[k].toNat : Int) != 0) = false := by simp [bne, he]
        go_wp2
        exact ⟨⟨trivial, k + 1, by omega, by go_num, HN⟩, by simp [intOf]; omega⟩
    · have hge : ¬ (k : Int) < (s.size : Int) := by omega
      have HN : Hid (Oc.zero s = true) := Lib.hid (by have h := HZ.out; unfold Zt at h; rw [Oc.take_all s k hlt hk] at h; exact h)
      go_wp2
      go_ret
      exact ⟨ret_bool HN.out.symm, rfl⟩
set_option maxHeartbeats 2000000 in
theorem rsum_any (s : ByteArray) (w : World) (hs : s.size ≤ 281474976710656) :
    Calls Try.prog 17 #[.string s] w fun e w' => e = .returned (.int .i64 (Oc.sumL s.data.toList)) ∧ w = w' := by
  go_enter Try.func17, Try.ntmps17
  go_wp2
  go_loopw [3, 4] (fun n i wr => wr = w ∧ ∃ (k : Nat) (m : Int), k ≤ s.size ∧ i = .int .i64 k ∧ n = .int .i64 m ∧ Hid (m = Oc.sumL (s.data.toList.take k))) (fun _ i _ => s.size - (intOf i).toNat)
  case atStart => exact ⟨rfl, 0, 0, Nat.zero_le _, rfl, rfl, Lib.hid rfl⟩
  case round =>
    obtain ⟨rfl, k, m, hk, rfl, rfl, HM⟩ := hrel
    by_cases hlt : k < s.size
    · have hlt' : (k : Int) < (s.size : Int) := by omega
      have HB : Hid (0 ≤ m ∧ m ≤ 255 * (k : Int)) := Lib.hid (by
        have h := Oc.sumL_nn (s.data.toList.take k)
        rw [← HM.out, List.length_take] at h
        omega)
      have hb := s[k].toNat_lt
      have hw : wrap64 (m + wrap64 (s[k].toNat : Int)) = m + (s[k].toNat : Int) := by have := HB.out; unfold wrap64; omega
      clear hb
      go_wp2
      refine ⟨⟨trivial, k + 1, m + (s[k].toNat : Int), by omega, by go_num, ?_, Lib.hid ?_⟩, by simp [intOf]; omega⟩
      · first | rfl | exact congrArg (Value.int .i64) hw
      · rw [Oc.take_succ s k hlt, Oc.sumL_append, ← HM.out]; show _ = m + (((s[k].toNat : Nat) : Int) + 0); omega
    · have hge : ¬ (k : Int) < (s.size : Int) := by omega
      go_wp2
      go_ret
      exact ⟨ret_int (by have h := HM.out; rw [Oc.take_all s k hlt hk] at h; exact h), rfl⟩
set_option maxHeartbeats 4000000 in
theorem kind_any (h : Bool) (st cy ha co su : Int) (o a b : ByteArray) (w : World) :
    Calls Try.prog 14 #[.agg #[.bool h, .int .i64 st, .int .i64 cy, .int .i64 ha, .int .i64 co, .int .i64 su, .string o, .string a, .string b]] w fun e w' => e = .returned (.int .i64 (Oc.kind h co su)) ∧ Below w.heap.size w w' := by
  cases h
  · have HK : Hid (Oc.kind false co su = 0) := Lib.hid rfl
    rw [HK.out]; clear HK
    go_enter Try.func14, Try.ntmps14
    go_wp2
    go_ret
    exact ⟨rfl, by go_grown⟩
  · by_cases h1 : co = 3235799053
    · have HK : Hid (Oc.kind true co su = 1) := Lib.hid (by unfold Oc.kind; rw [if_neg (by decide), if_pos h1])
      rw [HK.out]; clear HK
      go_enter Try.func14, Try.ntmps14
      go_wp2
      go_ret
      exact ⟨rfl, by go_grown⟩
    · by_cases h2 : su = 195890093
      · have HK : Hid (Oc.kind true co su = 2) := Lib.hid (by unfold Oc.kind; rw [if_neg (by decide), if_neg h1, if_pos h2])
        rw [HK.out]; clear HK
        go_enter Try.func14, Try.ntmps14
        go_wp2
        go_ret
        exact ⟨rfl, by go_grown⟩
      · have HK : Hid (Oc.kind true co su = 3) := Lib.hid (by unfold Oc.kind; rw [if_neg (by decide), if_neg h1, if_neg h2])
        rw [HK.out]; clear HK
        go_enter Try.func14, Try.ntmps14
        go_wp2
        go_ret
        exact ⟨rfl, by go_grown⟩
theorem boxed {W w1 : World} {cs : Array Value} {t : TypeId} (hb : Below (W.alloc (.cells cs t)).heap.size (W.alloc (.cells cs t)) w1) (j : Nat) (v : Value) (h : cs[j]? = some v) : w1.cell? ⟨W.heap.size, j, none⟩ = some v := by
  rw [hb.cell (by simp)]
  unfold World.cell?
  show (match (W.alloc (.cells cs t)).heap[W.heap.size]? with | some (.cells c _ _) => c[j]? | _ => none) = some v
  rw [heap_alloc_new]
  exact h
theorem boxed_below {W w1 : World} {o : Obj} (hb : Below (W.alloc o).heap.size (W.alloc o) w1) : Below W.heap.size W w1 := ((Below.refl _ _).alloc (Nat.le_refl _) _).trans (hb.mono (by simp))
set_option maxHeartbeats 4000000 in
theorem slack_any (i o r : Int) (w : World) :
    Calls Try.prog 12 #[.agg #[.int .i64 i, .int .i64 o, .int .i64 r]] w fun e w' => e = .returned (.int .i64 (Oc.slack i o r)) ∧ Below w.heap.size w w' := by
  have C := Lib.hid fun w => check_any i o r 0 w
  have HB := Lib.hid (Oc.small (i := i) (o := o) (r := r))
  have HE : Hid (Oc.slack i o r = if Mm.err i o r 0 = 0 then 32 * o + 64 * r + 256 else 0) := Lib.hid rfl
  rw [HE.out]; clear HE
  generalize Mm.err i o r 0 = E at *
  by_cases h0 : E = 0
  · subst h0
    have hb := HB.out rfl
    have hw : wrap64 (wrap64 (32 * wrap64 (o + wrap64 (2 * r))) + 256) = 32 * o + 64 * r + 256 := by
      clear C
      obtain ⟨b0, b1, b2, b3⟩ := hb
      rw [Mm.w64 (n := 2 * r) (by omega) (by omega), Mm.w64 (n := o + 2 * r) (by omega) (by omega), Mm.w64 (n := 32 * (o + 2 * r)) (by omega) (by omega), Mm.w64 (by omega) (by omega)]
      omega
    have HW := Lib.hid hw
    clear hw HB hb
    rw [if_pos rfl]
    go_enter Try.func12, Try.ntmps12
    go_wp2_with (first | (go_at_call 18; refine (C.out _).mono ?_; rintro e w1 ⟨rfl, hb1⟩; have x1 := boxed hb1 1 _ rfl; have x2 := boxed hb1 2 _ rfl; have HB1 := Lib.hid (boxed_below hb1); clear hb1))
    go_ret
    exact ⟨ret_int HW.out, HB1.out⟩
  · rw [if_neg h0]
    clear HB
    go_enter Try.func12, Try.ntmps12
    go_wp2_with (first | (go_at_call 18; refine (C.out _).mono ?_; rintro e w1 ⟨rfl, hb1⟩; have HB1 := Lib.hid (boxed_below hb1); clear hb1))
    go_ret
    exact ⟨rfl, HB1.out⟩
set_option maxHeartbeats 4000000 in
theorem rslack_any (i o r : Int) (w : World) (wr : (Lit.int .i64 r).wf = true) :
    Calls Try.prog 13 #[.agg #[.int .i64 i, .int .i64 o, .int .i64 r]] w fun e w' => e = .returned (.int .i64 (Oc.slack i o r)) ∧ Below w.heap.size w w' := by
  have C := Lib.hid fun w => rcheck_any i o r 0 w wr
  have HB := Lib.hid (Oc.small (i := i) (o := o) (r := r))
  have HE : Hid (Oc.slack i o r = if Mm.err i o r 0 = 0 then 32 * o + 64 * r + 256 else 0) := Lib.hid rfl
  rw [HE.out]; clear HE
  generalize Mm.err i o r 0 = E at *
  by_cases h0 : E = 0
  · subst h0
    have hb := HB.out rfl
    have hw : wrap64 (wrap64 (256 + wrap64 (32 * o)) + wrap64 (64 * r)) = 32 * o + 64 * r + 256 := by
      clear C
      obtain ⟨b0, b1, b2, b3⟩ := hb
      rw [Mm.w64 (n := 32 * o) (by omega) (by omega), Mm.w64 (n := 256 + 32 * o) (by omega) (by omega), Mm.w64 (n := 64 * r) (by omega) (by omega), Mm.w64 (by omega) (by omega)]
      omega
    have HW := Lib.hid hw
    clear hw HB hb
    rw [if_pos rfl]
    go_enter Try.func13, Try.ntmps13
    go_wp2_with (first | (go_at_call 19; refine (C.out _).mono ?_; rintro e w1 ⟨rfl, hb1⟩; have x1 := boxed hb1 1 _ rfl; have x2 := boxed hb1 2 _ rfl; have HB1 := Lib.hid (boxed_below hb1); clear hb1))
    go_ret
    exact ⟨ret_int HW.out, HB1.out⟩
  · rw [if_neg h0]
    clear HB
    go_enter Try.func13, Try.ntmps13
    go_wp2_with (first | (go_at_call 19; refine (C.out _).mono ?_; rintro e w1 ⟨rfl, hb1⟩; have HB1 := Lib.hid (boxed_below hb1); clear hb1))
    go_ret
    exact ⟨rfl, HB1.out⟩
set_option maxHeartbeats 4000000 in
theorem wiped_any (h : Bool) (st cy ha co su : Int) (o a b : ByteArray) (w : World) (ho : o.size ≤ 281474976710656) (ha' : a.size ≤ 281474976710656) (hb' : b.size ≤ 281474976710656) :
    Calls Try.prog 8 #[.agg #[.bool h, .int .i64 st, .int .i64 cy, .int .i64 ha, .int .i64 co, .int .i64 su, .string o, .string a, .string b]] w fun e w' => e = .returned (.bool (Oc.wiped co o a b)) ∧ Below w.heap.size w w' := by
  have C1 := Lib.hid fun w => blank_any o w ho
  have C2 := Lib.hid fun w => blank_any a w ha'
  have C3 := Lib.hid fun w => blank_any b w hb'
  clear ho ha' hb'
  have HE : Hid (Oc.wiped co o a b = (decide (co = 0) && Oc.zero o && Oc.zero a && Oc.zero b)) := Lib.hid rfl
  rw [HE.out]; clear HE
  generalize Oc.zero o = z1 at *
  generalize Oc.zero a = z2 at *
  generalize Oc.zero b = z3 at *
  by_cases h0 : co = 0
  · subst h0
    cases z1
    · go_enter Try.func8, Try.ntmps8
      go_wp2_with (first | (go_at_call 16; with_reducible refine (C1.out _).mono ?_; rintro e w1 ⟨rfl, rfl⟩))
      go_ret
      exact ⟨ret_bool (by simp [*]), by go_grown⟩
    · cases z2
      · go_enter Try.func8, Try.ntmps8
        go_wp2_with (first | (go_at_call 16; with_reducible refine (C1.out _).mono ?_; rintro e w1 ⟨rfl, rfl⟩) | (go_at_call 16; with_reducible refine (C2.out _).mono ?_; rintro e w1 ⟨rfl, rfl⟩))
        go_ret
        exact ⟨ret_bool (by simp [*]), by go_grown⟩
      · cases z3
        · go_enter Try.func8, Try.ntmps8
          go_wp2_with (first | (go_at_call 16; with_reducible refine (C1.out _).mono ?_; rintro e w1 ⟨rfl, rfl⟩) | (go_at_call 16; with_reducible refine (C2.out _).mono ?_; rintro e w1 ⟨rfl, rfl⟩) | (go_at_call 16; with_reducible refine (C3.out _).mono ?_; rintro e w1 ⟨rfl, rfl⟩))
          go_ret
          exact ⟨ret_bool (by simp [*]), by go_grown⟩
        · go_enter Try.func8, Try.ntmps8
          go_wp2_with (first | (go_at_call 16; with_reducible refine (C1.out _).mono ?_; rintro e w1 ⟨rfl, rfl⟩) | (go_at_call 16; with_reducible refine (C2.out _).mono ?_; rintro e w1 ⟨rfl, rfl⟩) | (go_at_call 16; with_reducible refine (C3.out _).mono ?_; rintro e w1 ⟨rfl, rfl⟩))
          go_ret
          exact ⟨ret_bool (by simp [*]), by go_grown⟩
  · have h0' : (co == 0) = false := by simpa using h0
    go_enter Try.func8, Try.ntmps8
    go_wp2
    go_ret
    exact ⟨ret_bool (by simp [*]), by go_grown⟩
def Zs (s : ByteArray) (n : Int) (z : Bool) : Prop := n = Oc.sumL s.data.toList ∧ (n == 0) = z
theorem rsum_z (s : ByteArray) (hs : s.size ≤ 281474976710656) : ∃ n z, Oc.zero s = z ∧ (n == (0 : Int)) = z ∧ Hid (∀ w, Calls Try.prog 17 #[.string s] w fun e w' => e = .returned (.int .i64 n) ∧ w = w') :=
  ⟨_, _, rfl, Oc.zero_sum s, Lib.hid fun w => rsum_any s w hs⟩
set_option maxHeartbeats 4000000 in
theorem rwiped_any (h : Bool) (st cy ha co su : Int) (o a b : ByteArray) (w : World) (ho : o.size ≤ 281474976710656) (ha' : a.size ≤ 281474976710656) (hb' : b.size ≤ 281474976710656) :
    Calls Try.prog 9 #[.agg #[.bool h, .int .i64 st, .int .i64 cy, .int .i64 ha, .int .i64 co, .int .i64 su, .string o, .string a, .string b]] w fun e w' => e = .returned (.bool (Oc.wiped co o a b)) ∧ Below w.heap.size w w' := by
  obtain ⟨n1, z1, e1, q1, C1⟩ := rsum_z o ho
  obtain ⟨n2, z2, e2, q2, C2⟩ := rsum_z a ha'
  obtain ⟨n3, z3, e3, q3, C3⟩ := rsum_z b hb'
  clear ho ha' hb'
  have HE : Hid (Oc.wiped co o a b = (decide (co = 0) && z1 && z2 && z3)) := Lib.hid (by unfold Oc.wiped; rw [e1, e2, e3])
  rw [HE.out]; clear HE e1 e2 e3
  by_cases h0 : co = 0
  · subst h0
    cases z1
    · go_enter Try.func9, Try.ntmps9
      go_wp2_with (first | (go_at_call 17; with_reducible refine (C1.out _).mono ?_; rintro e w1 ⟨rfl, rfl⟩))
      go_ret
      exact ⟨ret_bool (by simp [*]), by go_grown⟩
    · cases z2
      · go_enter Try.func9, Try.ntmps9
        go_wp2_with (first | (go_at_call 17; with_reducible refine (C1.out _).mono ?_; rintro e w1 ⟨rfl, rfl⟩) | (go_at_call 17; with_reducible refine (C2.out _).mono ?_; rintro e w1 ⟨rfl, rfl⟩))
        go_ret
        exact ⟨ret_bool (by simp [*]), by go_grown⟩
      · cases z3
        · go_enter Try.func9, Try.ntmps9
          go_wp2_with (first | (go_at_call 17; with_reducible refine (C1.out _).mono ?_; rintro e w1 ⟨rfl, rfl⟩) | (go_at_call 17; with_reducible refine (C2.out _).mono ?_; rintro e w1 ⟨rfl, rfl⟩) | (go_at_call 17; with_reducible refine (C3.out _).mono ?_; rintro e w1 ⟨rfl, rfl⟩))
          go_ret
          exact ⟨ret_bool (by simp [*]), by go_grown⟩
        · go_enter Try.func9, Try.ntmps9
          go_wp2_with (first | (go_at_call 17; with_reducible refine (C1.out _).mono ?_; rintro e w1 ⟨rfl, rfl⟩) | (go_at_call 17; with_reducible refine (C2.out _).mono ?_; rintro e w1 ⟨rfl, rfl⟩) | (go_at_call 17; with_reducible refine (C3.out _).mono ?_; rintro e w1 ⟨rfl, rfl⟩))
          go_ret
          exact ⟨ret_bool (by simp [*]), by go_grown⟩
  · have h0' : (co == 0) = false := by simpa using h0
    go_enter Try.func9, Try.ntmps9
    go_wp2
    go_ret
    exact ⟨ret_bool (by simp [*]), by go_grown⟩
set_option maxHeartbeats 4000000 in
theorem same_any (h1 : Bool) (st1 cy1 ha1 co1 su1 : Int) (o1 a1 b1 : ByteArray) (h2 : Bool) (st2 cy2 ha2 co2 su2 : Int) (o2 a2 b2 : ByteArray) (w : World) :
    Calls Try.prog 11 #[.agg #[.bool h1, .int .i64 st1, .int .i64 cy1, .int .i64 ha1, .int .i64 co1, .int .i64 su1, .string o1, .string a1, .string b1], .agg #[.bool h2, .int .i64 st2, .int .i64 cy2, .int .i64 ha2, .int .i64 co2, .int .i64 su2, .string o2, .string a2, .string b2]] w fun e w' => e = .returned (.bool (Oc.same h1 h2 co1 co2 su1 su2 o1 o2)) ∧ Below w.heap.size w w' := by
  unfold Oc.same
  cases e0 : (h1 == h2)
  · go_enter Try.func11, Try.ntmps11
    go_wp2
    go_ret
    exact ⟨ret_bool (by simp [*]), by go_grown⟩
  · cases e1 : (co1 == co2)
    · go_enter Try.func11, Try.ntmps11
      go_wp2
      go_ret
      exact ⟨ret_bool (by simp [*]), by go_grown⟩
    · cases e2 : (su1 == su2)
      · go_enter Try.func11, Try.ntmps11
        go_wp2
        go_ret
        exact ⟨ret_bool (by simp [*]), by go_grown⟩
      · cases e3 : (o1.toList == o2.toList)
        · go_enter Try.func11, Try.ntmps11
          go_wp2
          go_ret
          exact ⟨ret_bool (by simp [*]), by go_grown⟩
        · go_enter Try.func11, Try.ntmps11
          go_wp2
          go_ret
          exact ⟨ret_bool (by simp [*]), by go_grown⟩
set_option maxHeartbeats 4000000 in
theorem rof_any (h : Bool) (st cy ha co su : Int) (o a b : ByteArray) (w : World) :
    Calls Try.prog 7 #[.agg #[.bool h, .int .i64 st, .int .i64 cy, .int .i64 ha, .int .i64 co, .int .i64 su, .string o, .string a, .string b]] w fun e w' => e = .returned (.tuple #[.int .i64 (Oc.kind h co su), .string (Oc.out h co o)]) ∧ Below w.heap.size w w' := by
  cases h
  · have HK : Hid (Oc.kind false co su = 0 ∧ Oc.out false co o = ⟨#[]⟩) := Lib.hid ⟨rfl, by unfold Oc.out; rw [if_neg (by simp)]⟩
    rw [HK.out.1, HK.out.2]; clear HK
    go_enter Try.func7, Try.ntmps7
    go_wp2
    exact bodyPost_ret (v := .tuple #[.int .i64 0, .string ⟨#[]⟩]) (by simp [results, Try.results7, go_sem]) rfl ⟨rfl, by go_grown⟩
  · by_cases h1 : co = 3235799053
    · have HK : Hid (Oc.kind true co su = 1 ∧ Oc.out true co o = o) := Lib.hid ⟨by unfold Oc.kind; rw [if_neg (by decide), if_pos h1], by unfold Oc.out; rw [if_pos ⟨rfl, h1⟩]⟩
      rw [HK.out.1, HK.out.2]; clear HK
      subst h1
      go_enter Try.func7, Try.ntmps7
      go_wp2
      go_quiet (fail)
      go_wp2
      exact bodyPost_ret (v := .tuple #[.int .i64 1, .string o]) (by simp [results, Try.results7, go_sem]) rfl ⟨rfl, below_drewN (by go_grown) _⟩
    · have HO : Hid (Oc.out true co o = ⟨#[]⟩) := Lib.hid (by unfold Oc.out; rw [if_neg (fun x => h1 x.2)])
      rw [HO.out]; clear HO
      by_cases h2 : su = 195890093
      · have HK : Hid (Oc.kind true co su = 2) := Lib.hid (by unfold Oc.kind; rw [if_neg (by decide), if_neg h1, if_pos h2])
        rw [HK.out]; clear HK
        go_enter Try.func7, Try.ntmps7
        go_wp2
        exact bodyPost_ret (v := .tuple #[.int .i64 2, .string ⟨#[]⟩]) (by simp [results, Try.results7, go_sem]) rfl ⟨rfl, by go_grown⟩
      · have HK : Hid (Oc.kind true co su = 3) := Lib.hid (by unfold Oc.kind; rw [if_neg (by decide), if_neg h1, if_neg h2])
        rw [HK.out]; clear HK
        go_enter Try.func7, Try.ntmps7
        go_wp2
        exact bodyPost_ret (v := .tuple #[.int .i64 3, .string ⟨#[]⟩]) (by simp [results, Try.results7, go_sem]) rfl ⟨rfl, by go_grown⟩
end Go.Proofs.Ytpfljdcahhhggaa
