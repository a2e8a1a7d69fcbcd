/-
  What the law's Same returns: are two slices of tokens the same? (layer 11)
-/
import Derived.Test.YtknbnfnibdbokaaDoorLxX
namespace Go.Proofs.YtknbnfnibdbokaaDoor
open Go.ChangeShapes Go.WideShapes Go.ChangeAt Go.RowKit
set_option linter.unusedVariables false
set_option linter.unusedSimpArgs false

theorem add_zero' (a : Addr) : a.add 0 = a := by unfold Addr.add; split <;> simp_all
abbrev TkAt (W : World) (a : Addr) (k p n : Int) (t : ByteArray) : Prop :=
  W.cell? a = some (.int .i64 k) ∧ W.cell? ⟨a.block, a.off + 1, none⟩ = some (.int .i64 p) ∧ W.cell? ⟨a.block, a.off + 2, none⟩ = some (.int .i64 n) ∧ W.cell? ⟨a.block, a.off + 3, none⟩ = some (.string t)
theorem TkAt.of {W : World} {a : Addr} {k n : Int} {p : Nat} {t : List UInt8} (h : OnC W a (tkC ⟨k, p, n, t⟩)) : TkAt W a k p n (Lx.S t) :=
  ⟨by have h0 := h 0 _ rfl; rw [add_zero'] at h0; exact h0, h 1 _ rfl, h 2 _ rfl, h 3 _ rfl⟩
theorem tok_beq (x y : Lx.Tok) : (x.kind == y.kind && ((x.pos : Int) == (y.pos : Int) && (x.num == y.num && ((Lx.S x.text).toList == (Lx.S y.text).toList)))) = decide (x = y) := by
  rw [Lib.toList_data, Lib.toList_data, Lx.S_list, Lx.S_list, Bool.eq_iff_iff]
  simp only [Bool.and_eq_true, beq_iff_eq, decide_eq_true_eq]
  constructor
  · rintro ⟨h1, h2, h3, h4⟩
    obtain ⟨a, b, c, d⟩ := x
    obtain ⟨a', b', c', d'⟩ := y
    simp only at h1 h2 h3 h4
    rw [h1, h3, h4, show b = b' from by omega]
  · rintro rfl
    exact ⟨rfl, rfl, rfl, rfl⟩
theorem take_step {A B : List Lx.Tok} {k : Nat} (h : A.take k = B.take k) (hA : k < A.length) (hB : k < B.length) (he : A[k] = B[k]) : A.take (k + 1) = B.take (k + 1) := by
  rw [List.take_add_one, List.take_add_one, h, List.getElem?_eq_getElem hA, List.getElem?_eq_getElem hB, he]
set_option maxHeartbeats 8000000 in
set_option maxRecDepth 100000 in
theorem same_any (pa pb : Option Addr) (n m ca cb : Nat) (A B : List Lx.Tok) (w : World) (hn : Hid (A.length = n)) (hm : Hid (B.length = m)) (hnz : n ≤ 65537) (hA : Hid (SliceC tkC 4 w (.slice pa n ca) A)) (hB : Hid (SliceC tkC 4 w (.slice pb m cb) B)) :
    Calls Tryd.prog 8 #[.slice pa n ca, .slice pb m cb] w fun e w' => e = .returned (.bool (decide (A = B))) ∧ Below w.heap.size w w' := by
  by_cases hnm : n = m
  · subst hnm
    go_enter Tryd.func8, Tryd.ntmps8
    go_wp2
    go_loopw [5] (fun K wr => ∃ k : Nat, k ≤ n ∧ K = .int .i64 (k : Int) ∧ Hid (A.take k = B.take k) ∧ Below w.heap.size w wr) (fun K _ => n - (intOf K).toNat)
    case atStart => exact ⟨0, Nat.zero_le _, rfl, Lib.hid (by simp), Below.refl _ _⟩
    case round =>
      obtain ⟨k, hk, rfl, HK, hBw⟩ := hrel
      by_cases hlt : k < n
      · have hltI : (k : Int) < (n : Int) := by omega
        have hkA : k < A.length := by rw [hn.out]; exact hlt
        have hkB : k < B.length := by rw [hm.out]; exact hlt
        obtain ⟨p1, c1, e1, hat1⟩ := hA.out
        obtain ⟨a1, hp1, hO1⟩ := hat1 k hkA
        injection e1 with ep1 en1 ec1
        rw [hp1] at ep1
        subst ep1
        obtain ⟨p2, c2, e2, hat2⟩ := hB.out
        obtain ⟨a2, hp2, hO2⟩ := hat2 k hkB
        injection e2 with ep2 en2 ec2
        rw [hp2] at ep2
        subst ep2
        have hO1' := hO1.kept hBw
        have hO2' := hO2.kept hBw
        rcases hx : A[k] with ⟨xk, xp, xn, xt⟩
        rcases hy : B[k] with ⟨yk, yp, yn, yt⟩
        rw [hx] at hO1'
        rw [hy] at hO2'
        obtain ⟨x0, x1, x2, x3⟩ := TkAt.of hO1'
        obtain ⟨y0, y1, y2, y3⟩ := TkAt.of hO2'
        have HX := Lib.hid hx
        have HY := Lib.hid hy
        clear hat1 hat2 hp1 hp2 en1 ec1 en2 ec2 hx hy hO1 hO2 hO1' hO2'
        have hE : ∀ w, (Op.equalIn 10000 37 (.agg #[.int .i64 xk, .int .i64 (xp : Int), .int .i64 xn, .string (Lx.S xt)]) (.agg #[.int .i64 yk, .int .i64 (yp : Int), .int .i64 yn, .string (Lx.S yt)])).run Tryd.prog w = .ok (decide ((⟨xk, xp, xn, xt⟩ : Lx.Tok) = ⟨yk, yp, yn, yt⟩)) w := fun w => by
          rw [← tok_beq]; exact tok_eq _ _ _ _ _ _ _ _ w
        by_cases hxy : (⟨xk, xp, xn, xt⟩ : Lx.Tok) = ⟨yk, yp, yn, yt⟩
        · rw [decide_eq_true hxy] at hE
          have HN := Lib.hid (take_step HK.out hkA hkB (HX.out.trans (hxy.trans HY.out.symm)))
          clear hxy HX HY hkA hkB
          go_wp2
          go_quiet (fail)
          go_wp2
          exact ⟨⟨k + 1, by omega, by go_num, HN, below_drewN hBw _⟩, by simp [intOf]; omega⟩
        · rw [decide_eq_false hxy] at hE
          have HN : Hid (A ≠ B) := Lib.hid (fun e => hxy (by
            subst e
            rw [← HX.out, ← HY.out]))
          clear hxy HX HY hkA hkB
          go_wp2
          go_quiet (fail)
          go_wp2
          go_ret
          exact ⟨ret_bool' (decide_eq_false HN.out).symm, below_drewN hBw _⟩
      · have hge : ¬ (k : Int) < (n : Int) := by omega
        have HN : Hid (A = B) := Lib.hid (by
          have h := HK.out
          rwa [List.take_of_length_le (by rw [hn.out]; omega), List.take_of_length_le (by rw [hm.out]; omega)] at h)
        go_wp2
        go_ret
        exact ⟨ret_bool' (decide_eq_true HN.out).symm, hBw⟩
  · have hI : ¬ (n : Int) = (m : Int) := by omega
    have HN : Hid (A ≠ B) := Lib.hid (fun e => hnm (by rw [← hn.out, ← hm.out, e]))
    have hb : ((n : Int) == (m : Int)) = false := by simpa using hI
    go_enter Tryd.func8, Tryd.ntmps8
    go_wp2
    go_ret
    exact ⟨ret_bool' (decide_eq_false HN.out).symm, Below.refl _ _⟩
end Go.Proofs.YtknbnfnibdbokaaDoor
