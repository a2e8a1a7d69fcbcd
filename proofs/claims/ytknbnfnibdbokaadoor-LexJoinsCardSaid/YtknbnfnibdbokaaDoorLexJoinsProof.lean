/-
  Law LexJoins: The tokens of two texts with a line's end between are those of the first one and those of the second one, further on; an error of the second one is further on, too.
  Conditions: none but those of the given row.
-/
import Derived.Test.YtknbnfnibdbokaaDoorRows
import Derived.Test.YtknbnfnibdbokaaDoorLxQ
import Derived.Test.YtknbnfnibdbokaaDoorLxV
import Derived.Test.YtknbnfnibdbokaaDoorLxY
import Derived.Test.YtknbnfnibdbokaaDoorCards
import Derived.Test.YtknbnfnibdbokaaDoorTie
import Derived.LaidMore
import Derived.Lay
import Derived.SevenTiedAt
import Derived.Stop.Joined
import Derived.Handed
import Derived.WalkKit
import Derived.ProofKit
import Derived.OpenShut
import Derived.ShutString
import Derived.ChangeOld
import Derived.Below
import Derived.LoopN
import Derived.SizedLaws
import Derived.Deep.Cut
import Derived.Deep.CutRange
namespace Go.Proofs.YtknbnfnibdbokaaDoor.lexJoins
open Go.ChangeShapes Go.WideShapes Go.ChangeAt Go.RowKit
open Go.ChangeMaps (open_string shut_string)
set_option linter.unusedVariables false
set_option linter.unusedSimpArgs false

theorem own : ownKnob Tryd.prog.godebug = none := by kernel_rfl
theorem laidOut : laidOutB Tryd.prog = true := by kernel_rfl

set_option maxRecDepth 100000 in set_option maxHeartbeats 16000000 in
theorem walk (a0 : ByteArray) (a1 : ByteArray) (w0 : a0.size ≤ reachBytes) (w1 : a1.size ≤ reachBytes) (w : World) :
    Calls Tryd.prog 4 #[.string a0, .string a1] w fun e w' => e = .returned (.bool true) ∧ Below w.heap.size w w' := by
  have CL := Lib.hid lives_any
  by_cases h1 : (20000 : Int) < (a0.size : Int)
  · clear w0 w1
    go_enter Tryd.func4, Tryd.ntmps4
    go_wp2_with (go_at_call 9; refine (CL.out _).mono ?_; rintro e w4 ⟨rfl, hb4⟩)
    go_ret
    exact ⟨rfl, hb4⟩
  · have h1' : ¬ (20000 : Int) < (a0.size : Int) := h1
    by_cases h2 : (20000 : Int) < (a1.size : Int)
    · clear w0 w1
      go_enter Tryd.func4, Tryd.ntmps4
      go_wp2_with (go_at_call 9; refine (CL.out _).mono ?_; rintro e w4 ⟨rfl, hb4⟩)
      go_ret
      exact ⟨rfl, hb4⟩
    · have h2' : ¬ (20000 : Int) < (a1.size : Int) := h2
      clear w0 w1
      have hz0 := Lib.size_eq a0
      have hz1 := Lib.size_eq a1
      have hJ := Lx.lex_joins a0.data.toList a1.data.toList (by omega) (by omega)
      have hzj : (a0 ++ ({ data := #[10] } : ByteArray) ++ a1).size ≤ 40001 := by
        rw [Lib.size_eq, join_list, List.length_append, List.length_cons]; omega
      rw [← hz0, ← join_list a0 a1] at hJ
      have hz01 : a0.size ≤ 20000 := by omega
      have hz11 : a1.size ≤ 20000 := by omega
      have tok1 : True := trivial
      have tok2 : True := trivial
      rcases hA : Lx.lex a0.data.toList with ⟨q, n⟩ | ts
      · have C1 := Lib.hid fun w => lex_no a0 (by omega) hA w
        have C2 := Lib.hid fun w => lex_any a1 (by omega) w
        rw [hA] at hJ
        simp only at hJ
        have C3 := Lib.hid fun w => lex_no (a0 ++ ({ data := #[10] } : ByteArray) ++ a1) (by omega) hJ w
        have hq := (Lx.lex_err hA).1
        have hqb : (q == 0) = false := by rcases hq with rfl | rfl <;> rfl
        have hqn : (q != 0) = true := by rcases hq with rfl | rfl <;> rfl
        have hE : ∀ w, (Op.equalIn 10000 25 (.agg #[.int .i64 q, .int .i64 (n : Int)]) (.agg #[.int .i64 q, .int .i64 (n : Int)])).run Tryd.prog w = .ok true w := fun w => by
          have h := bad_eq q n q n w
          simpa using h
        clear hA hJ hq hz0 hz1 hzj
        go_enter Tryd.func4, Tryd.ntmps4
        go_wp2_with (first
          | (go_at_call 6; have _t := tok1; refine (C1.out _).mono ?_; rintro e w1 ⟨rfl, hb1⟩; have HB1 := Lib.hid hb1; clear tok1 hb1)
          | (go_at_call 6; have _t := tok2; refine (C2.out _).mono ?_; rintro e w2 ⟨v2, x2, p2, rfl, _, hb2⟩; have K1 := Lib.hid ((Blk.new w1 25 (bdA q n)).kept hb2); have HB2 := Lib.hid (HB1.out.trans ((bel_new hb2).mono HB1.out.size)); clear tok2 hb2)
          | (go_at_call 6; refine (C3.out _).mono ?_; rintro e w3 ⟨rfl, hb3⟩; have b1 := (K1.out.alloc _).kept hb3; have c0 := fun o' => (b1.alloc o').cell 0; have c1 := fun o' => (b1.alloc o').cell 1; have HB3 := Lib.hid (HB2.out.trans ((bel_new hb3).mono HB2.out.size)); clear hb3 b1)
          | (go_at_call 9; refine (CL.out _).mono ?_; rintro e w4 ⟨rfl, hb4⟩))
        go_ret
        exact ⟨rfl, HB3.out.trans ((bel_new hb4).mono HB3.out.size)⟩
      · rw [hA] at hJ
        obtain ⟨us, hus, hJ⟩ := hJ
        obtain ⟨n1, hn1⟩ : ∃ n1, ts.length = n1 := ⟨_, rfl⟩
        have hU : n1 = us.length + 1 := by rw [← hn1, hus]; simp
        have hn1p : (0 : Int) < (n1 : Int) := by omega
        have hn1b : n1 ≤ 65537 := by rw [← hn1]; exact Lx.lex_len hA
        have C1 := Lib.hid fun w => lex_ok a0 (by omega) hA hn1 w
        rcases hB : Lx.lex a1.data.toList with ⟨q, n⟩ | vs
        · rw [hB] at hJ
          simp only at hJ
          have C2 := Lib.hid fun w => lex_no a1 (by omega) hB w
          have hq := (Lx.lex_err hB).1
          have hn := (Lx.lex_err hB).2
          obtain ⟨P, hP⟩ : ∃ P : Nat, n + (a0.size + 1) = P := ⟨_, rfl⟩
          rw [hP] at hJ
          have C3 := Lib.hid fun w => lex_no (a0 ++ ({ data := #[10] } : ByteArray) ++ a1) (by omega) hJ w
          have hqb : (q == 0) = false := by rcases hq with rfl | rfl <;> rfl
          have hqn : (q != 0) = true := by rcases hq with rfl | rfl <;> rfl
          have hnb : (n : Int) ≤ 20000 := by omega
          have hE : ∀ w, (Op.equalIn 10000 25 (.agg #[.int .i64 q, .int .i64 (P : Int)]) (.agg #[.int .i64 q, .int .i64 ((a0.size : Int) + 1 + (n : Int))])).run Tryd.prog w = .ok true w := fun w => by
            have h := bad_eq q P q ((a0.size : Int) + 1 + (n : Int)) w
            rw [show (P : Int) = (a0.size : Int) + 1 + (n : Int) from by omega] at h ⊢
            simpa using h
          clear hA hB hJ hq hz0 hz1 hzj hus hn1 hn hP
          go_enter Tryd.func4, Tryd.ntmps4
          go_wp2_with (first
            | (go_at_call 6; have _t := tok1; refine (C1.out _).mono ?_; rintro e w1 ⟨q1, k1, rfl, _, hb1⟩; have HB1 := Lib.hid hb1; clear tok1 hb1)
            | (go_at_call 6; have _t := tok2; refine (C2.out _).mono ?_; rintro e w2 ⟨rfl, hb2⟩; have K1 := Lib.hid ((Blk.new w1 25 (bdA 0 0)).kept hb2); have HB2 := Lib.hid (HB1.out.trans ((bel_new hb2).mono HB1.out.size)); clear tok2 hb2)
            | (go_at_call 6; refine (C3.out _).mono ?_; rintro e w3 ⟨rfl, hb3⟩; have b1 := (K1.out.alloc _).kept hb3; have b2 := (Blk.new w2 25 (bdA q n)).kept hb3; have c0 := fun o' => (b1.alloc o').cell 0; have c1 := fun o' => (b1.alloc o').cell 1; have d0 := fun o' => (b2.alloc o').cell 0; have d1 := fun o' => (b2.alloc o').cell 1; have HB3 := Lib.hid (HB2.out.trans ((bel_new hb3).mono HB2.out.size)); clear hb3 b1 b2)
            | (go_at_call 9; refine (CL.out _).mono ?_; rintro e w4 ⟨rfl, hb4⟩))
          go_ret
          exact ⟨rfl, HB3.out.trans ((bel_new hb4).mono HB3.out.size)⟩
        · rw [hB] at hJ
          simp only at hJ
          obtain ⟨n2, hn2⟩ : ∃ n2, vs.length = n2 := ⟨_, rfl⟩
          obtain ⟨cs, hcs⟩ : ∃ cs, us ++ vs.map (Lx.Tok.on (a0.size + 1)) = cs := ⟨_, rfl⟩
          rw [hcs] at hJ
          obtain ⟨n3, hn3⟩ : ∃ n3, cs.length = n3 := ⟨_, rfl⟩
          have hn3e : n3 + 1 = n1 + n2 := by rw [← hn3, ← hcs, List.length_append, List.length_map]; omega
          have hn2b : n2 ≤ 65537 := by rw [← hn2]; exact Lx.lex_len hB
          have hlen : (n3 : Int) = (n1 : Int) - 1 + (n2 : Int) := by omega
          have C2 := Lib.hid fun w => lex_ok a1 (by omega) hB hn2 w
          have C3 := Lib.hid fun w => lex_ok (a0 ++ ({ data := #[10] } : ByteArray) ++ a1) (by omega) hJ hn3 w
          have hpos := Lx.lex_pos hB
          have HPOS : Hid (∀ (j : Nat) (y : Lx.Tok), vs[j]? = some y → y.pos ≤ 20000) := Lib.hid (fun j y hy => by
            have := hpos y (List.mem_of_getElem? hy)
            omega)
          have HUS : Hid (∀ k, k + 1 < n1 → ∃ x, ts[k]? = some x ∧ cs[k]? = some x) := Lib.hid (fun k hk => by
            have hk' : k < us.length := by omega
            exact ⟨us[k], by rw [hus, List.getElem?_append_left hk', List.getElem?_eq_getElem hk'], by rw [← hcs, List.getElem?_append_left hk', List.getElem?_eq_getElem hk']⟩)
          have HVS : Hid (∀ k, ¬ k + 1 < n1 → k < n3 → ∃ y, vs[k + 1 - n1]? = some y ∧ cs[k]? = some (y.on (a0.size + 1))) := Lib.hid (fun k hk hk3 => by
            have hk' : us.length ≤ k := by omega
            have hj : k - us.length < vs.length := by omega
            refine ⟨vs[k - us.length], ?_, ?_⟩
            · rw [show k + 1 - n1 = k - us.length from by omega, List.getElem?_eq_getElem hj]
            · rw [← hcs, List.getElem?_append_right hk', List.getElem?_map, List.getElem?_eq_getElem hj]; rfl)
          have hn1I : (n1 : Int) ≤ 65537 := by omega
          have hn2I : (n2 : Int) ≤ 65537 := by omega
          have hn10 : ((n1 : Int) == 0) = false := by simp; omega
          have HN3 := Lib.hid hn3e
          have HLEN := Lib.hid hlen
          clear hA hB hJ hz0 hz1 hzj hus hn1 hn2 hn3 hcs hpos hU hn1b hn2b hn3e
          go_enter Tryd.func4, Tryd.ntmps4
          go_wp2_with (first
            | (go_at_call 6; have _t := tok1; refine (C1.out _).mono ?_; rintro e w1 ⟨q1, k1, rfl, s1, hb1⟩; have S1 := Lib.hid (s1.kept (alloc_below w1 (.cells (bdA 0 0) 25))); have HB1 := Lib.hid hb1; clear tok1 hb1 s1)
            | (go_at_call 6; have _t := tok2; refine (C2.out _).mono ?_; rintro e w2 ⟨q2, k2, rfl, s2, hb2⟩; have T1 := Lib.hid ((S1.out.kept hb2).kept (alloc_below w2 (.cells (bdA 0 0) 25))); have S2 := Lib.hid (s2.kept (alloc_below w2 (.cells (bdA 0 0) 25))); have K1 := Lib.hid ((Blk.new w1 25 (bdA 0 0)).kept hb2); have HB2 := Lib.hid (HB1.out.trans ((bel_new hb2).mono HB1.out.size)); clear tok2 hb2 s2)
            | (go_at_call 6; refine (C3.out _).mono ?_; rintro e w3 ⟨q3, k3, rfl, s3, hb3⟩; have U1 := Lib.hid ((T1.out.kept hb3).kept (alloc_below w3 (.cells (bdA 0 0) 25))); have U2 := Lib.hid ((S2.out.kept hb3).kept (alloc_below w3 (.cells (bdA 0 0) 25))); have U3 := Lib.hid (s3.kept (alloc_below w3 (.cells (bdA 0 0) 25))); have b1 := (K1.out.alloc _).kept hb3; have b2 := (Blk.new w2 25 (bdA 0 0)).kept hb3; have c0 := fun o' => (b1.alloc o').cell 0; have c1 := fun o' => (b1.alloc o').cell 1; have d0 := fun o' => (b2.alloc o').cell 0; have d1 := fun o' => (b2.alloc o').cell 1; have HB3 := Lib.hid (HB2.out.trans ((bel_new hb3).mono HB2.out.size)); clear hb3 b1 b2 s3))
          clear c0 c1 d0 d1
          obtain ⟨W0, hW0⟩ : ∃ W0, (w3.alloc (Obj.cells #[Value.int IntKind.i64 0, Value.int IntKind.i64 0] 25)) = W0 := ⟨_, rfl⟩
          have HW0 : Hid (Below w.heap.size w W0) := Lib.hid (by rw [← hW0]; exact HB3.out.alloc HB3.out.size _)
          have V1 : Hid (TkS W0 q1 ts) := Lib.hid (by rw [← hW0]; exact U1.out)
          have V2 : Hid (TkS W0 q2 vs) := Lib.hid (by rw [← hW0]; exact U2.out)
          have V3 : Hid (TkS W0 q3 cs) := Lib.hid (by rw [← hW0]; exact U3.out)
          rw [hW0]
          clear hW0 U1 U2 U3 S1 S2 T1 K1
          clear hlen
          go_loopw [11] (fun K wr => ∃ k : Nat, k ≤ n3 ∧ K = .int .i64 (k : Int) ∧ Below W0.heap.size W0 wr) (fun K _ => n3 - (intOf K).toNat)
          case atStart => exact ⟨0, Nat.zero_le _, rfl, Below.refl _ _⟩
          case round =>
            obtain ⟨k, hk, rfl, hBw⟩ := hrel
            by_cases hlt : k < n3
            · have hltI : (k : Int) < (n3 : Int) := by omega
              by_cases hu : k + 1 < n1
              · have huI : (k : Int) < (n1 : Int) - 1 := by omega
                have huJ : ¬ (n1 : Int) - 1 ≤ (k : Int) := by omega
                obtain ⟨⟨xk, xp, xn, xt⟩, hx1, hx3⟩ := HUS.out k hu
                obtain ⟨p1, rfl, x0, x1, x2, x3⟩ := (V1.out.kept hBw).get hx1
                obtain ⟨p3, rfl, y0, y1, y2, y3⟩ := (V3.out.kept hBw).get hx3
                have hE : ∀ w, (Op.equalIn 10000 37 (.agg #[.int .i64 xk, .int .i64 (xp : Int), .int .i64 xn, .string (Lx.S xt)]) (.agg #[.int .i64 xk, .int .i64 (xp : Int), .int .i64 xn, .string (Lx.S xt)])).run Tryd.prog w = .ok true w := fun w => by
                  have h := tok_eq xk xp xn xk xp xn (Lx.S xt) (Lx.S xt) w
                  simpa using h
                clear hx1 hx3
                have hk3 : (k : Int) < (n1 : Int) := by omega
                go_wp2
                go_quiet (fail)
                go_wp2
                exact ⟨⟨k + 1, by omega, by go_num, below_drewN hBw _⟩, by simp [intOf]; omega⟩
              · have huI : ¬ (k : Int) < (n1 : Int) - 1 := by omega
                have huJ : (n1 : Int) - 1 ≤ (k : Int) := by omega
                obtain ⟨⟨xk, xp, xn, xt⟩, hx2, hx3⟩ := HVS.out k hu hlt
                have hxp := HPOS.out _ _ hx2
                obtain ⟨j, hj⟩ : ∃ j, k + 1 - n1 = j := ⟨_, rfl⟩
                rw [hj] at hx2
                have hjI : (k : Int) - (n1 : Int) + 1 = (j : Int) := by omega
                have hj2 : j < n2 := by have := HN3.out; omega
                have hj2I : (j : Int) < (n2 : Int) := by omega
                obtain ⟨p2, rfl, x0, x1, x2, x3⟩ := (V2.out.kept hBw).get hx2
                obtain ⟨p3, rfl, y0, y1, y2, y3⟩ := (V3.out.kept hBw).get hx3
                simp only [Lx.Tok.on] at x0 x1 x2 x3 y0 y1 y2 y3 hxp
                obtain ⟨P, hP⟩ : ∃ P : Nat, xp + (a0.size + 1) = P := ⟨_, rfl⟩
                rw [hP] at y1
                have hxpI : (xp : Int) ≤ 20000 := by omega
                have hE : ∀ w, (Op.equalIn 10000 37 (.agg #[.int .i64 xk, .int .i64 (P : Int), .int .i64 xn, .string (Lx.S xt)]) (.agg #[.int .i64 xk, .int .i64 ((xp : Int) + (a0.size : Int) + 1), .int .i64 xn, .string (Lx.S xt)])).run Tryd.prog w = .ok true w := fun w => by
                  have h := tok_eq xk P xn xk ((xp : Int) + (a0.size : Int) + 1) xn (Lx.S xt) (Lx.S xt) w
                  rw [show (P : Int) = (xp : Int) + (a0.size : Int) + 1 from by omega] at h ⊢
                  simpa using h
                have hl2 := cell_lt x0
                have hl3 := cell_lt y0
                clear hx2 hx3 hP hj
                go_wp2
                have hgF : ((k : Int) < (n1 : Int) - 1) ↔ False := ⟨fun h => by omega, False.elim⟩
                go_quiet (fail)
                clear hgF
                have hBV : Below W0.heap.size W0 (wr.drewN nq) := below_drewN hBw nq
                have z0 : (wr.drewN nq).cell? (p2.add (j * 4)) = some (.int .i64 xk) := x0
                have z1 : (wr.drewN nq).cell? ⟨(p2.add (j * 4)).block, (p2.add (j * 4)).off + 1, none⟩ = some (.int .i64 (xp : Int)) := x1
                have z2 : (wr.drewN nq).cell? ⟨(p2.add (j * 4)).block, (p2.add (j * 4)).off + 2, none⟩ = some (.int .i64 xn) := x2
                have z3 : (wr.drewN nq).cell? ⟨(p2.add (j * 4)).block, (p2.add (j * 4)).off + 3, none⟩ = some (.string (Lx.S xt)) := x3
                have v0 : (wr.drewN nq).cell? (p3.add (k * 4)) = some (.int .i64 xk) := y0
                have v1 : (wr.drewN nq).cell? ⟨(p3.add (k * 4)).block, (p3.add (k * 4)).off + 1, none⟩ = some (.int .i64 (P : Int)) := y1
                have v2 : (wr.drewN nq).cell? ⟨(p3.add (k * 4)).block, (p3.add (k * 4)).off + 2, none⟩ = some (.int .i64 xn) := y2
                have v3 : (wr.drewN nq).cell? ⟨(p3.add (k * 4)).block, (p3.add (k * 4)).off + 3, none⟩ = some (.string (Lx.S xt)) := y3
                have g2 : (p2.add (j * 4)).block < (wr.drewN nq).heap.size := hl2
                have g3 : (p3.add (k * 4)).block < (wr.drewN nq).heap.size := hl3
                clear x0 x1 x2 x3 y0 y1 y2 y3 hl2 hl3
                generalize wr.drewN nq = V at hBV z0 z1 z2 z3 v0 v1 v2 v3 g2 g3 ⊢
                go_wp2
                go_quiet (fail)
                go_wp2
                exact ⟨⟨k + 1, by omega, by go_num, below_drewN (hBV.alloc hBV.size _) _⟩, by simp [intOf]; omega⟩
            · have hge : ¬ (k : Int) < (n3 : Int) := by omega
              go_wp2_with (go_at_call 9; refine (CL.out _).mono ?_; rintro e w4 ⟨rfl, hb4⟩)
              go_ret
              exact ⟨rfl, HW0.out.trans ((hBw.trans (hb4.mono hBw.size)).mono HW0.out.size)⟩

set_option maxRecDepth 100000 in
theorem lifted (os : Os) (started : os.Started) (H : Type) (enc : TypeId × Value → H) :
    ReturnsInHanded {} Tryd.checked os 4 .any (fun w args => (Rows.lexJoinsSpec.pre enc Tryd.prog Tryd.f4 Rows.lexJoinsRow.domain false w args ∧ laidMetH Tryd.prog Rows.lexJoinsRow.laid w) ∧ sizedMet enc Tryd.prog Tryd.f4 (OpenSpec.ofChange Rows.lexJoinsSpec) false w args)
      (Rows.lexJoinsSpec.post enc Tryd.prog Tryd.f4 false true false false) := by
  refine returnsInHanded_of_change_and (C := Tryd.checked) (X := fun w _ => laidMetH Tryd.prog Rows.lexJoinsRow.laid w) (fun _ _ _ hh h => h.of_heap hh) own started (by kernel_rfl) Tryd.func4
    (ChangeSpec.witness_shaped (enc := enc) (C := Tryd.checked) (os := os) (X := fun w _ => laidMetH Tryd.prog Rows.lexJoinsRow.laid w) false (World.laidAll Tryd.prog os Rows.lexJoinsRow.laid) #[.string ByteArray.empty, .string ByteArray.empty] 8 (World.laidAll_os _ _ _)
      (World.shaped_of_ZipB (by kernel_rfl) (by kernel_rfl)) (by kernel_rfl) (by kernel_rfl) (by kernel_rfl)
      (by rw [MakeChecks.laidMetH_plain _ _ _ (by kernel_rfl)]; exact laidMet_laidAll _ (by kernel_rfl) (by kernel_rfl))) ?_
  intro W base args ds gs before hval0 hW hcnd hsz hL _
  have hval : ∀ (j : Nat) t v, Tryd.f4.params[j]? = some t → args[j]? = some v → Value.okWide Tryd.prog W .any base t v := hval0
  have hW' := hW
  obtain ⟨p, q, hA0, hV, rfl, hfz, hnd⟩ := hW
  have hA : DataW.TrodAll enc Tryd.prog W 0 (fun _ => true) true Tryd.f4.params.toList args.toList ds p := hA0
  rw [Tryd.params4] at hA hval
  obtain ⟨v0, vs0, d0, ds0, p0, q0, hargs, rfl, rfl, h0, r0⟩ := trodAll_cons hA
  obtain ⟨v1, vs1, d1, ds1, p1, q1, rfl, rfl, rfl, h1, r1⟩ := trodAll_cons r0
  obtain ⟨rfl, rfl, rfl⟩ := trodAll_nil r1
  obtain rfl : args = #[v0, v1] := by cases args; simp_all
  obtain ⟨rfl, rfl⟩ := trodVars_none hV
  obtain ⟨a0, rfl, rfl, rfl, m0⟩ := open_string Tryd.underlying9 (hval 0 9 v0 rfl rfl) h0
  have w0 : a0.size ≤ reachBytes := by
    have := sized_string hsz (j := 0) (t := 9) (bytes := a0.data.toList) rfl rfl
    simpa using this
  obtain ⟨a1, rfl, rfl, rfl, m1⟩ := open_string Tryd.underlying9 (hval 1 9 v1 rfl rfl) h1
  have w1 : a1.size ≤ reachBytes := by
    have := sized_string hsz (j := 1) (t := 9) (bytes := a1.data.toList) rfl rfl
    simpa using this
  clear hA0 hval0
  refine (walk a0 a1 w0 w1 W).mono fun e W' ⟨he, bel⟩ => ?_
  subst he
  exact ⟨_, rfl, _, _, _, [], _, [], hW', trodAll_mk1 (shut_bool Tryd.underlying4 _), (trodAll_cons_mk (shut_string Tryd.underlying9 m0) (trodAll_cons_mk (shut_string Tryd.underlying9 m1) trodAll_mk0)), rfl, bel.frame _, fun h => by cases h⟩

theorem over : Rows.lexJoinsRow.holds Tryd.pinned (OpenSpec.ofChange Rows.lexJoinsSpec) :=
  OpenClaim.holds_of_wide 4 Tryd.f4 rfl rfl rfl rfl rfl rfl rfl ⟨rfl, rfl, rfl, rfl, rfl⟩ rfl rfl rfl rfl rfl (by kernel_rfl) Tryd.func4 (by kernel_rfl)
    (of_decide_eq_true (by kernel_rfl)) (by unfold Func.isWrapper; first | (rw [if_pos (by decide +kernel)]; kernel_rfl) | (rw [if_neg (by decide +kernel)]; exact ⟨rfl, rfl⟩))
    (fun os started H enc _ => lifted os started H enc)

/-- the statement: the card -/
theorem proved : Rows.LexJoinsCardSaid :=
  Claim7.holds_tied_plain_at .later [] [.data, .pinned] true (true, "a4342d2894337cbb3fe07919dcee0dda5607a9754a19cb1bc71c0fc3f39993a4") false over (fun _ h => by cases h) (by kernel_rfl) (fun _ h => by cases h) lexJoins_row_tie rfl ⟨rfl, rfl⟩ (by kernel_rfl) rfl
    (fun f fn hf hfn => by
      obtain rfl : f = 4 := Option.some.inj ((show Tryd.prog.funcNamed Rows.lexJoinsRow.func = some 4 by kernel_rfl).symm.trans hf) |>.symm
      obtain rfl : fn = Tryd.f4 := (Option.some.inj (Tryd.func4.symm.trans hfn)).symm
      exact ⟨by kernel_rfl, fun j t ht => by
        rw [Tryd.params4] at ht
        have hm : t ∈ [9, 9] := by simpa using Array.mem_of_getElem? ht
        have hall : ([9, 9].all fun u => !Tryd.prog.wantsStandIn u) = true := by kernel_rfl
        exact (show Tryd.prog.wantsStandIn t = false by simpa using List.all_eq_true.1 hall t hm)⟩)
    (by kernel_rfl)
#print axioms proved
end Go.Proofs.YtknbnfnibdbokaaDoor.lexJoins
