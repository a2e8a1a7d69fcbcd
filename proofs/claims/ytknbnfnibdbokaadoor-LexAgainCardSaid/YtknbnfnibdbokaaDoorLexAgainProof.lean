/-
  Law LexAgain: The tokens of a text, written with a blank behind each, are those tokens; each one's text stands where it says.
  Conditions: none but those of the given row.
-/
import Derived.Test.YtknbnfnibdbokaaDoorRows
import Derived.Test.YtknbnfnibdbokaaDoorLxZ
import Derived.Test.YtknbnfnibdbokaaDoorCards
import Derived.Test.YtknbnfnibdbokaaDoorTie
import Derived.LaidMore
import Derived.Lay
import Derived.SevenTiedAt
import Derived.Stop.Joined
import Derived.Handed
import Derived.WalkKit
import Derived.ProofKit
import Derived.OpenShut
import Derived.ShutString
import Derived.ChangeOld
import Derived.Below
import Derived.LoopN
import Derived.SizedLaws
import Derived.Deep.Cut
import Derived.Deep.CutRange
namespace Go.Proofs.YtknbnfnibdbokaaDoor.lexAgain
open Go.ChangeShapes Go.WideShapes Go.ChangeAt Go.RowKit
open Go.ChangeMaps (open_string shut_string)
set_option linter.unusedVariables false
set_option linter.unusedSimpArgs false

theorem own : ownKnob Tryd.prog.godebug = none := by kernel_rfl
theorem laidOut : laidOutB Tryd.prog = true := by kernel_rfl

set_option maxRecDepth 100000 in set_option maxHeartbeats 32000000 in
theorem walk (a0 : ByteArray) (w0 : a0.size ≤ reachBytes) (w : World) :
    Calls Tryd.prog 5 #[.string a0] w fun e w' => e = .returned (.bool true) ∧ Below w.heap.size w w' := by
  have CL := Lib.hid lives_any
  have hsz : a0.size ≤ 281474976710000 := by unfold reachBytes at w0; omega
  clear w0
  obtain ⟨i0, hi, hz0, hz1, hz2⟩ := info_parts Tryd.infoInt
  rcases hA : Lx.lex a0.data.toList with ⟨q, n⟩ | ts
  · have C1 := Lib.hid fun w => lex_no a0 (by omega) hA w
    have hq := (Lx.lex_err hA).1
    have hqb : (q == 0) = false := by rcases hq with rfl | rfl <;> rfl
    have hqn : (q != 0) = true := by rcases hq with rfl | rfl <;> rfl
    clear hA hq
    go_enter Tryd.func5, Tryd.ntmps5
    go_wp2_with (first
      | (go_at_call 6; refine (C1.out _).mono ?_; rintro e w1 ⟨rfl, hb1⟩; have HB1 := Lib.hid hb1; clear hb1)
      | (go_at_call 9; refine (CL.out _).mono ?_; rintro e w4 ⟨rfl, hb4⟩))
    go_ret
    exact ⟨rfl, HB1.out.trans ((bel_new hb4).mono HB1.out.size)⟩
  · obtain ⟨us, hus, hgood, hpair⟩ := Lx.lex_shape hA
    have hlen65 := Lx.lex_len hA
    obtain ⟨n1, hn1⟩ : ∃ n1, ts.length = n1 := ⟨_, rfl⟩
    have hU : n1 = us.length + 1 := by rw [← hn1, hus]; simp
    have C1 := Lib.hid fun w => lex_ok a0 (by omega) hA hn1 w
    have hz := Lib.size_eq a0
    have hn1I : (n1 : Int) ≤ 65537 := by omega
    have hn1p : (0 : Int) < (n1 : Int) := by omega
    have hn10 : ((n1 : Int) == 0) = false := by simp; omega
    -- a token that is not the end
    have HT : Hid (∀ k, k + 1 < n1 → ∃ x, ts[k]? = some x ∧ us[k]? = some x ∧ Lx.good x ∧ Lx.stands a0.data.toList 0 x) := Lib.hid (fun k hk => by
      have hk' : k < us.length := by omega
      exact ⟨us[k], by rw [hus, List.getElem?_append_left hk', List.getElem?_eq_getElem hk'], List.getElem?_eq_getElem hk', (hgood _ (List.getElem_mem hk')).1, (hgood _ (List.getElem_mem hk')).2⟩)
    have HTE : Hid (∀ k, k + 1 = n1 → ts[k]? = some ⟨0, a0.size, 0, []⟩ ∧ us[k]? = none) := Lib.hid (fun k hk => by
      have hk' : k = us.length := by omega
      subst hk'
      exact ⟨by rw [hus, List.getElem?_append_right (Nat.le_refl _), Nat.sub_self, hz]; rfl, List.getElem?_eq_none (Nat.le_refl _)⟩)
    have HORD : Hid (∀ (k : Nat) (x y : Lx.Tok), us[k]? = some x → us[k + 1]? = some y → x.pos < y.pos) := Lib.hid (fun k x y hx hy => by
      obtain ⟨h1, rfl⟩ := List.getElem?_eq_some_iff.1 hx
      obtain ⟨h2, rfl⟩ := List.getElem?_eq_some_iff.1 hy
      exact List.pairwise_iff_getElem.1 hpair k (k + 1) h1 h2 (by omega))
    have HUL : Hid (us.length + 1 = n1) := Lib.hid hU.symm
    have HLEX : Hid (∀ h : (Lx.all us).length ≤ 65536, Lx.lex (Lx.all us) = .ok (Lx.again 0 us ++ [⟨0, (Lx.all us).length, 0, []⟩])) := Lib.hid (fun h => Lx.lex_again us (fun x hx => (hgood x hx).1) h)
    have HALL : Hid (Lx.all (us.take n1) = Lx.all us) := Lib.hid (by rw [List.take_of_length_le (by omega)])
    have HZ := Lib.hid hz
    clear hA hus hgood hpair hlen65 hn1 hU hz
    go_enter Tryd.func5, Tryd.ntmps5
    go_wp2_with (first
      | (go_at_call 6; refine (C1.out _).mono ?_; rintro e w1 ⟨q1, k1, rfl, s1, hb1⟩; have S1 := Lib.hid (s1.kept (alloc_below w1 (.cells (bdA 0 0) 25))); have HB1 := Lib.hid hb1; clear hb1 s1))
    obtain ⟨W0, hW0⟩ : ∃ W0, (w1.alloc (Obj.cells #[Value.int IntKind.i64 0, Value.int IntKind.i64 0] 25)) = W0 := ⟨_, rfl⟩
    have HW0 : Hid (Below w.heap.size w W0) := Lib.hid (by rw [← hW0]; exact HB1.out.alloc HB1.out.size _)
    have V1 : Hid (TkS W0 q1 ts) := Lib.hid (by rw [← hW0]; exact S1.out)
    rw [hW0]
    clear hW0 S1
    go_loopw [5, 6, 7] (fun T A K wr => ∃ k : Nat, k ≤ n1 ∧ K = .int .i64 (k : Int) ∧ T = .string (Lx.S (Lx.all (us.take k))) ∧ Hid ((Lx.all (us.take k)).length ≤ 65536) ∧ wr.ownsRow W0.heap.size 3 1 A (Lx.ats us k).length ((Lx.ats us k).flatMap natC) ∧ Below W0.heap.size W0 wr) (fun _ _ K _ => n1 - (intOf K).toNat)
    case atStart => exact ⟨0, Nat.zero_le _, rfl, rfl, Lib.hid (by rw [List.take_zero]; exact Nat.zero_le 65536), World.ownsRow_nil _ _ _ _, Below.refl _ _⟩
    case round =>
      obtain ⟨k, hk, rfl, rfl, HL, hrow, hBw⟩ := hrel
      obtain ⟨T, hT⟩ : ∃ T, Lx.S (Lx.all (us.take k)) = T := ⟨_, rfl⟩
      have hTs : T.size ≤ 65536 := by rw [← hT, Lx.S_size]; exact HL.out
      have hTI : (T.size : Int) ≤ 65536 := by omega
      rw [hT]
      have HTT := Lib.hid hT
      have HRW := Lib.hid hrow
      clear hT hTs hrow
      by_cases hlt : k < n1
      · have hltI : (k : Int) < (n1 : Int) := by omega
        by_cases hu : k + 1 < n1
        · by_cases hk0 : k = 0
          · have hkne : ((k : Int) == (n1 : Int) - 1) = false := by rw [beq_eq_false_iff_ne]; omega
            obtain ⟨⟨xk, xp, xn, xt⟩, hx1, hx2, hxg, hxs⟩ := HT.out k hu
            obtain ⟨p1, rfl, x0, x1, x2, x3⟩ := (V1.out.kept hBw).get hx1
            obtain ⟨X, hX⟩ : ∃ X, Lx.S xt = X := ⟨_, rfl⟩
            have hXs : X.size = xt.length := by rw [← hX, Lx.S_size]
            have hXl : X.toList = xt := by rw [← hX, Lib.toList_data]; rfl
            have hYl := Lx.text_len hxg
            obtain ⟨hg1, hg2, hg3, hg4, hg5, _, hg7, _⟩ := hxg
            obtain ⟨hs1, hs2, hs3⟩ := hxs
            simp only at x0 x1 x2 x3 hg1 hg2 hg3 hg4 hg5 hg7 hs2 hs3
            rw [← HZ.out] at hs2 hs3
            have CT := Lib.hid fun w => rtext_tok xk xp xn xt hg3 w
            obtain ⟨Y, hY⟩ : ∃ Y, Lx.S (Lx.text ⟨xk, xp, xn, xt⟩) = Y := ⟨_, rfl⟩
            rw [hX] at x3
            rw [hX, hY] at CT
            have hYs : Y.size ≤ 40 := by rw [← hY, Lx.S_size]; exact hYl
            obtain ⟨T2, hT2⟩ : ∃ T2, T ++ Y ++ ({ data := #[32] } : ByteArray) = T2 := ⟨_, rfl⟩
            have hT2e : T2 = Lx.S (Lx.all (us.take (k + 1))) := by rw [← hT2, ← HTT.out, ← hY, S_write, Lx.all_step us k _ hx2]
            have HT2 : Hid (T2 = Lx.S (Lx.all (us.take (k + 1))) ∧ (Lx.all (us.take (k + 1))).length = T2.size) := Lib.hid ⟨hT2e, by rw [hT2e, Lx.S_size]⟩
            have HTA : Hid (T.size = Lx.at' us k) := Lib.hid (by rw [← HTT.out, Lx.S_size]; rfl)
            have hxk0 : (xk == 0) = false := by simp; omega
            have hxpI : (xp : Int) < (a0.size : Int) := by omega
            have h10a : ¬ (xp : Int) < 0 := by omega
            have h10b : ¬ (a0.size : Int) < (xp : Int) := by omega
            have HORDK : Hid (∀ m y, m + 1 = k → us[m]? = some y → y.pos < xp) := Lib.hid (fun m y hm hy => by subst hm; exact HORD.out m y _ hy hx2)
            have h12 : xk ≠ 2 → xp + X.size ≤ a0.size ∧ a0.extract xp (xp + X.size) = X := fun h => by
              obtain ⟨h1, h2⟩ := hs3 h
              refine ⟨by omega, ?_⟩
              rw [Lx.S_ext, show xp + X.size - xp = xt.length from by omega, h2, hX]
            have H12 := Lib.hid h12
            clear hX hXs hYl hg1 hg2 hg3 hg4 hg5 hg7 hs1 hs2 hs3 hY hT2e hx1 hx2 h12
            have HK0 : Hid (k = 0) := Lib.hid hk0
            clear hk0
            go_wp2
            obtain ⟨V, hV⟩ : ∃ V, wr.alloc (Obj.cells #[Value.int IntKind.i64 xk, Value.int IntKind.i64 (xp : Int), Value.int IntKind.i64 xn, Value.string X] 37) = V := ⟨_, rfl⟩
            have HX : Hid (Blk V wr.heap.size 37 4 (tkA xk (xp : Int) xn X)) := Lib.hid (by rw [← hV]; exact Blk.new wr _ _)
            have HS : Hid (TkS V (some p1) ts) := Lib.hid (by rw [← hV]; exact (V1.out.kept hBw).kept (alloc_below wr _))
            have HB : Hid (Below W0.heap.size W0 V) := Lib.hid (by rw [← hV]; exact hBw.alloc hBw.size _)
            have HR : Hid (V.ownsRow W0.heap.size 3 1 u6 (Lx.ats us k).length ((Lx.ats us k).flatMap natC)) := Lib.hid (by rw [← hV]; exact HRW.out.alloc _)
            have HNE : Hid (∀ j, u6.ownBlock = some j → j < wr.heap.size) := Lib.hid (own_lt HRW.out)
            have HGE : Hid (∀ j, u6.ownBlock = some j → W0.heap.size ≤ j) := Lib.hid (own_ge HRW.out)
            rw [hV]
            clear hV x0 x1 x2 x3
            obtain ⟨bx, hbx⟩ : ∃ bx, wr.heap.size = bx := ⟨_, rfl⟩
            rw [hbx] at HX HNE ⊢
            have HBX : Hid (W0.heap.size ≤ bx) := Lib.hid (by rw [← hbx]; exact hBw.size)
            clear hbx
            have z0 := HX.out.cell 0
            have z1 := HX.out.cell 1
            have z2 := HX.out.cell 2
            have z3 := HX.out.cell 3
            go_wp2
            have f1 : ((xp : Int) < 0) ↔ False := ⟨fun h => by omega, False.elim⟩
            have f2 : ((a0.size : Int) < (xp : Int)) ↔ False := ⟨fun h => by omega, False.elim⟩
            have f3 : (0 < k) ↔ False := ⟨fun h => by have := HK0.out; omega, False.elim⟩
            go_quiet (fail)
            clear f1 f2 f3
            clear z0 z1 z2 z3
            replace HX := Lib.hid (HX.out.drewN nq)
            replace HS := Lib.hid (HS.out.drewN nq)
            replace HB := Lib.hid (below_drewN HB.out nq)
            replace HR : Hid ((V.drewN nq).ownsRow W0.heap.size 3 1 u6 (Lx.ats us k).length ((Lx.ats us k).flatMap natC)) := Lib.hid HR.out
            generalize V.drewN nq = V2 at HX HS HB HR ⊢
            have z0 := HX.out.cell 0
            have z1 := HX.out.cell 1
            have z2 := HX.out.cell 2
            have z3 := HX.out.cell 3
            by_cases hk2 : xk = 2
            · have hk2b : (xk == 2) = true := by simp [hk2]
              have hk2n : (xk != 2) = false := by simp [hk2]
              clear hk2
              go_wp2

              go_quiet (fail)
              skip
              clear z0 z1 z2 z3
              replace HX := Lib.hid (HX.out.drewN nq)
              replace HS := Lib.hid (HS.out.drewN nq)
              replace HB := Lib.hid (below_drewN HB.out nq)
              replace HR : Hid ((V2.drewN nq).ownsRow W0.heap.size 3 1 u6 (Lx.ats us k).length ((Lx.ats us k).flatMap natC)) := Lib.hid HR.out
              generalize V2.drewN nq = V3 at HX HS HB HR ⊢
              have z0 := HX.out.cell 0
              have z1 := HX.out.cell 1
              have z2 := HX.out.cell 2
              have z3 := HX.out.cell 3
              clear z0 z1 z2 z3
              by_cases hbig : (65536 : Int) < (T2.size : Int)
              · go_wp2_with (first
                  | (at_builtin; refine wpList_append_own _ rfl _ _ 39 rfl W0.heap.size 3 i0 (.int .i64 0) 1 8 Tryd.underlying39 hi hz0 hz1 hz2 rfl (by decide) _ _ _ rfl (HR.out.alloc _) ⟨V3.heap.size, 0, none⟩ 1 1 (natC T.size) rfl rfl (cell_one_new _ _ _) (by simp [natC, Value.oneCell']) (by rw [Lx.ats_len]; unfold maxLen; omega) (by rw [Lx.ats_len]; omega) (by have := HB.out.size; simp; omega) ?_; intro v' w7 hown' hgrow' hnil'; have HO7 := Lib.hid hown'; have HX7 := Lib.hid ((HX.out.alloc _).grown hgrow' HNE.out); have HB7 := Lib.hid ((HB.out.alloc HB.out.size _).grown hgrow' (by have := HB.out.size; simp; omega) HGE.out); have c0 := HX7.out.cell 0; have c1 := HX7.out.cell 1; have c2 := HX7.out.cell 2; have c3 := HX7.out.cell 3; clear hown' hgrow' hnil')
                  | (go_at_call 10; refine (CT.out _).mono ?_; rintro e w8 ⟨rfl, hb8⟩; have HB8 := Lib.hid (HB7.out.trans (hb8.mono HB7.out.size)); have HO8 := Lib.hid (own_below HO7.out hb8); clear hb8)
                  | (go_at_call 9; refine (CL.out _).mono ?_; rintro e w9 ⟨rfl, hb9⟩))
                go_ret
                exact ⟨rfl, HW0.out.trans ((HB8.out.trans (hb9.mono HB8.out.size)).mono HW0.out.size)⟩
              · have hbig' : ¬ (65536 : Int) < (T2.size : Int) := hbig
                go_wp2_with (first
                  | (at_builtin; refine wpList_append_own _ rfl _ _ 39 rfl W0.heap.size 3 i0 (.int .i64 0) 1 8 Tryd.underlying39 hi hz0 hz1 hz2 rfl (by decide) _ _ _ rfl (HR.out.alloc _) ⟨V3.heap.size, 0, none⟩ 1 1 (natC T.size) rfl rfl (cell_one_new _ _ _) (by simp [natC, Value.oneCell']) (by rw [Lx.ats_len]; unfold maxLen; omega) (by rw [Lx.ats_len]; omega) (by have := HB.out.size; simp; omega) ?_; intro v' w7 hown' hgrow' hnil'; have HO7 := Lib.hid hown'; have HX7 := Lib.hid ((HX.out.alloc _).grown hgrow' HNE.out); have HB7 := Lib.hid ((HB.out.alloc HB.out.size _).grown hgrow' (by have := HB.out.size; simp; omega) HGE.out); have c0 := HX7.out.cell 0; have c1 := HX7.out.cell 1; have c2 := HX7.out.cell 2; have c3 := HX7.out.cell 3; clear hown' hgrow' hnil')
                  | (go_at_call 10; refine (CT.out _).mono ?_; rintro e w8 ⟨rfl, hb8⟩; have HB8 := Lib.hid (HB7.out.trans (hb8.mono HB7.out.size)); have HO8 := Lib.hid (own_below HO7.out hb8); clear hb8)
                  | (go_at_call 9; refine (CL.out _).mono ?_; rintro e w9 ⟨rfl, hb9⟩))
                refine ⟨⟨k + 1, by omega, by go_num, by rw [HT2.out.1], Lib.hid (by rw [HT2.out.2]; omega), ?_, HB8.out⟩, by simp [intOf]; omega⟩
                have h8 := HO8.out
                rw [Lx.ats_step, List.length_append, List.flatMap_append]
                rw [HTA.out] at h8
                simpa using h8
            · have hk2b : (xk == 2) = false := by simp [hk2]
              have hk2n : (xk != 2) = true := by simp [bne, hk2]
              have h13 := H12.out hk2
              have h13a := h13.1
              have h13b : ¬ (a0.size : Int) < (xp : Int) + (X.size : Int) := by omega
              have E := run_cut a0 xp (xp + X.size) ((xp : Int) + (X.size : Int)) (by omega) (by omega) h13a
              rw [h13.2] at E
              have hXX : (X.toList == X.toList) = true := by simp
              clear hk2 h13 h13a
              go_wp2
              have f4 : ((a0.size : Int) < (xp : Int) + (X.size : Int)) ↔ False := ⟨fun h => by omega, False.elim⟩
              go_quiet (fail)
              clear f4
              clear z0 z1 z2 z3
              replace HX := Lib.hid (HX.out.drewN nq)
              replace HS := Lib.hid (HS.out.drewN nq)
              replace HB := Lib.hid (below_drewN HB.out nq)
              replace HR : Hid ((V2.drewN nq).ownsRow W0.heap.size 3 1 u6 (Lx.ats us k).length ((Lx.ats us k).flatMap natC)) := Lib.hid HR.out
              generalize V2.drewN nq = V3 at HX HS HB HR ⊢
              have z0 := HX.out.cell 0
              have z1 := HX.out.cell 1
              have z2 := HX.out.cell 2
              have z3 := HX.out.cell 3
              clear z0 z1 z2 z3
              by_cases hbig : (65536 : Int) < (T2.size : Int)
              · go_wp2_with (first
                  | (at_builtin; refine wpList_append_own _ rfl _ _ 39 rfl W0.heap.size 3 i0 (.int .i64 0) 1 8 Tryd.underlying39 hi hz0 hz1 hz2 rfl (by decide) _ _ _ rfl (HR.out.alloc _) ⟨V3.heap.size, 0, none⟩ 1 1 (natC T.size) rfl rfl (cell_one_new _ _ _) (by simp [natC, Value.oneCell']) (by rw [Lx.ats_len]; unfold maxLen; omega) (by rw [Lx.ats_len]; omega) (by have := HB.out.size; simp; omega) ?_; intro v' w7 hown' hgrow' hnil'; have HO7 := Lib.hid hown'; have HX7 := Lib.hid ((HX.out.alloc _).grown hgrow' HNE.out); have HB7 := Lib.hid ((HB.out.alloc HB.out.size _).grown hgrow' (by have := HB.out.size; simp; omega) HGE.out); have c0 := HX7.out.cell 0; have c1 := HX7.out.cell 1; have c2 := HX7.out.cell 2; have c3 := HX7.out.cell 3; clear hown' hgrow' hnil')
                  | (go_at_call 10; refine (CT.out _).mono ?_; rintro e w8 ⟨rfl, hb8⟩; have HB8 := Lib.hid (HB7.out.trans (hb8.mono HB7.out.size)); have HO8 := Lib.hid (own_below HO7.out hb8); clear hb8)
                  | (go_at_call 9; refine (CL.out _).mono ?_; rintro e w9 ⟨rfl, hb9⟩))
                go_ret
                exact ⟨rfl, HW0.out.trans ((HB8.out.trans (hb9.mono HB8.out.size)).mono HW0.out.size)⟩
              · have hbig' : ¬ (65536 : Int) < (T2.size : Int) := hbig
                go_wp2_with (first
                  | (at_builtin; refine wpList_append_own _ rfl _ _ 39 rfl W0.heap.size 3 i0 (.int .i64 0) 1 8 Tryd.underlying39 hi hz0 hz1 hz2 rfl (by decide) _ _ _ rfl (HR.out.alloc _) ⟨V3.heap.size, 0, none⟩ 1 1 (natC T.size) rfl rfl (cell_one_new _ _ _) (by simp [natC, Value.oneCell']) (by rw [Lx.ats_len]; unfold maxLen; omega) (by rw [Lx.ats_len]; omega) (by have := HB.out.size; simp; omega) ?_; intro v' w7 hown' hgrow' hnil'; have HO7 := Lib.hid hown'; have HX7 := Lib.hid ((HX.out.alloc _).grown hgrow' HNE.out); have HB7 := Lib.hid ((HB.out.alloc HB.out.size _).grown hgrow' (by have := HB.out.size; simp; omega) HGE.out); have c0 := HX7.out.cell 0; have c1 := HX7.out.cell 1; have c2 := HX7.out.cell 2; have c3 := HX7.out.cell 3; clear hown' hgrow' hnil')
                  | (go_at_call 10; refine (CT.out _).mono ?_; rintro e w8 ⟨rfl, hb8⟩; have HB8 := Lib.hid (HB7.out.trans (hb8.mono HB7.out.size)); have HO8 := Lib.hid (own_below HO7.out hb8); clear hb8)
                  | (go_at_call 9; refine (CL.out _).mono ?_; rintro e w9 ⟨rfl, hb9⟩))
                refine ⟨⟨k + 1, by omega, by go_num, by rw [HT2.out.1], Lib.hid (by rw [HT2.out.2]; omega), ?_, HB8.out⟩, by simp [intOf]; omega⟩
                have h8 := HO8.out
                rw [Lx.ats_step, List.length_append, List.flatMap_append]
                rw [HTA.out] at h8
                simpa using h8
          · have hkne : ((k : Int) == (n1 : Int) - 1) = false := by rw [beq_eq_false_iff_ne]; omega
            obtain ⟨⟨xk, xp, xn, xt⟩, hx1, hx2, hxg, hxs⟩ := HT.out k hu
            obtain ⟨p1, rfl, x0, x1, x2, x3⟩ := (V1.out.kept hBw).get hx1
            obtain ⟨X, hX⟩ : ∃ X, Lx.S xt = X := ⟨_, rfl⟩
            have hXs : X.size = xt.length := by rw [← hX, Lx.S_size]
            have hXl : X.toList = xt := by rw [← hX, Lib.toList_data]; rfl
            have hYl := Lx.text_len hxg
            obtain ⟨hg1, hg2, hg3, hg4, hg5, _, hg7, _⟩ := hxg
            obtain ⟨hs1, hs2, hs3⟩ := hxs
            simp only at x0 x1 x2 x3 hg1 hg2 hg3 hg4 hg5 hg7 hs2 hs3
            rw [← HZ.out] at hs2 hs3
            have CT := Lib.hid fun w => rtext_tok xk xp xn xt hg3 w
            obtain ⟨Y, hY⟩ : ∃ Y, Lx.S (Lx.text ⟨xk, xp, xn, xt⟩) = Y := ⟨_, rfl⟩
            rw [hX] at x3
            rw [hX, hY] at CT
            have hYs : Y.size ≤ 40 := by rw [← hY, Lx.S_size]; exact hYl
            obtain ⟨T2, hT2⟩ : ∃ T2, T ++ Y ++ ({ data := #[32] } : ByteArray) = T2 := ⟨_, rfl⟩
            have hT2e : T2 = Lx.S (Lx.all (us.take (k + 1))) := by rw [← hT2, ← HTT.out, ← hY, S_write, Lx.all_step us k _ hx2]
            have HT2 : Hid (T2 = Lx.S (Lx.all (us.take (k + 1))) ∧ (Lx.all (us.take (k + 1))).length = T2.size) := Lib.hid ⟨hT2e, by rw [hT2e, Lx.S_size]⟩
            have HTA : Hid (T.size = Lx.at' us k) := Lib.hid (by rw [← HTT.out, Lx.S_size]; rfl)
            have hxk0 : (xk == 0) = false := by simp; omega
            have hxpI : (xp : Int) < (a0.size : Int) := by omega
            have h10a : ¬ (xp : Int) < 0 := by omega
            have h10b : ¬ (a0.size : Int) < (xp : Int) := by omega
            have HORDK : Hid (∀ m y, m + 1 = k → us[m]? = some y → y.pos < xp) := Lib.hid (fun m y hm hy => by subst hm; exact HORD.out m y _ hy hx2)
            have h12 : xk ≠ 2 → xp + X.size ≤ a0.size ∧ a0.extract xp (xp + X.size) = X := fun h => by
              obtain ⟨h1, h2⟩ := hs3 h
              refine ⟨by omega, ?_⟩
              rw [Lx.S_ext, show xp + X.size - xp = xt.length from by omega, h2, hX]
            have H12 := Lib.hid h12
            clear hX hXs hYl hg1 hg2 hg3 hg4 hg5 hg7 hs1 hs2 hs3 hY hT2e hx1 hx2 h12
            obtain ⟨m, hm⟩ : ∃ m, m + 1 = k := ⟨k - 1, by omega⟩
            obtain ⟨⟨yk, yp, yn, yt⟩, hy1, hy2, _, _⟩ := HT.out m (by omega)
            have hyx := HORDK.out m _ hm hy2
            simp only at hyx
            have hmI : (k : Int) - 1 = (m : Int) := by omega
            have hml : (m : Int) < (n1 : Int) := by omega
            have hkp : (0 : Int) < (k : Int) := by omega
            clear hy2 hk0 hm
            go_wp2
            obtain ⟨V, hV⟩ : ∃ V, wr.alloc (Obj.cells #[Value.int IntKind.i64 xk, Value.int IntKind.i64 (xp : Int), Value.int IntKind.i64 xn, Value.string X] 37) = V := ⟨_, rfl⟩
            have HX : Hid (Blk V wr.heap.size 37 4 (tkA xk (xp : Int) xn X)) := Lib.hid (by rw [← hV]; exact Blk.new wr _ _)
            have HS : Hid (TkS V (some p1) ts) := Lib.hid (by rw [← hV]; exact (V1.out.kept hBw).kept (alloc_below wr _))
            have HB : Hid (Below W0.heap.size W0 V) := Lib.hid (by rw [← hV]; exact hBw.alloc hBw.size _)
            have HR : Hid (V.ownsRow W0.heap.size 3 1 u6 (Lx.ats us k).length ((Lx.ats us k).flatMap natC)) := Lib.hid (by rw [← hV]; exact HRW.out.alloc _)
            have HNE : Hid (∀ j, u6.ownBlock = some j → j < wr.heap.size) := Lib.hid (own_lt HRW.out)
            have HGE : Hid (∀ j, u6.ownBlock = some j → W0.heap.size ≤ j) := Lib.hid (own_ge HRW.out)
            rw [hV]
            clear hV x0 x1 x2 x3
            obtain ⟨bx, hbx⟩ : ∃ bx, wr.heap.size = bx := ⟨_, rfl⟩
            rw [hbx] at HX HNE ⊢
            have HBX : Hid (W0.heap.size ≤ bx) := Lib.hid (by rw [← hbx]; exact hBw.size)
            clear hbx
            have z0 := HX.out.cell 0
            have z1 := HX.out.cell 1
            have z2 := HX.out.cell 2
            have z3 := HX.out.cell 3
            go_wp2
            obtain ⟨pp, hpp, y0, y1, y2, y3⟩ := HS.out.get hy1
            cases hpp
            simp only at y0 y1 y2 y3
            have f1 : ((xp : Int) < 0) ↔ False := ⟨fun h => by omega, False.elim⟩
            have f2 : ((a0.size : Int) < (xp : Int)) ↔ False := ⟨fun h => by omega, False.elim⟩
            have f3 : (xp ≤ yp) ↔ False := ⟨fun h => by omega, False.elim⟩
            have f5 : (0 < k) ↔ True := ⟨fun _ => trivial, fun _ => by omega⟩
            go_quiet (fail)
            clear f1 f2 f3 f5
            clear z0 z1 z2 z3 y0 y1 y2 y3
            replace HX := Lib.hid (HX.out.drewN nq)
            replace HS := Lib.hid (HS.out.drewN nq)
            replace HB := Lib.hid (below_drewN HB.out nq)
            replace HR : Hid ((V.drewN nq).ownsRow W0.heap.size 3 1 u6 (Lx.ats us k).length ((Lx.ats us k).flatMap natC)) := Lib.hid HR.out
            generalize V.drewN nq = V2 at HX HS HB HR ⊢
            have z0 := HX.out.cell 0
            have z1 := HX.out.cell 1
            have z2 := HX.out.cell 2
            have z3 := HX.out.cell 3
            by_cases hk2 : xk = 2
            · have hk2b : (xk == 2) = true := by simp [hk2]
              have hk2n : (xk != 2) = false := by simp [hk2]
              clear hk2
              go_wp2

              go_quiet (fail)
              skip
              clear z0 z1 z2 z3
              replace HX := Lib.hid (HX.out.drewN nq)
              replace HS := Lib.hid (HS.out.drewN nq)
              replace HB := Lib.hid (below_drewN HB.out nq)
              replace HR : Hid ((V2.drewN nq).ownsRow W0.heap.size 3 1 u6 (Lx.ats us k).length ((Lx.ats us k).flatMap natC)) := Lib.hid HR.out
              generalize V2.drewN nq = V3 at HX HS HB HR ⊢
              have z0 := HX.out.cell 0
              have z1 := HX.out.cell 1
              have z2 := HX.out.cell 2
              have z3 := HX.out.cell 3
              clear z0 z1 z2 z3
              by_cases hbig : (65536 : Int) < (T2.size : Int)
              · go_wp2_with (first
                  | (at_builtin; refine wpList_append_own _ rfl _ _ 39 rfl W0.heap.size 3 i0 (.int .i64 0) 1 8 Tryd.underlying39 hi hz0 hz1 hz2 rfl (by decide) _ _ _ rfl (HR.out.alloc _) ⟨V3.heap.size, 0, none⟩ 1 1 (natC T.size) rfl rfl (cell_one_new _ _ _) (by simp [natC, Value.oneCell']) (by rw [Lx.ats_len]; unfold maxLen; omega) (by rw [Lx.ats_len]; omega) (by have := HB.out.size; simp; omega) ?_; intro v' w7 hown' hgrow' hnil'; have HO7 := Lib.hid hown'; have HX7 := Lib.hid ((HX.out.alloc _).grown hgrow' HNE.out); have HB7 := Lib.hid ((HB.out.alloc HB.out.size _).grown hgrow' (by have := HB.out.size; simp; omega) HGE.out); have c0 := HX7.out.cell 0; have c1 := HX7.out.cell 1; have c2 := HX7.out.cell 2; have c3 := HX7.out.cell 3; clear hown' hgrow' hnil')
                  | (go_at_call 10; refine (CT.out _).mono ?_; rintro e w8 ⟨rfl, hb8⟩; have HB8 := Lib.hid (HB7.out.trans (hb8.mono HB7.out.size)); have HO8 := Lib.hid (own_below HO7.out hb8); clear hb8)
                  | (go_at_call 9; refine (CL.out _).mono ?_; rintro e w9 ⟨rfl, hb9⟩))
                go_ret
                exact ⟨rfl, HW0.out.trans ((HB8.out.trans (hb9.mono HB8.out.size)).mono HW0.out.size)⟩
              · have hbig' : ¬ (65536 : Int) < (T2.size : Int) := hbig
                go_wp2_with (first
                  | (at_builtin; refine wpList_append_own _ rfl _ _ 39 rfl W0.heap.size 3 i0 (.int .i64 0) 1 8 Tryd.underlying39 hi hz0 hz1 hz2 rfl (by decide) _ _ _ rfl (HR.out.alloc _) ⟨V3.heap.size, 0, none⟩ 1 1 (natC T.size) rfl rfl (cell_one_new _ _ _) (by simp [natC, Value.oneCell']) (by rw [Lx.ats_len]; unfold maxLen; omega) (by rw [Lx.ats_len]; omega) (by have := HB.out.size; simp; omega) ?_; intro v' w7 hown' hgrow' hnil'; have HO7 := Lib.hid hown'; have HX7 := Lib.hid ((HX.out.alloc _).grown hgrow' HNE.out); have HB7 := Lib.hid ((HB.out.alloc HB.out.size _).grown hgrow' (by have := HB.out.size; simp; omega) HGE.out); have c0 := HX7.out.cell 0; have c1 := HX7.out.cell 1; have c2 := HX7.out.cell 2; have c3 := HX7.out.cell 3; clear hown' hgrow' hnil')
                  | (go_at_call 10; refine (CT.out _).mono ?_; rintro e w8 ⟨rfl, hb8⟩; have HB8 := Lib.hid (HB7.out.trans (hb8.mono HB7.out.size)); have HO8 := Lib.hid (own_below HO7.out hb8); clear hb8)
                  | (go_at_call 9; refine (CL.out _).mono ?_; rintro e w9 ⟨rfl, hb9⟩))
                refine ⟨⟨k + 1, by omega, by go_num, by rw [HT2.out.1], Lib.hid (by rw [HT2.out.2]; omega), ?_, HB8.out⟩, by simp [intOf]; omega⟩
                have h8 := HO8.out
                rw [Lx.ats_step, List.length_append, List.flatMap_append]
                rw [HTA.out] at h8
                simpa using h8
            · have hk2b : (xk == 2) = false := by simp [hk2]
              have hk2n : (xk != 2) = true := by simp [bne, hk2]
              have h13 := H12.out hk2
              have h13a := h13.1
              have h13b : ¬ (a0.size : Int) < (xp : Int) + (X.size : Int) := by omega
              have E := run_cut a0 xp (xp + X.size) ((xp : Int) + (X.size : Int)) (by omega) (by omega) h13a
              rw [h13.2] at E
              have hXX : (X.toList == X.toList) = true := by simp
              clear hk2 h13 h13a
              go_wp2
              have f4 : ((a0.size : Int) < (xp : Int) + (X.size : Int)) ↔ False := ⟨fun h => by omega, False.elim⟩
              go_quiet (fail)
              clear f4
              clear z0 z1 z2 z3
              replace HX := Lib.hid (HX.out.drewN nq)
              replace HS := Lib.hid (HS.out.drewN nq)
              replace HB := Lib.hid (below_drewN HB.out nq)
              replace HR : Hid ((V2.drewN nq).ownsRow W0.heap.size 3 1 u6 (Lx.ats us k).length ((Lx.ats us k).flatMap natC)) := Lib.hid HR.out
              generalize V2.drewN nq = V3 at HX HS HB HR ⊢
              have z0 := HX.out.cell 0
              have z1 := HX.out.cell 1
              have z2 := HX.out.cell 2
              have z3 := HX.out.cell 3
              clear z0 z1 z2 z3
              by_cases hbig : (65536 : Int) < (T2.size : Int)
              · go_wp2_with (first
                  | (at_builtin; refine wpList_append_own _ rfl _ _ 39 rfl W0.heap.size 3 i0 (.int .i64 0) 1 8 Tryd.underlying39 hi hz0 hz1 hz2 rfl (by decide) _ _ _ rfl (HR.out.alloc _) ⟨V3.heap.size, 0, none⟩ 1 1 (natC T.size) rfl rfl (cell_one_new _ _ _) (by simp [natC, Value.oneCell']) (by rw [Lx.ats_len]; unfold maxLen; omega) (by rw [Lx.ats_len]; omega) (by have := HB.out.size; simp; omega) ?_; intro v' w7 hown' hgrow' hnil'; have HO7 := Lib.hid hown'; have HX7 := Lib.hid ((HX.out.alloc _).grown hgrow' HNE.out); have HB7 := Lib.hid ((HB.out.alloc HB.out.size _).grown hgrow' (by have := HB.out.size; simp; omega) HGE.out); have c0 := HX7.out.cell 0; have c1 := HX7.out.cell 1; have c2 := HX7.out.cell 2; have c3 := HX7.out.cell 3; clear hown' hgrow' hnil')
                  | (go_at_call 10; refine (CT.out _).mono ?_; rintro e w8 ⟨rfl, hb8⟩; have HB8 := Lib.hid (HB7.out.trans (hb8.mono HB7.out.size)); have HO8 := Lib.hid (own_below HO7.out hb8); clear hb8)
                  | (go_at_call 9; refine (CL.out _).mono ?_; rintro e w9 ⟨rfl, hb9⟩))
                go_ret
                exact ⟨rfl, HW0.out.trans ((HB8.out.trans (hb9.mono HB8.out.size)).mono HW0.out.size)⟩
              · have hbig' : ¬ (65536 : Int) < (T2.size : Int) := hbig
                go_wp2_with (first
                  | (at_builtin; refine wpList_append_own _ rfl _ _ 39 rfl W0.heap.size 3 i0 (.int .i64 0) 1 8 Tryd.underlying39 hi hz0 hz1 hz2 rfl (by decide) _ _ _ rfl (HR.out.alloc _) ⟨V3.heap.size, 0, none⟩ 1 1 (natC T.size) rfl rfl (cell_one_new _ _ _) (by simp [natC, Value.oneCell']) (by rw [Lx.ats_len]; unfold maxLen; omega) (by rw [Lx.ats_len]; omega) (by have := HB.out.size; simp; omega) ?_; intro v' w7 hown' hgrow' hnil'; have HO7 := Lib.hid hown'; have HX7 := Lib.hid ((HX.out.alloc _).grown hgrow' HNE.out); have HB7 := Lib.hid ((HB.out.alloc HB.out.size _).grown hgrow' (by have := HB.out.size; simp; omega) HGE.out); have c0 := HX7.out.cell 0; have c1 := HX7.out.cell 1; have c2 := HX7.out.cell 2; have c3 := HX7.out.cell 3; clear hown' hgrow' hnil')
                  | (go_at_call 10; refine (CT.out _).mono ?_; rintro e w8 ⟨rfl, hb8⟩; have HB8 := Lib.hid (HB7.out.trans (hb8.mono HB7.out.size)); have HO8 := Lib.hid (own_below HO7.out hb8); clear hb8)
                  | (go_at_call 9; refine (CL.out _).mono ?_; rintro e w9 ⟨rfl, hb9⟩))
                refine ⟨⟨k + 1, by omega, by go_num, by rw [HT2.out.1], Lib.hid (by rw [HT2.out.2]; omega), ?_, HB8.out⟩, by simp [intOf]; omega⟩
                have h8 := HO8.out
                rw [Lx.ats_step, List.length_append, List.flatMap_append]
                rw [HTA.out] at h8
                simpa using h8
        · by_cases hk0 : k = 0
          · have hkne : ((k : Int) == (n1 : Int) - 1) = true := by rw [beq_iff_eq]; omega
            obtain ⟨hx1, hx2⟩ := HTE.out k (by omega)
            obtain ⟨p1, rfl, x0, x1, x2, x3⟩ := (V1.out.kept hBw).get hx1
            obtain ⟨X, hX⟩ : ∃ X, Lx.S ([] : List UInt8) = X := ⟨_, rfl⟩
            have hXs : X.size = 0 := by rw [← hX, Lx.S_size]; rfl
            simp only at x0 x1 x2 x3
            rw [hX] at x3
            have h10b : ¬ (a0.size : Int) < (a0.size : Int) := by omega
            have E := run_cut a0 a0.size a0.size (a0.size : Int) rfl (Nat.le_refl _) (Nat.le_refl _)
            rw [show a0.extract a0.size a0.size = X from by rw [Lx.S_ext, Nat.sub_self, List.take_zero, hX]] at E
            have hXX : (X.toList == X.toList) = true := by simp
            have HSAME : Hid (Lx.all (us.take (k + 1)) = Lx.all (us.take k)) := Lib.hid (by rw [List.take_add_one, hx2]; simp)
            have HTA : Hid (T.size = Lx.at' us k) := Lib.hid (by rw [← HTT.out, Lx.S_size]; rfl)
            have h00 : ((0 : Int) == 0) = true := rfl
            clear hX hx1 hx2
            have HK0 : Hid (k = 0) := Lib.hid hk0
            clear hk0
            go_wp2
            obtain ⟨V, hV⟩ : ∃ V, wr.alloc (Obj.cells #[Value.int IntKind.i64 0, Value.int IntKind.i64 (a0.size : Int), Value.int IntKind.i64 0, Value.string X] 37) = V := ⟨_, rfl⟩
            have HX : Hid (Blk V wr.heap.size 37 4 (tkA 0 (a0.size : Int) 0 X)) := Lib.hid (by rw [← hV]; exact Blk.new wr _ _)
            have HS : Hid (TkS V (some p1) ts) := Lib.hid (by rw [← hV]; exact (V1.out.kept hBw).kept (alloc_below wr _))
            have HB : Hid (Below W0.heap.size W0 V) := Lib.hid (by rw [← hV]; exact hBw.alloc hBw.size _)
            have HR : Hid (V.ownsRow W0.heap.size 3 1 u6 (Lx.ats us k).length ((Lx.ats us k).flatMap natC)) := Lib.hid (by rw [← hV]; exact HRW.out.alloc _)
            have HNE : Hid (∀ j, u6.ownBlock = some j → j < wr.heap.size) := Lib.hid (own_lt HRW.out)
            have HGE : Hid (∀ j, u6.ownBlock = some j → W0.heap.size ≤ j) := Lib.hid (own_ge HRW.out)
            rw [hV]
            clear hV x0 x1 x2 x3
            obtain ⟨bx, hbx⟩ : ∃ bx, wr.heap.size = bx := ⟨_, rfl⟩
            rw [hbx] at HX HNE ⊢
            have HBX : Hid (W0.heap.size ≤ bx) := Lib.hid (by rw [← hbx]; exact hBw.size)
            clear hbx
            have z0 := HX.out.cell 0
            have z1 := HX.out.cell 1
            have z2 := HX.out.cell 2
            have z3 := HX.out.cell 3
            go_wp2
            have f1 : ((a0.size : Int) < 0) ↔ False := ⟨fun h => by omega, False.elim⟩
            have f2 : ((a0.size : Int) < (a0.size : Int)) ↔ False := ⟨fun h => by omega, False.elim⟩
            have f3 : (0 < k) ↔ False := ⟨fun h => by have := HK0.out; omega, False.elim⟩
            go_quiet (fail)
            clear f1 f2 f3
            clear z0 z1 z2 z3
            replace HX := Lib.hid (HX.out.drewN nq)
            replace HS := Lib.hid (HS.out.drewN nq)
            replace HB := Lib.hid (below_drewN HB.out nq)
            replace HR : Hid ((V.drewN nq).ownsRow W0.heap.size 3 1 u6 (Lx.ats us k).length ((Lx.ats us k).flatMap natC)) := Lib.hid HR.out
            generalize V.drewN nq = V2 at HX HS HB HR ⊢
            have z0 := HX.out.cell 0
            have z1 := HX.out.cell 1
            have z2 := HX.out.cell 2
            have z3 := HX.out.cell 3
            go_wp2
            have f4 : ((a0.size : Int) < (a0.size : Int)) ↔ False := ⟨fun h => by omega, False.elim⟩
            go_quiet (fail)
            clear f4
            clear z0 z1 z2 z3
            replace HX := Lib.hid (HX.out.drewN nq)
            replace HS := Lib.hid (HS.out.drewN nq)
            replace HB := Lib.hid (below_drewN HB.out nq)
            replace HR : Hid ((V2.drewN nq).ownsRow W0.heap.size 3 1 u6 (Lx.ats us k).length ((Lx.ats us k).flatMap natC)) := Lib.hid HR.out
            generalize V2.drewN nq = V3 at HX HS HB HR ⊢
            have z0 := HX.out.cell 0
            have z1 := HX.out.cell 1
            have z2 := HX.out.cell 2
            have z3 := HX.out.cell 3
            clear z0 z1 z2 z3
            go_wp2_with (first
              | (at_builtin; refine wpList_append_own _ rfl _ _ 39 rfl W0.heap.size 3 i0 (.int .i64 0) 1 8 Tryd.underlying39 hi hz0 hz1 hz2 rfl (by decide) _ _ _ rfl (HR.out.alloc _) ⟨V3.heap.size, 0, none⟩ 1 1 (natC T.size) rfl rfl (cell_one_new _ _ _) (by simp [natC, Value.oneCell']) (by rw [Lx.ats_len]; unfold maxLen; omega) (by rw [Lx.ats_len]; omega) (by have := HB.out.size; simp; omega) ?_; intro v' w7 hown' hgrow' hnil'; have HO7 := Lib.hid hown'; have HX7 := Lib.hid ((HX.out.alloc _).grown hgrow' HNE.out); have HB7 := Lib.hid ((HB.out.alloc HB.out.size _).grown hgrow' (by have := HB.out.size; simp; omega) HGE.out); have c0 := HX7.out.cell 0; have c1 := HX7.out.cell 1; have c2 := HX7.out.cell 2; have c3 := HX7.out.cell 3; clear hown' hgrow' hnil'))
            refine ⟨⟨k + 1, by omega, by go_num, by rw [HSAME.out, HTT.out], Lib.hid (by rw [HSAME.out]; exact HL.out), ?_, HB7.out⟩, by simp [intOf]; omega⟩
            have h8 := HO7.out
            rw [Lx.ats_step, List.length_append, List.flatMap_append]
            rw [HTA.out] at h8
            simpa using h8
          · have hkne : ((k : Int) == (n1 : Int) - 1) = true := by rw [beq_iff_eq]; omega
            obtain ⟨hx1, hx2⟩ := HTE.out k (by omega)
            obtain ⟨p1, rfl, x0, x1, x2, x3⟩ := (V1.out.kept hBw).get hx1
            obtain ⟨X, hX⟩ : ∃ X, Lx.S ([] : List UInt8) = X := ⟨_, rfl⟩
            have hXs : X.size = 0 := by rw [← hX, Lx.S_size]; rfl
            simp only at x0 x1 x2 x3
            rw [hX] at x3
            have h10b : ¬ (a0.size : Int) < (a0.size : Int) := by omega
            have E := run_cut a0 a0.size a0.size (a0.size : Int) rfl (Nat.le_refl _) (Nat.le_refl _)
            rw [show a0.extract a0.size a0.size = X from by rw [Lx.S_ext, Nat.sub_self, List.take_zero, hX]] at E
            have hXX : (X.toList == X.toList) = true := by simp
            have HSAME : Hid (Lx.all (us.take (k + 1)) = Lx.all (us.take k)) := Lib.hid (by rw [List.take_add_one, hx2]; simp)
            have HTA : Hid (T.size = Lx.at' us k) := Lib.hid (by rw [← HTT.out, Lx.S_size]; rfl)
            have h00 : ((0 : Int) == 0) = true := rfl
            clear hX hx1 hx2
            obtain ⟨m, hm⟩ : ∃ m, m + 1 = k := ⟨k - 1, by omega⟩
            obtain ⟨⟨yk, yp, yn, yt⟩, hy1, hy2, _, hys⟩ := HT.out m (by omega)
            have hyx := hys.2.1
            rw [← HZ.out] at hyx
            simp only at hyx
            have hmI : (k : Int) - 1 = (m : Int) := by omega
            have hml : (m : Int) < (n1 : Int) := by omega
            have hkp : (0 : Int) < (k : Int) := by omega
            clear hy2 hk0 hm hys
            go_wp2
            obtain ⟨V, hV⟩ : ∃ V, wr.alloc (Obj.cells #[Value.int IntKind.i64 0, Value.int IntKind.i64 (a0.size : Int), Value.int IntKind.i64 0, Value.string X] 37) = V := ⟨_, rfl⟩
            have HX : Hid (Blk V wr.heap.size 37 4 (tkA 0 (a0.size : Int) 0 X)) := Lib.hid (by rw [← hV]; exact Blk.new wr _ _)
            have HS : Hid (TkS V (some p1) ts) := Lib.hid (by rw [← hV]; exact (V1.out.kept hBw).kept (alloc_below wr _))
            have HB : Hid (Below W0.heap.size W0 V) := Lib.hid (by rw [← hV]; exact hBw.alloc hBw.size _)
            have HR : Hid (V.ownsRow W0.heap.size 3 1 u6 (Lx.ats us k).length ((Lx.ats us k).flatMap natC)) := Lib.hid (by rw [← hV]; exact HRW.out.alloc _)
            have HNE : Hid (∀ j, u6.ownBlock = some j → j < wr.heap.size) := Lib.hid (own_lt HRW.out)
            have HGE : Hid (∀ j, u6.ownBlock = some j → W0.heap.size ≤ j) := Lib.hid (own_ge HRW.out)
            rw [hV]
            clear hV x0 x1 x2 x3
            obtain ⟨bx, hbx⟩ : ∃ bx, wr.heap.size = bx := ⟨_, rfl⟩
            rw [hbx] at HX HNE ⊢
            have HBX : Hid (W0.heap.size ≤ bx) := Lib.hid (by rw [← hbx]; exact hBw.size)
            clear hbx
            have z0 := HX.out.cell 0
            have z1 := HX.out.cell 1
            have z2 := HX.out.cell 2
            have z3 := HX.out.cell 3
            go_wp2
            obtain ⟨pp, hpp, y0, y1, y2, y3⟩ := HS.out.get hy1
            cases hpp
            simp only at y0 y1 y2 y3
            have f1 : ((a0.size : Int) < 0) ↔ False := ⟨fun h => by omega, False.elim⟩
            have f2 : ((a0.size : Int) < (a0.size : Int)) ↔ False := ⟨fun h => by omega, False.elim⟩
            have f3 : (a0.size ≤ yp) ↔ False := ⟨fun h => by omega, False.elim⟩
            have f5 : (0 < k) ↔ True := ⟨fun _ => trivial, fun _ => by omega⟩
            go_quiet (fail)
            clear f1 f2 f3 f5
            clear z0 z1 z2 z3 y0 y1 y2 y3
            replace HX := Lib.hid (HX.out.drewN nq)
            replace HS := Lib.hid (HS.out.drewN nq)
            replace HB := Lib.hid (below_drewN HB.out nq)
            replace HR : Hid ((V.drewN nq).ownsRow W0.heap.size 3 1 u6 (Lx.ats us k).length ((Lx.ats us k).flatMap natC)) := Lib.hid HR.out
            generalize V.drewN nq = V2 at HX HS HB HR ⊢
            have z0 := HX.out.cell 0
            have z1 := HX.out.cell 1
            have z2 := HX.out.cell 2
            have z3 := HX.out.cell 3
            go_wp2
            have f4 : ((a0.size : Int) < (a0.size : Int)) ↔ False := ⟨fun h => by omega, False.elim⟩
            go_quiet (fail)
            clear f4
            clear z0 z1 z2 z3
            replace HX := Lib.hid (HX.out.drewN nq)
            replace HS := Lib.hid (HS.out.drewN nq)
            replace HB := Lib.hid (below_drewN HB.out nq)
            replace HR : Hid ((V2.drewN nq).ownsRow W0.heap.size 3 1 u6 (Lx.ats us k).length ((Lx.ats us k).flatMap natC)) := Lib.hid HR.out
            generalize V2.drewN nq = V3 at HX HS HB HR ⊢
            have z0 := HX.out.cell 0
            have z1 := HX.out.cell 1
            have z2 := HX.out.cell 2
            have z3 := HX.out.cell 3
            clear z0 z1 z2 z3
            go_wp2_with (first
              | (at_builtin; refine wpList_append_own _ rfl _ _ 39 rfl W0.heap.size 3 i0 (.int .i64 0) 1 8 Tryd.underlying39 hi hz0 hz1 hz2 rfl (by decide) _ _ _ rfl (HR.out.alloc _) ⟨V3.heap.size, 0, none⟩ 1 1 (natC T.size) rfl rfl (cell_one_new _ _ _) (by simp [natC, Value.oneCell']) (by rw [Lx.ats_len]; unfold maxLen; omega) (by rw [Lx.ats_len]; omega) (by have := HB.out.size; simp; omega) ?_; intro v' w7 hown' hgrow' hnil'; have HO7 := Lib.hid hown'; have HX7 := Lib.hid ((HX.out.alloc _).grown hgrow' HNE.out); have HB7 := Lib.hid ((HB.out.alloc HB.out.size _).grown hgrow' (by have := HB.out.size; simp; omega) HGE.out); have c0 := HX7.out.cell 0; have c1 := HX7.out.cell 1; have c2 := HX7.out.cell 2; have c3 := HX7.out.cell 3; clear hown' hgrow' hnil'))
            refine ⟨⟨k + 1, by omega, by go_num, by rw [HSAME.out, HTT.out], Lib.hid (by rw [HSAME.out]; exact HL.out), ?_, HB7.out⟩, by simp [intOf]; omega⟩
            have h8 := HO7.out
            rw [Lx.ats_step, List.length_append, List.flatMap_append]
            rw [HTA.out] at h8
            simpa using h8
      · have hge : ¬ (k : Int) < (n1 : Int) := by omega
        obtain rfl : k = n1 := by omega
        have hrw := HRW.out
        obtain ⟨pa, ca, hu6, hat⟩ := sliceC_own natC_len hrw
        subst hu6
        have hTd : T.data.toList = Lx.all us := by rw [← HTT.out, Lx.S_list, HALL.out]
        have hTz : (Lx.all us).length = T.size := by rw [← hTd, Lib.size_eq]
        have hlx : Lx.lex T.data.toList = .ok (Lx.again 0 us ++ [⟨0, T.size, 0, []⟩]) := by
          rw [hTd, HLEX.out (by rw [hTz]; omega), hTz]
        obtain ⟨bs, hbs⟩ : ∃ bs, Lx.again 0 us ++ [(⟨0, T.size, 0, []⟩ : Lx.Tok)] = bs := ⟨_, rfl⟩
        rw [hbs] at hlx
        have hbl : bs.length = k := by
          have := HUL.out
          rw [← hbs, List.length_append, Lx.again_len]; simpa using this
        have C2 := Lib.hid fun w => lex_ok T (by omega) hlx hbl w
        have HBS : Hid (∀ j, j < k → ∃ x : Lx.Tok, ts[j]? = some x ∧ bs[j]? = some { x with pos := Lx.at' us j }) := Lib.hid (fun j hj => by
          have hUL := HUL.out
          by_cases h : j + 1 < k
          · obtain ⟨x, h1, h2, _, _⟩ := HT.out j h
            refine ⟨x, h1, ?_⟩
            have hjl : j < (Lx.again 0 us).length := by rw [Lx.again_len]; omega
            rw [← hbs, List.getElem?_append_left hjl, Lx.again_get, h2]
            simp
          · have hje : j + 1 = k := by omega
            refine ⟨_, (HTE.out j hje).1, ?_⟩
            have hjl : (Lx.again 0 us).length ≤ j := by rw [Lx.again_len]; omega
            have hje2 : j - (Lx.again 0 us).length = 0 := by rw [Lx.again_len]; omega
            rw [← hbs, List.getElem?_append_right hjl, hje2]
            have : Lx.at' us j = T.size := by
              unfold Lx.at'
              rw [List.take_of_length_le (by omega), hTz]
            simp [this])
        have HAT : Hid (∀ j, j < k → ∃ a, pa = some a ∧ wr.cell? (a.add j) = some (.int .i64 (Lx.at' us j : Nat))) := Lib.hid (fun j hj => by
          have hjl : j < (Lx.ats us k).length := by rw [Lx.ats_len]; exact hj
          obtain ⟨a, h1, h2⟩ := hat j hjl
          have h3 := h2 0 _ rfl
          have h4 : (Lx.ats us k)[j] = Lx.at' us j := by
            have := Lx.ats_get us k j hj
            rw [List.getElem?_eq_getElem hjl] at this
            exact Option.some.inj this
          rw [add_zero', Nat.mul_one, h4] at h3
          exact ⟨a, h1, h3⟩)
        rw [Lx.ats_len]
        have hkk : ((k : Int) == (k : Int)) = true := by simp
        have HBW := Lib.hid hBw
        have S1 := Lib.hid (V1.out.kept hBw)
        clear hrw hat hTd hTz hlx hbs hbl HRW hBw
        go_wp2_with (first
          | (go_at_call 6; refine (C2.out _).mono ?_; rintro e w2 ⟨q2, k2, rfl, s2, hb2⟩; have S2 := Lib.hid (s2.kept (alloc_below w2 (.cells (bdA 0 0) 25))); have T1 := Lib.hid ((S1.out.kept hb2).kept (alloc_below w2 (.cells (bdA 0 0) 25))); have HB2 := Lib.hid (HBW.out.trans (hb2.mono HBW.out.size)); have HB2W := Lib.hid hb2; clear hb2 s2))
        obtain ⟨W4, hW4⟩ : ∃ W4, (w2.alloc (Obj.cells #[Value.int IntKind.i64 0, Value.int IntKind.i64 0] 25)) = W4 := ⟨_, rfl⟩
        have HW4 : Hid (Below W0.heap.size W0 W4) := Lib.hid (by rw [← hW4]; exact HB2.out.alloc HB2.out.size _)
        have HWR : Hid (Below wr.heap.size wr W4) := Lib.hid (by rw [← hW4]; exact HB2W.out.trans ((alloc_below w2 _).mono HB2W.out.size))
        have S4 : Hid (TkS W4 q1 ts) := Lib.hid (by rw [← hW4]; exact T1.out)
        have B4 : Hid (TkS W4 q2 bs) := Lib.hid (by rw [← hW4]; exact S2.out)
        rw [hW4]
        clear hW4 S1 S2 T1
        go_loopw [11] (fun J wz => ∃ j : Nat, j ≤ k ∧ J = .int .i64 (j : Int) ∧ Below W4.heap.size W4 wz) (fun J _ => k - (intOf J).toNat)
        case atStart => exact ⟨0, Nat.zero_le _, rfl, Below.refl _ _⟩
        case round =>
          obtain ⟨j, hj, rfl, hBz⟩ := hrel
          by_cases hjl : j < k
          · have hjI : (j : Int) < (k : Int) := by omega
            obtain ⟨⟨xk, xp, xn, xt⟩, hx1, hx2⟩ := HBS.out j hjl
            obtain ⟨p1, rfl, x0, x1, x2, x3⟩ := (S4.out.kept hBz).get hx1
            obtain ⟨p2, rfl, y0, y1, y2, y3⟩ := (B4.out.kept hBz).get hx2
            obtain ⟨a, rfl, ha⟩ := HAT.out j hjl
            simp only at x0 x1 x2 x3 y0 y1 y2 y3
            obtain ⟨P, hP⟩ : ∃ P : Nat, Lx.at' us j = P := ⟨_, rfl⟩
            rw [hP] at y1 ha
            have hal := cell_lt ha
            have hbz := (HWR.out.trans (hBz.mono HWR.out.size))
            have ha2 : wr.cell? (a.add j) = some (.int .i64 (P : Int)) := by rw [hbz.cell (p := a.add j) hal]; exact ha
            have hl1 := cell_lt x0
            have hl2 := cell_lt y0
            have hl3 := cell_lt ha2
            have hE : ∀ w, (Op.equalIn 10000 37 (.agg #[.int .i64 xk, .int .i64 (P : Int), .int .i64 xn, .string (Lx.S xt)]) (.agg #[.int .i64 xk, .int .i64 (P : Int), .int .i64 xn, .string (Lx.S xt)])).run Tryd.prog w = .ok true w := fun w => by
              have h := tok_eq xk P xn xk P xn (Lx.S xt) (Lx.S xt) w
              simpa using h
            clear hx1 hx2 hP ha hal hbz
            go_wp2
            go_quiet (fail)
            go_wp2
            exact ⟨⟨j + 1, by omega, by go_num, below_drewN (hBz.alloc hBz.size _) _⟩, by simp [intOf]; omega⟩
          · have hgeJ : ¬ (j : Int) < (k : Int) := by omega
            go_wp2_with (go_at_call 9; refine (CL.out _).mono ?_; rintro e w9 ⟨rfl, hb9⟩)
            go_ret
            exact ⟨rfl, HW0.out.trans ((HW4.out.trans ((hBz.trans (hb9.mono hBz.size)).mono HW4.out.size)).mono HW0.out.size)⟩

set_option maxRecDepth 100000 in
theorem lifted (os : Os) (started : os.Started) (H : Type) (enc : TypeId × Value → H) :
    ReturnsInHanded {} Tryd.checked os 5 .any (fun w args => (Rows.lexAgainSpec.pre enc Tryd.prog Tryd.f5 Rows.lexAgainRow.domain false w args ∧ laidMetH Tryd.prog Rows.lexAgainRow.laid w) ∧ sizedMet enc Tryd.prog Tryd.f5 (OpenSpec.ofChange Rows.lexAgainSpec) false w args)
      (Rows.lexAgainSpec.post enc Tryd.prog Tryd.f5 false true false false) := by
  refine returnsInHanded_of_change_and (C := Tryd.checked) (X := fun w _ => laidMetH Tryd.prog Rows.lexAgainRow.laid w) (fun _ _ _ hh h => h.of_heap hh) own started (by kernel_rfl) Tryd.func5
    (ChangeSpec.witness_shaped (enc := enc) (C := Tryd.checked) (os := os) (X := fun w _ => laidMetH Tryd.prog Rows.lexAgainRow.laid w) false (World.laidAll Tryd.prog os Rows.lexAgainRow.laid) #[.string ByteArray.empty] 8 (World.laidAll_os _ _ _)
      (World.shaped_of_ZipB (by kernel_rfl) (by kernel_rfl)) (by kernel_rfl) (by kernel_rfl) (by kernel_rfl)
      (by rw [MakeChecks.laidMetH_plain _ _ _ (by kernel_rfl)]; exact laidMet_laidAll _ (by kernel_rfl) (by kernel_rfl))) ?_
  intro W base args ds gs before hval0 hW hcnd hsz hL _
  have hval : ∀ (j : Nat) t v, Tryd.f5.params[j]? = some t → args[j]? = some v → Value.okWide Tryd.prog W .any base t v := hval0
  have hW' := hW
  obtain ⟨p, q, hA0, hV, rfl, hfz, hnd⟩ := hW
  have hA : DataW.TrodAll enc Tryd.prog W 0 (fun _ => true) true Tryd.f5.params.toList args.toList ds p := hA0
  rw [Tryd.params5] at hA hval
  obtain ⟨v0, vs0, d0, ds0, p0, q0, hargs, rfl, rfl, h0, r0⟩ := trodAll_cons hA
  obtain ⟨rfl, rfl, rfl⟩ := trodAll_nil r0
  obtain rfl : args = #[v0] := by cases args; simp_all
  obtain ⟨rfl, rfl⟩ := trodVars_none hV
  obtain ⟨a0, rfl, rfl, rfl, m0⟩ := open_string Tryd.underlying9 (hval 0 9 v0 rfl rfl) h0
  have w0 : a0.size ≤ reachBytes := by
    have := sized_string hsz (j := 0) (t := 9) (bytes := a0.data.toList) rfl rfl
    simpa using this
  clear hA0 hval0
  refine (walk a0 w0 W).mono fun e W' ⟨he, bel⟩ => ?_
  subst he
  exact ⟨_, rfl, _, _, _, [], _, [], hW', trodAll_mk1 (shut_bool Tryd.underlying4 _), (trodAll_cons_mk (shut_string Tryd.underlying9 m0) trodAll_mk0), rfl, bel.frame _, fun h => by cases h⟩

theorem over : Rows.lexAgainRow.holds Tryd.pinned (OpenSpec.ofChange Rows.lexAgainSpec) :=
  OpenClaim.holds_of_wide 5 Tryd.f5 rfl rfl rfl rfl rfl rfl rfl ⟨rfl, rfl, rfl, rfl, rfl⟩ rfl rfl rfl rfl rfl (by kernel_rfl) Tryd.func5 (by kernel_rfl)
    (of_decide_eq_true (by kernel_rfl)) (by unfold Func.isWrapper; first | (rw [if_pos (by decide +kernel)]; kernel_rfl) | (rw [if_neg (by decide +kernel)]; exact ⟨rfl, rfl⟩))
    (fun os started H enc _ => lifted os started H enc)

/-- the statement: the card -/
theorem proved : Rows.LexAgainCardSaid :=
  Claim7.holds_tied_plain_at .later [] [.data, .pinned] true (true, "a4342d2894337cbb3fe07919dcee0dda5607a9754a19cb1bc71c0fc3f39993a4") false over (fun _ h => by cases h) (by kernel_rfl) (fun _ h => by cases h) lexAgain_row_tie rfl ⟨rfl, rfl⟩ (by kernel_rfl) rfl
    (fun f fn hf hfn => by
      obtain rfl : f = 5 := Option.some.inj ((show Tryd.prog.funcNamed Rows.lexAgainRow.func = some 5 by kernel_rfl).symm.trans hf) |>.symm
      obtain rfl : fn = Tryd.f5 := (Option.some.inj (Tryd.func5.symm.trans hfn)).symm
      exact ⟨by kernel_rfl, fun j t ht => by
        rw [Tryd.params5] at ht
        have hm : t ∈ [9] := by simpa using Array.mem_of_getElem? ht
        have hall : ([9].all fun u => !Tryd.prog.wantsStandIn u) = true := by kernel_rfl
        exact (show Tryd.prog.wantsStandIn t = false by simpa using List.all_eq_true.1 hall t hm)⟩)
    (by kernel_rfl)
#print axioms proved
end Go.Proofs.YtknbnfnibdbokaaDoor.lexAgain
