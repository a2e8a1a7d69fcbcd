/-
  Package asm: what lengthen returns, and what it makes of the ways.
-/
import Derived.Test.YtplfpaffjaldoaaAsmL
namespace Go.Proofs.Ytplfpaffjaldoaa
open Go.ChangeShapes Go.WideShapes Go.ChangeAt Go.RowKit
set_option linter.unusedVariables false
set_option linter.unusedSimpArgs false

theorem grown_set (w : World) (b i : Nat) (v : Value) : w.grownBy (w.setCell ⟨b, i, none⟩ v) (some b) :=
  ⟨rfl, rfl, rfl, (KeepsWalks.setCell w _ v).size, fun k _ hk => Below.heap_setCell _ _ _ k (fun e => hk (by rw [e]))⟩
theorem grown_more {w W W' : World} {g : Nat} {row : Option Nat} (h : w.grownBy W (some g)) (hg : W.grownBy W' row) (hrow : ∀ j, row = some j → w.heap.size ≤ j ∨ j = g) : w.grownBy W' (some g) :=
  ⟨hg.os.trans h.os, hg.tape.trans h.tape, hg.output.trans h.output, Nat.le_trans h.size hg.size, fun k hk hne => (hg.block k (Nat.lt_of_lt_of_le hk h.size) (fun e => by
    rcases hrow k e.symm with h1 | h1
    · omega
    · exact hne (by rw [h1]))).trans (h.block k hk hne)⟩
set_option maxHeartbeats 8000000 in
set_option maxRecDepth 100000 in
theorem lengthen_any (a : Addr) (g cl n k : Nat) (ws : List As.Way) (item : Int) (w : World) (hn : Hid (ws.length = n)) (hb : n ≤ 1000000) (hk : k < n) (hW : Hid (WaysAt w a g ws)) (hit : Hid (∀ h, (ws[k]'h).item = item)) (hsp : Hid (∀ j (h : j < ws.length), -1000000000 ≤ ws[j].spare ∧ ws[j].spare ≤ 1000000000)) :
    Calls Try.prog 35 #[.slice (some a) n cl, .int .i64 (k : Int)] w fun e w' => ∃ v, e = .returned v ∧ w'.ownsRow w.heap.size 3 1 v (As.lenRun item (k - 1025) (min n (k + 1026) - (k - 1025)) (ws, [])).2.length ((As.lenRun item (k - 1025) (min n (k + 1026) - (k - 1025)) (ws, [])).2.flatMap natC) ∧ WaysAt w' a g (As.lenRun item (k - 1025) (min n (k + 1026) - (k - 1025)) (ws, [])).1 ∧ w.grownBy w' (some g) := by
  obtain ⟨i0, hi, hz0, hz1, hz2⟩ := info_parts Try.infoInt'
  have hkL : k < ws.length := by rw [hn.out]; exact hk
  have hk' : (k : Int) < (n : Int) := by omega
  have hk0 : (0 : Int) ≤ (k : Int) := by omega
  have hgl : g < w.heap.size := by obtain ⟨_, cur, hg, _⟩ := hW.out; exact (Array.getElem?_eq_some_iff.1 hg).1
  have hOnk := hW.out.at k hkL
  rcases hx : ws[k] with ⟨it0, be0, bf0, sp0⟩
  rw [hx] at hOnk
  obtain rfl : it0 = item := by have := hit.out hkL; rw [hx] at this; exact this
  obtain ⟨z0, z1, z2, z3⟩ := WayAt.of hOnk
  generalize hlo : k - 1025 = lo
  generalize hhi : min n (k + 1026) = hi'
  have hle : lo ≤ hi' := by omega
  have hhn : hi' ≤ n := by omega
  clear hx hOnk
  by_cases hc : (0 : Int) < (k : Int) - 1025
  · by_cases hm : (k : Int) + 1025 + 1 < (n : Int)
    · go_enter Try.func35, Try.ntmps35
      go_wp2
      go_quiet ((go_at_call 56; refine Calls.quiet_of_same (near_sym _)))
      clear z0 z1 z2 z3
      go_wp2
      go_loopw [5, 8] (fun P J wr => ∃ j : Nat, J = .int .i64 (j : Int) ∧ lo ≤ j ∧ j ≤ hi' ∧ wr.ownsRow w.heap.size 3 1 P (As.lenRun it0 lo (j - lo) (ws, [])).2.length ((As.lenRun it0 lo (j - lo) (ws, [])).2.flatMap natC) ∧ WaysAt wr a g (As.lenRun it0 lo (j - lo) (ws, [])).1 ∧ w.grownBy wr (some g)) (fun _ J _ => hi' - (intOf J).toNat)
      case atStart => exact ⟨lo, congrArg (Value.int .i64) (by omega), Nat.le_refl _, hle, by rw [Nat.sub_self]; exact World.ownsRow_nil _ _ _ _, by rw [Nat.sub_self]; exact hW.out.kept (row := none) ⟨rfl, rfl, rfl, Nat.le_refl _, fun _ _ _ => rfl⟩ (by simp), ⟨rfl, rfl, rfl, Nat.le_refl _, fun _ _ _ => rfl⟩⟩
      case round =>
        obtain ⟨j, rfl, hj1, hj2, hrow, hWs, hG⟩ := hrel
        have hnext : As.lenRun it0 lo (j + 1 - lo) (ws, []) = As.lenStep it0 j (As.lenRun it0 lo (j - lo) (ws, [])) := by
          rw [show j + 1 - lo = (j - lo) + 1 by omega, As.lenRun, show lo + (j - lo) = j by omega]
        have hlen := lenRun_len it0 lo ws [] (j - lo)
        have hrest := lenRun_rest it0 lo ws [] (j - lo) j (by omega)
        have hlate := lenRun_late it0 lo ws (j - lo)
        obtain ⟨st, hst⟩ : ∃ st, As.lenRun it0 lo (j - lo) (ws, []) = st := ⟨_, rfl⟩
        rw [hst] at hrow hWs hnext hlen hrest hlate
        rw [hn.out] at hlen
        have HNX := Lib.hid hnext
        have HST := Lib.hid hst
        clear hnext hst
        by_cases hlt : j < hi'
        · have hjn : j < n := by omega
          have hjS : j < st.1.length := by omega
          have hjn' : (j : Int) < (n : Int) := by omega
          have hjk' : (j : Int) < (k : Int) + 1025 + 1 := by omega
          have hj0 : (0 : Int) ≤ (j : Int) := by omega
          have hjw : j < ws.length := by rw [hn.out]; exact hjn
          have hOn := hWs.at j hjS
          have hfr := hWs.open' j
          have hset := hWs.set j hjS
          have hsb := hsp.out j hjw
          rw [List.getElem?_eq_getElem hjS, List.getElem?_eq_getElem hjw] at hrest
          rw [← Option.some.inj hrest] at hsb
          have hstep : As.lenStep it0 j st = if decide (it0 ≤ st.1[j].behind) || decide (st.1[j].before ≤ it0) then st else (st.1.set j ⟨st.1[j].item, st.1[j].behind, st.1[j].before, st.1[j].spare - 1⟩, if st.1[j].spare - 1 == -1 then st.2 ++ [j] else st.2) := by
            unfold As.lenStep; rw [List.getElem?_eq_getElem hjS]
          rcases hx : st.1[j] with ⟨it, be, bf, sp⟩
          rw [hx] at hOn hset hsb hstep
          dsimp only at hsb hset hstep
          obtain ⟨x0, x1, x2, x3⟩ := WayAt.of hOn
          obtain ⟨sb1, sb2⟩ := hsb
          have hws : IntKind.i64.wrap (sp - 1) = sp - 1 := IntWalk.i64_in _ (by omega)
          have HSET := Lib.hid hset
          have HSTEP := Lib.hid hstep
          clear hOn hx hset hstep hrest
          by_cases c1 : it0 ≤ be
          · have e1 : As.lenRun it0 lo (j + 1 - lo) (ws, []) = st := by rw [HNX.out, HSTEP.out, if_pos (by simp [c1])]
            have E1 := Lib.hid e1
            clear e1
            go_wp2
            exact ⟨⟨j + 1, by simp, by omega, by omega, by rw [E1.out]; exact hrow, by rw [E1.out]; exact hWs, hG⟩, by simp [intOf]; omega⟩
          · by_cases c2 : bf ≤ it0
            · have e1 : As.lenRun it0 lo (j + 1 - lo) (ws, []) = st := by rw [HNX.out, HSTEP.out, if_pos (by simp [c2])]
              have E1 := Lib.hid e1
              clear e1
              go_wp2
              exact ⟨⟨j + 1, by simp, by omega, by omega, by rw [E1.out]; exact hrow, by rw [E1.out]; exact hWs, hG⟩, by simp [intOf]; omega⟩
            · have e1 : As.lenRun it0 lo (j + 1 - lo) (ws, []) = (st.1.set j ⟨it, be, bf, sp - 1⟩, if sp - 1 == -1 then st.2 ++ [j] else st.2) := by rw [HNX.out, HSTEP.out, if_neg (by simp; omega)]
              have E1 := Lib.hid e1
              clear e1
              have hS1 := HSET.out (sp - 1)
              have hGs : wr.grownBy (wr.setCell ⟨(a.add (j * 4)).block, (a.add (j * 4)).off + 3, none⟩ (.int .i64 (sp - 1))) (some g) := by
                have := grown_set wr (a.add (j * 4)).block ((a.add (j * 4)).off + 3) (.int .i64 (sp - 1))
                rw [show (a.add (j * 4)).block = g by rw [hW.out.1, addr_mul]] at this ⊢
                exact this
              have hrow1 := hrow.kept hGs (.inr (fun e => by have := own_ge hrow _ e; omega))
              have HS1 := Lib.hid hS1
              have HGs := Lib.hid hGs
              clear hS1 hGs
              by_cases c3 : sp = 0
              · subst c3
                go_wp2_with (at_builtin; refine wpList_append_own _ rfl _ _ 46 rfl w.heap.size 3 i0 (.int .i64 0) 1 8 Try.underlying46 hi hz0 hz1 hz2 rfl (by decide) _ _ _ rfl (hrow1.alloc _) ⟨wr.heap.size, 0, none⟩ 1 1 [.int .i64 (j : Int)] rfl rfl (by have h := cell_one_new (wr.setCell ⟨(a.add (j * 4)).block, (a.add (j * 4)).off + 3, none⟩ (.int .i64 (0 - 1))) (.int .i64 (j : Int)) 3; simpa using h) (by simp [Value.oneCell']) (by unfold maxLen; omega) (by omega) (by have := hG.size; simp; omega) ?_; intro v' w3 hown' hgrow3 hnil3)
                have c4 : (((0 : Int) - 1 == -1)) = true := by decide
                have hB1 := grown_more (grown_more hG HGs.out (fun i e => by cases e; exact Or.inr rfl)) (World.grownBy_alloc _ (.cells #[.int .i64 (j : Int)] 3) none) (fun i e => by cases e)
                refine ⟨⟨j + 1, by simp, by omega, by omega, ?_, ?_, grown_more hB1 hgrow3 (fun i e => Or.inl (own_ge hrow _ e))⟩, by simp [intOf]; omega⟩
                · rw [E1.out, c4, if_pos rfl]
                  show w3.ownsRow _ _ _ _ (st.2 ++ [j]).length ((st.2 ++ [j]).flatMap natC)
                  rw [List.length_append, List.flatMap_append]
                  exact hown'
                · rw [E1.out]
                  exact (HS1.out.kept (World.grownBy_alloc _ (.cells #[.int .i64 (j : Int)] 3) none) (by simp)).kept hgrow3 (fun e => by have := own_ge hrow _ e.symm; omega)
              · have c4 : (sp - 1 == -1) = false := by simp; omega
                go_wp2
                exact ⟨⟨j + 1, by simp, by omega, by omega, by rw [E1.out, c4]; exact hrow1, by rw [E1.out]; exact HS1.out, grown_more hG HGs.out (fun i e => by cases e; exact Or.inr rfl)⟩, by simp [intOf]; omega⟩
        · obtain rfl : j = hi' := by omega
          have hjn' : ¬ (j : Int) < (k : Int) + 1025 + 1 := by omega
          go_wp2
          go_ret
          exact ⟨_, rfl, by rw [HST.out]; exact hrow, by rw [HST.out]; exact hWs, hG⟩
    · go_enter Try.func35, Try.ntmps35
      go_wp2
      go_quiet ((go_at_call 56; refine Calls.quiet_of_same (near_sym _)))
      clear z0 z1 z2 z3
      go_wp2
      go_loopw [5, 8] (fun P J wr => ∃ j : Nat, J = .int .i64 (j : Int) ∧ lo ≤ j ∧ j ≤ hi' ∧ wr.ownsRow w.heap.size 3 1 P (As.lenRun it0 lo (j - lo) (ws, [])).2.length ((As.lenRun it0 lo (j - lo) (ws, [])).2.flatMap natC) ∧ WaysAt wr a g (As.lenRun it0 lo (j - lo) (ws, [])).1 ∧ w.grownBy wr (some g)) (fun _ J _ => hi' - (intOf J).toNat)
      case atStart => exact ⟨lo, congrArg (Value.int .i64) (by omega), Nat.le_refl _, hle, by rw [Nat.sub_self]; exact World.ownsRow_nil _ _ _ _, by rw [Nat.sub_self]; exact hW.out.kept (row := none) ⟨rfl, rfl, rfl, Nat.le_refl _, fun _ _ _ => rfl⟩ (by simp), ⟨rfl, rfl, rfl, Nat.le_refl _, fun _ _ _ => rfl⟩⟩
      case round =>
        obtain ⟨j, rfl, hj1, hj2, hrow, hWs, hG⟩ := hrel
        have hnext : As.lenRun it0 lo (j + 1 - lo) (ws, []) = As.lenStep it0 j (As.lenRun it0 lo (j - lo) (ws, [])) := by
          rw [show j + 1 - lo = (j - lo) + 1 by omega, As.lenRun, show lo + (j - lo) = j by omega]
        have hlen := lenRun_len it0 lo ws [] (j - lo)
        have hrest := lenRun_rest it0 lo ws [] (j - lo) j (by omega)
        have hlate := lenRun_late it0 lo ws (j - lo)
        obtain ⟨st, hst⟩ : ∃ st, As.lenRun it0 lo (j - lo) (ws, []) = st := ⟨_, rfl⟩
        rw [hst] at hrow hWs hnext hlen hrest hlate
        rw [hn.out] at hlen
        have HNX := Lib.hid hnext
        have HST := Lib.hid hst
        clear hnext hst
        by_cases hlt : j < hi'
        · have hjn : j < n := by omega
          have hjS : j < st.1.length := by omega
          have hjn' : (j : Int) < (n : Int) := by omega
          have hjk' : (j : Int) < (k : Int) + 1025 + 1 := by omega
          have hj0 : (0 : Int) ≤ (j : Int) := by omega
          have hjw : j < ws.length := by rw [hn.out]; exact hjn
          have hOn := hWs.at j hjS
          have hfr := hWs.open' j
          have hset := hWs.set j hjS
          have hsb := hsp.out j hjw
          rw [List.getElem?_eq_getElem hjS, List.getElem?_eq_getElem hjw] at hrest
          rw [← Option.some.inj hrest] at hsb
          have hstep : As.lenStep it0 j st = if decide (it0 ≤ st.1[j].behind) || decide (st.1[j].before ≤ it0) then st else (st.1.set j ⟨st.1[j].item, st.1[j].behind, st.1[j].before, st.1[j].spare - 1⟩, if st.1[j].spare - 1 == -1 then st.2 ++ [j] else st.2) := by
            unfold As.lenStep; rw [List.getElem?_eq_getElem hjS]
          rcases hx : st.1[j] with ⟨it, be, bf, sp⟩
          rw [hx] at hOn hset hsb hstep
          dsimp only at hsb hset hstep
          obtain ⟨x0, x1, x2, x3⟩ := WayAt.of hOn
          obtain ⟨sb1, sb2⟩ := hsb
          have hws : IntKind.i64.wrap (sp - 1) = sp - 1 := IntWalk.i64_in _ (by omega)
          have HSET := Lib.hid hset
          have HSTEP := Lib.hid hstep
          clear hOn hx hset hstep hrest
          by_cases c1 : it0 ≤ be
          · have e1 : As.lenRun it0 lo (j + 1 - lo) (ws, []) = st := by rw [HNX.out, HSTEP.out, if_pos (by simp [c1])]
            have E1 := Lib.hid e1
            clear e1
            go_wp2
            exact ⟨⟨j + 1, by simp, by omega, by omega, by rw [E1.out]; exact hrow, by rw [E1.out]; exact hWs, hG⟩, by simp [intOf]; omega⟩
          · by_cases c2 : bf ≤ it0
            · have e1 : As.lenRun it0 lo (j + 1 - lo) (ws, []) = st := by rw [HNX.out, HSTEP.out, if_pos (by simp [c2])]
              have E1 := Lib.hid e1
              clear e1
              go_wp2
              exact ⟨⟨j + 1, by simp, by omega, by omega, by rw [E1.out]; exact hrow, by rw [E1.out]; exact hWs, hG⟩, by simp [intOf]; omega⟩
            · have e1 : As.lenRun it0 lo (j + 1 - lo) (ws, []) = (st.1.set j ⟨it, be, bf, sp - 1⟩, if sp - 1 == -1 then st.2 ++ [j] else st.2) := by rw [HNX.out, HSTEP.out, if_neg (by simp; omega)]
              have E1 := Lib.hid e1
              clear e1
              have hS1 := HSET.out (sp - 1)
              have hGs : wr.grownBy (wr.setCell ⟨(a.add (j * 4)).block, (a.add (j * 4)).off + 3, none⟩ (.int .i64 (sp - 1))) (some g) := by
                have := grown_set wr (a.add (j * 4)).block ((a.add (j * 4)).off + 3) (.int .i64 (sp - 1))
                rw [show (a.add (j * 4)).block = g by rw [hW.out.1, addr_mul]] at this ⊢
                exact this
              have hrow1 := hrow.kept hGs (.inr (fun e => by have := own_ge hrow _ e; omega))
              have HS1 := Lib.hid hS1
              have HGs := Lib.hid hGs
              clear hS1 hGs
              by_cases c3 : sp = 0
              · subst c3
                go_wp2_with (at_builtin; refine wpList_append_own _ rfl _ _ 46 rfl w.heap.size 3 i0 (.int .i64 0) 1 8 Try.underlying46 hi hz0 hz1 hz2 rfl (by decide) _ _ _ rfl (hrow1.alloc _) ⟨wr.heap.size, 0, none⟩ 1 1 [.int .i64 (j : Int)] rfl rfl (by have h := cell_one_new (wr.setCell ⟨(a.add (j * 4)).block, (a.add (j * 4)).off + 3, none⟩ (.int .i64 (0 - 1))) (.int .i64 (j : Int)) 3; simpa using h) (by simp [Value.oneCell']) (by unfold maxLen; omega) (by omega) (by have := hG.size; simp; omega) ?_; intro v' w3 hown' hgrow3 hnil3)
                have c4 : (((0 : Int) - 1 == -1)) = true := by decide
                have hB1 := grown_more (grown_more hG HGs.out (fun i e => by cases e; exact Or.inr rfl)) (World.grownBy_alloc _ (.cells #[.int .i64 (j : Int)] 3) none) (fun i e => by cases e)
                refine ⟨⟨j + 1, by simp, by omega, by omega, ?_, ?_, grown_more hB1 hgrow3 (fun i e => Or.inl (own_ge hrow _ e))⟩, by simp [intOf]; omega⟩
                · rw [E1.out, c4, if_pos rfl]
                  show w3.ownsRow _ _ _ _ (st.2 ++ [j]).length ((st.2 ++ [j]).flatMap natC)
                  rw [List.length_append, List.flatMap_append]
                  exact hown'
                · rw [E1.out]
                  exact (HS1.out.kept (World.grownBy_alloc _ (.cells #[.int .i64 (j : Int)] 3) none) (by simp)).kept hgrow3 (fun e => by have := own_ge hrow _ e.symm; omega)
              · have c4 : (sp - 1 == -1) = false := by simp; omega
                go_wp2
                exact ⟨⟨j + 1, by simp, by omega, by omega, by rw [E1.out, c4]; exact hrow1, by rw [E1.out]; exact HS1.out, grown_more hG HGs.out (fun i e => by cases e; exact Or.inr rfl)⟩, by simp [intOf]; omega⟩
        · obtain rfl : j = hi' := by omega
          have hjn' : ¬ (j : Int) < (n : Int) := by omega
          go_wp2
          go_ret
          exact ⟨_, rfl, by rw [HST.out]; exact hrow, by rw [HST.out]; exact hWs, hG⟩
  · by_cases hm : (k : Int) + 1025 + 1 < (n : Int)
    · go_enter Try.func35, Try.ntmps35
      go_wp2
      go_quiet ((go_at_call 56; refine Calls.quiet_of_same (near_sym _)))
      clear z0 z1 z2 z3
      go_wp2
      go_loopw [5, 8] (fun P J wr => ∃ j : Nat, J = .int .i64 (j : Int) ∧ lo ≤ j ∧ j ≤ hi' ∧ wr.ownsRow w.heap.size 3 1 P (As.lenRun it0 lo (j - lo) (ws, [])).2.length ((As.lenRun it0 lo (j - lo) (ws, [])).2.flatMap natC) ∧ WaysAt wr a g (As.lenRun it0 lo (j - lo) (ws, [])).1 ∧ w.grownBy wr (some g)) (fun _ J _ => hi' - (intOf J).toNat)
      case atStart => exact ⟨lo, congrArg (Value.int .i64) (by omega), Nat.le_refl _, hle, by rw [Nat.sub_self]; exact World.ownsRow_nil _ _ _ _, by rw [Nat.sub_self]; exact hW.out.kept (row := none) ⟨rfl, rfl, rfl, Nat.le_refl _, fun _ _ _ => rfl⟩ (by simp), ⟨rfl, rfl, rfl, Nat.le_refl _, fun _ _ _ => rfl⟩⟩
      case round =>
        obtain ⟨j, rfl, hj1, hj2, hrow, hWs, hG⟩ := hrel
        have hnext : As.lenRun it0 lo (j + 1 - lo) (ws, []) = As.lenStep it0 j (As.lenRun it0 lo (j - lo) (ws, [])) := by
          rw [show j + 1 - lo = (j - lo) + 1 by omega, As.lenRun, show lo + (j - lo) = j by omega]
        have hlen := lenRun_len it0 lo ws [] (j - lo)
        have hrest := lenRun_rest it0 lo ws [] (j - lo) j (by omega)
        have hlate := lenRun_late it0 lo ws (j - lo)
        obtain ⟨st, hst⟩ : ∃ st, As.lenRun it0 lo (j - lo) (ws, []) = st := ⟨_, rfl⟩
        rw [hst] at hrow hWs hnext hlen hrest hlate
        rw [hn.out] at hlen
        have HNX := Lib.hid hnext
        have HST := Lib.hid hst
        clear hnext hst
        by_cases hlt : j < hi'
        · have hjn : j < n := by omega
          have hjS : j < st.1.length := by omega
          have hjn' : (j : Int) < (n : Int) := by omega
          have hjk' : (j : Int) < (k : Int) + 1025 + 1 := by omega
          have hj0 : (0 : Int) ≤ (j : Int) := by omega
          have hjw : j < ws.length := by rw [hn.out]; exact hjn
          have hOn := hWs.at j hjS
          have hfr := hWs.open' j
          have hset := hWs.set j hjS
          have hsb := hsp.out j hjw
          rw [List.getElem?_eq_getElem hjS, List.getElem?_eq_getElem hjw] at hrest
          rw [← Option.some.inj hrest] at hsb
          have hstep : As.lenStep it0 j st = if decide (it0 ≤ st.1[j].behind) || decide (st.1[j].before ≤ it0) then st else (st.1.set j ⟨st.1[j].item, st.1[j].behind, st.1[j].before, st.1[j].spare - 1⟩, if st.1[j].spare - 1 == -1 then st.2 ++ [j] else st.2) := by
            unfold As.lenStep; rw [List.getElem?_eq_getElem hjS]
          rcases hx : st.1[j] with ⟨it, be, bf, sp⟩
          rw [hx] at hOn hset hsb hstep
          dsimp only at hsb hset hstep
          obtain ⟨x0, x1, x2, x3⟩ := WayAt.of hOn
          obtain ⟨sb1, sb2⟩ := hsb
          have hws : IntKind.i64.wrap (sp - 1) = sp - 1 := IntWalk.i64_in _ (by omega)
          have HSET := Lib.hid hset
          have HSTEP := Lib.hid hstep
          clear hOn hx hset hstep hrest
          by_cases c1 : it0 ≤ be
          · have e1 : As.lenRun it0 lo (j + 1 - lo) (ws, []) = st := by rw [HNX.out, HSTEP.out, if_pos (by simp [c1])]
            have E1 := Lib.hid e1
            clear e1
            go_wp2
            exact ⟨⟨j + 1, by simp, by omega, by omega, by rw [E1.out]; exact hrow, by rw [E1.out]; exact hWs, hG⟩, by simp [intOf]; omega⟩
          · by_cases c2 : bf ≤ it0
            · have e1 : As.lenRun it0 lo (j + 1 - lo) (ws, []) = st := by rw [HNX.out, HSTEP.out, if_pos (by simp [c2])]
              have E1 := Lib.hid e1
              clear e1
              go_wp2
              exact ⟨⟨j + 1, by simp, by omega, by omega, by rw [E1.out]; exact hrow, by rw [E1.out]; exact hWs, hG⟩, by simp [intOf]; omega⟩
            · have e1 : As.lenRun it0 lo (j + 1 - lo) (ws, []) = (st.1.set j ⟨it, be, bf, sp - 1⟩, if sp - 1 == -1 then st.2 ++ [j] else st.2) := by rw [HNX.out, HSTEP.out, if_neg (by simp; omega)]
              have E1 := Lib.hid e1
              clear e1
              have hS1 := HSET.out (sp - 1)
              have hGs : wr.grownBy (wr.setCell ⟨(a.add (j * 4)).block, (a.add (j * 4)).off + 3, none⟩ (.int .i64 (sp - 1))) (some g) := by
                have := grown_set wr (a.add (j * 4)).block ((a.add (j * 4)).off + 3) (.int .i64 (sp - 1))
                rw [show (a.add (j * 4)).block = g by rw [hW.out.1, addr_mul]] at this ⊢
                exact this
              have hrow1 := hrow.kept hGs (.inr (fun e => by have := own_ge hrow _ e; omega))
              have HS1 := Lib.hid hS1
              have HGs := Lib.hid hGs
              clear hS1 hGs
              by_cases c3 : sp = 0
              · subst c3
                go_wp2_with (at_builtin; refine wpList_append_own _ rfl _ _ 46 rfl w.heap.size 3 i0 (.int .i64 0) 1 8 Try.underlying46 hi hz0 hz1 hz2 rfl (by decide) _ _ _ rfl (hrow1.alloc _) ⟨wr.heap.size, 0, none⟩ 1 1 [.int .i64 (j : Int)] rfl rfl (by have h := cell_one_new (wr.setCell ⟨(a.add (j * 4)).block, (a.add (j * 4)).off + 3, none⟩ (.int .i64 (0 - 1))) (.int .i64 (j : Int)) 3; simpa using h) (by simp [Value.oneCell']) (by unfold maxLen; omega) (by omega) (by have := hG.size; simp; omega) ?_; intro v' w3 hown' hgrow3 hnil3)
                have c4 : (((0 : Int) - 1 == -1)) = true := by decide
                have hB1 := grown_more (grown_more hG HGs.out (fun i e => by cases e; exact Or.inr rfl)) (World.grownBy_alloc _ (.cells #[.int .i64 (j : Int)] 3) none) (fun i e => by cases e)
                refine ⟨⟨j + 1, by simp, by omega, by omega, ?_, ?_, grown_more hB1 hgrow3 (fun i e => Or.inl (own_ge hrow _ e))⟩, by simp [intOf]; omega⟩
                · rw [E1.out, c4, if_pos rfl]
                  show w3.ownsRow _ _ _ _ (st.2 ++ [j]).length ((st.2 ++ [j]).flatMap natC)
                  rw [List.length_append, List.flatMap_append]
                  exact hown'
                · rw [E1.out]
                  exact (HS1.out.kept (World.grownBy_alloc _ (.cells #[.int .i64 (j : Int)] 3) none) (by simp)).kept hgrow3 (fun e => by have := own_ge hrow _ e.symm; omega)
              · have c4 : (sp - 1 == -1) = false := by simp; omega
                go_wp2
                exact ⟨⟨j + 1, by simp, by omega, by omega, by rw [E1.out, c4]; exact hrow1, by rw [E1.out]; exact HS1.out, grown_more hG HGs.out (fun i e => by cases e; exact Or.inr rfl)⟩, by simp [intOf]; omega⟩
        · obtain rfl : j = hi' := by omega
          have hjn' : ¬ (j : Int) < (k : Int) + 1025 + 1 := by omega
          go_wp2
          go_ret
          exact ⟨_, rfl, by rw [HST.out]; exact hrow, by rw [HST.out]; exact hWs, hG⟩
    · go_enter Try.func35, Try.ntmps35
      go_wp2
      go_quiet ((go_at_call 56; refine Calls.quiet_of_same (near_sym _)))
      clear z0 z1 z2 z3
      go_wp2
      go_loopw [5, 8] (fun P J wr => ∃ j : Nat, J = .int .i64 (j : Int) ∧ lo ≤ j ∧ j ≤ hi' ∧ wr.ownsRow w.heap.size 3 1 P (As.lenRun it0 lo (j - lo) (ws, [])).2.length ((As.lenRun it0 lo (j - lo) (ws, [])).2.flatMap natC) ∧ WaysAt wr a g (As.lenRun it0 lo (j - lo) (ws, [])).1 ∧ w.grownBy wr (some g)) (fun _ J _ => hi' - (intOf J).toNat)
      case atStart => exact ⟨lo, congrArg (Value.int .i64) (by omega), Nat.le_refl _, hle, by rw [Nat.sub_self]; exact World.ownsRow_nil _ _ _ _, by rw [Nat.sub_self]; exact hW.out.kept (row := none) ⟨rfl, rfl, rfl, Nat.le_refl _, fun _ _ _ => rfl⟩ (by simp), ⟨rfl, rfl, rfl, Nat.le_refl _, fun _ _ _ => rfl⟩⟩
      case round =>
        obtain ⟨j, rfl, hj1, hj2, hrow, hWs, hG⟩ := hrel
        have hnext : As.lenRun it0 lo (j + 1 - lo) (ws, []) = As.lenStep it0 j (As.lenRun it0 lo (j - lo) (ws, [])) := by
          rw [show j + 1 - lo = (j - lo) + 1 by omega, As.lenRun, show lo + (j - lo) = j by omega]
        have hlen := lenRun_len it0 lo ws [] (j - lo)
        have hrest := lenRun_rest it0 lo ws [] (j - lo) j (by omega)
        have hlate := lenRun_late it0 lo ws (j - lo)
        obtain ⟨st, hst⟩ : ∃ st, As.lenRun it0 lo (j - lo) (ws, []) = st := ⟨_, rfl⟩
        rw [hst] at hrow hWs hnext hlen hrest hlate
        rw [hn.out] at hlen
        have HNX := Lib.hid hnext
        have HST := Lib.hid hst
        clear hnext hst
        by_cases hlt : j < hi'
        · have hjn : j < n := by omega
          have hjS : j < st.1.length := by omega
          have hjn' : (j : Int) < (n : Int) := by omega
          have hjk' : (j : Int) < (k : Int) + 1025 + 1 := by omega
          have hj0 : (0 : Int) ≤ (j : Int) := by omega
          have hjw : j < ws.length := by rw [hn.out]; exact hjn
          have hOn := hWs.at j hjS
          have hfr := hWs.open' j
          have hset := hWs.set j hjS
          have hsb := hsp.out j hjw
          rw [List.getElem?_eq_getElem hjS, List.getElem?_eq_getElem hjw] at hrest
          rw [← Option.some.inj hrest] at hsb
          have hstep : As.lenStep it0 j st = if decide (it0 ≤ st.1[j].behind) || decide (st.1[j].before ≤ it0) then st else (st.1.set j ⟨st.1[j].item, st.1[j].behind, st.1[j].before, st.1[j].spare - 1⟩, if st.1[j].spare - 1 == -1 then st.2 ++ [j] else st.2) := by
            unfold As.lenStep; rw [List.getElem?_eq_getElem hjS]
          rcases hx : st.1[j] with ⟨it, be, bf, sp⟩
          rw [hx] at hOn hset hsb hstep
          dsimp only at hsb hset hstep
          obtain ⟨x0, x1, x2, x3⟩ := WayAt.of hOn
          obtain ⟨sb1, sb2⟩ := hsb
          have hws : IntKind.i64.wrap (sp - 1) = sp - 1 := IntWalk.i64_in _ (by omega)
          have HSET := Lib.hid hset
          have HSTEP := Lib.hid hstep
          clear hOn hx hset hstep hrest
          by_cases c1 : it0 ≤ be
          · have e1 : As.lenRun it0 lo (j + 1 - lo) (ws, []) = st := by rw [HNX.out, HSTEP.out, if_pos (by simp [c1])]
            have E1 := Lib.hid e1
            clear e1
            go_wp2
            exact ⟨⟨j + 1, by simp, by omega, by omega, by rw [E1.out]; exact hrow, by rw [E1.out]; exact hWs, hG⟩, by simp [intOf]; omega⟩
          · by_cases c2 : bf ≤ it0
            · have e1 : As.lenRun it0 lo (j + 1 - lo) (ws, []) = st := by rw [HNX.out, HSTEP.out, if_pos (by simp [c2])]
              have E1 := Lib.hid e1
              clear e1
              go_wp2
              exact ⟨⟨j + 1, by simp, by omega, by omega, by rw [E1.out]; exact hrow, by rw [E1.out]; exact hWs, hG⟩, by simp [intOf]; omega⟩
            · have e1 : As.lenRun it0 lo (j + 1 - lo) (ws, []) = (st.1.set j ⟨it, be, bf, sp - 1⟩, if sp - 1 == -1 then st.2 ++ [j] else st.2) := by rw [HNX.out, HSTEP.out, if_neg (by simp; omega)]
              have E1 := Lib.hid e1
              clear e1
              have hS1 := HSET.out (sp - 1)
              have hGs : wr.grownBy (wr.setCell ⟨(a.add (j * 4)).block, (a.add (j * 4)).off + 3, none⟩ (.int .i64 (sp - 1))) (some g) := by
                have := grown_set wr (a.add (j * 4)).block ((a.add (j * 4)).off + 3) (.int .i64 (sp - 1))
                rw [show (a.add (j * 4)).block = g by rw [hW.out.1, addr_mul]] at this ⊢
                exact this
              have hrow1 := hrow.kept hGs (.inr (fun e => by have := own_ge hrow _ e; omega))
              have HS1 := Lib.hid hS1
              have HGs := Lib.hid hGs
              clear hS1 hGs
              by_cases c3 : sp = 0
              · subst c3
                go_wp2_with (at_builtin; refine wpList_append_own _ rfl _ _ 46 rfl w.heap.size 3 i0 (.int .i64 0) 1 8 Try.underlying46 hi hz0 hz1 hz2 rfl (by decide) _ _ _ rfl (hrow1.alloc _) ⟨wr.heap.size, 0, none⟩ 1 1 [.int .i64 (j : Int)] rfl rfl (by have h := cell_one_new (wr.setCell ⟨(a.add (j * 4)).block, (a.add (j * 4)).off + 3, none⟩ (.int .i64 (0 - 1))) (.int .i64 (j : Int)) 3; simpa using h) (by simp [Value.oneCell']) (by unfold maxLen; omega) (by omega) (by have := hG.size; simp; omega) ?_; intro v' w3 hown' hgrow3 hnil3)
                have c4 : (((0 : Int) - 1 == -1)) = true := by decide
                have hB1 := grown_more (grown_more hG HGs.out (fun i e => by cases e; exact Or.inr rfl)) (World.grownBy_alloc _ (.cells #[.int .i64 (j : Int)] 3) none) (fun i e => by cases e)
                refine ⟨⟨j + 1, by simp, by omega, by omega, ?_, ?_, grown_more hB1 hgrow3 (fun i e => Or.inl (own_ge hrow _ e))⟩, by simp [intOf]; omega⟩
                · rw [E1.out, c4, if_pos rfl]
                  show w3.ownsRow _ _ _ _ (st.2 ++ [j]).length ((st.2 ++ [j]).flatMap natC)
                  rw [List.length_append, List.flatMap_append]
                  exact hown'
                · rw [E1.out]
                  exact (HS1.out.kept (World.grownBy_alloc _ (.cells #[.int .i64 (j : Int)] 3) none) (by simp)).kept hgrow3 (fun e => by have := own_ge hrow _ e.symm; omega)
              · have c4 : (sp - 1 == -1) = false := by simp; omega
                go_wp2
                exact ⟨⟨j + 1, by simp, by omega, by omega, by rw [E1.out, c4]; exact hrow1, by rw [E1.out]; exact HS1.out, grown_more hG HGs.out (fun i e => by cases e; exact Or.inr rfl)⟩, by simp [intOf]; omega⟩
        · obtain rfl : j = hi' := by omega
          have hjn' : ¬ (j : Int) < (n : Int) := by omega
          go_wp2
          go_ret
          exact ⟨_, rfl, by rw [HST.out]; exact hrow, by rw [HST.out]; exact hWs, hG⟩
end Go.Proofs.Ytplfpaffjaldoaa
