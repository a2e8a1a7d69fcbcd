/-
  What the document's own read of decode returns, of one kind of row.
-/
import Derived.Test.YtdefgliogmlghaaDecodeV
namespace Go.Proofs.Ytdefgliogmlghaa
open Go.ChangeShapes Go.WideShapes Go.ChangeAt Go.RowKit
set_option linter.unusedVariables false

set_option maxHeartbeats 16000000 in
set_option maxRecDepth 100000 in
theorem rread_25n (x n : Nat) (S B : ByteArray) (w : World) (HB : Hid (Th.rbits 25 false = B)) (hn : n ≤ 32) (hn0 : 1 ≤ n) (hBn : B.size = n) (hSn : S.size = n) (hL : Hid (∀ k (hk : k < B.size), Letter B[k])) (hS : Hid (∀ k (hk : k < S.size), S[k].toNat = 48 + x / 2 ^ (n - 1 - k) % 2)) :
    Calls Try.prog 33 #[.int .i64 25, .bool false, .string S] w fun e w' => e = .returned (.tuple #[insV (De.rins 25 false x B.data.toList), .bool (De.rok 25 false x B.data.toList)]) ∧ Below w.heap.size w w' := by
  have q1 : ((B.size : Int) != (S.size : Int)) = false := by rw [hBn, hSn]; simp
  have q2 : (B.size != S.size) = false := by rw [hBn, hSn]; simp
  have q4 : ¬ B.toList = [] := fun e => by have := ne_of_toList e; omega
  have q3 : B.toList.isEmpty = false := by simpa using q4
  have hB1 : n ≤ B.size := by omega
  have hB2 : B.size ≤ n := by omega
  have hS1 : n ≤ S.size := by omega
  have hS2 : S.size ≤ n := by omega
  have HN := Lib.hid hBn
  have HM := Lib.hid hSn
  clear hBn hSn
  go_enter Try.func33, Try.ntmps33
  go_wp2_with (go_at_call 58; refine (rbits_any _ _ _).mono ?_; rintro e w' ⟨rfl, rfl⟩; rw [HB.out])
  go_loopw [11, 12, 13, 14] (fun X Y T K wr => ∃ (k : Nat) (s : De.Stt), k ≤ n ∧ X = .int .i64 (s.x : Int) ∧ Y = .int .i64 (s.y : Int) ∧ T = .int .i64 (s.t : Int) ∧ K = .int .i64 (k : Int) ∧ Mem 25 false w w.heap.size s wr ∧ s.Bd k ∧ RunK x B.data.toList k s) (fun _ _ _ K _ => 32 - (intOf K).toNat)
  case atStart => exact ⟨0, De.Stt.zero, by omega, rfl, rfl, rfl, rfl, mem_start 25 false w, De.Stt.Bd.zero, RunK.start _ _⟩
  case round =>
    obtain ⟨k, s, hk, rfl, rfl, rfl, rfl, hM, hBd, hR⟩ := hrel
    have HM' := Lib.hid hM
    have HBd := Lib.hid hBd
    have HR := Lib.hid hR
    clear hM hBd hR
    by_cases hlt : k < n
    · have hkB : k < B.size := by omega
      have hkS : k < S.size := by omega
      have hSk := hS.out k hkS
      obtain ⟨β, hβ⟩ : ∃ β, x / 2 ^ (n - 1 - k) % 2 = β := ⟨_, rfl⟩
      have hβ2 : β < 2 := by rw [← hβ]; exact Nat.mod_lt _ (by decide)
      rw [hβ] at hSk
      have hSlo : 48 ≤ S[k].toNat := by omega
      have hShi : S[k].toNat ≤ 49 := by omega
      have hsub : (S[k].toNat : Int) - 48 = (β : Int) := by omega
      have HSk := Lib.hid hSk
      have Hβ := Lib.hid hβ
      clear hSk hβ
      by_cases c48 : B[k] = 48
      · have hcc := c48
        rcases (by omega : β = 0 ∨ β = 1) with hbv | hbv
        · have hok := Lib.hid (show (if B[k] == 48 then x / 2 ^ (n - 1 - k) % 2 == 0 else if B[k] == 49 then x / 2 ^ (n - 1 - k) % 2 == 1 else true) = true by rw [hcc, Hβ.out, hbv]; rfl)
          have f48 : ((B[k].toNat : Int) == 48) = true := tstT (d := 48) rfl (by first | assumption | (rw [hcc]; decide))
          have f49 : ((B[k].toNat : Int) == 49) = false := tstF (d := 49) rfl (by first | assumption | (rw [hcc]; decide))
          have f120 : ((B[k].toNat : Int) == 120) = false := tstF (d := 120) rfl (by first | assumption | (rw [hcc]; decide))
          have f121 : ((B[k].toNat : Int) == 121) = false := tstF (d := 121) rfl (by first | assumption | (rw [hcc]; decide))
          have f89 : ((B[k].toNat : Int) == 89) = false := tstF (d := 89) rfl (by first | assumption | (rw [hcc]; decide))
          have f0 : ((B[k].toNat : Int) != (S[k].toNat : Int)) = false := by rw [hcc, HSk.out, hbv]; decide
          have n120 := Lib.hid (show ¬ B[k] = 120 by first | assumption | (rw [hcc]; decide))
          have n121 := Lib.hid (show ¬ B[k] = 121 by first | assumption | (rw [hcc]; decide))
          have n89 := Lib.hid (show ¬ B[k] = 89 by first | assumption | (rw [hcc]; decide))
          clear hcc
          (try clear c48)
          (try clear c49)
          (try clear c120)
          (try clear c121)
          (try clear c89)
          have Hbv := Lib.hid hbv
          clear hbv
          go_wp2
          go_quiet (fail)
          go_wp2
          generalize hG : World.drewN _ _ = wg
          have HMg := Lib.hid (show Mem 25 false w w.heap.size s wg by rw [← hG]; exact HM'.out.drewN _)
          clear hG
          have hIg := HMg.out.2.2.2.1
          have y1 : (0 : Int) ≤ (k : Int) := by omega
          have y2 : (k : Int).toNat = k := by omega
          have y3 : (k : Int) < (B.size : Int) := by omega
          have HLk := Lib.hid (hL.out k hkB)
          have HT := Lib.hid (taken_any 25 false s k B[k] β (w.heap.size + 1 + 1) wg.drew HBd.out (by omega) hβ2 HLk.out HMg.out.2.2.2.2.2.1 HMg.out.2.2.2.2.2.2.1 HMg.out.2.2.2.2.2.2.2)
          go_region_with ((go_at_call 59; refine HT.out.mono ?_; rintro e w5 ⟨rfl, hK5⟩; have hi5 := ins_kept hK5 hIg; have ho5 := open_kept hK5 HMg.out.2.2.2.2.1))
          all_goals
            go_wp2
            refine ⟨⟨k + 1, s.step B[k] β, by omega, ?_, ?_, ?_, by go_num, HMg.out.drew.step hK5, HBd.out.step _ _ hβ2 (letter_bd HLk.out), ?_⟩, by simp [intOf]; omega⟩
            · exact congrArg (Value.int .i64) (by rw [De.step_x _ _ _ n120.out])
            · exact congrArg (Value.int .i64) (by rw [De.step_y _ _ _ n121.out])
            · exact congrArg (Value.int .i64) (by rw [De.step_t _ _ _ n89.out])
            · have := HR.out.step hkB HN.out hok.out
              rw [Hβ.out] at this
              exact this
        · have hok := Lib.hid (show (if B[k] == 48 then x / 2 ^ (n - 1 - k) % 2 == 0 else if B[k] == 49 then x / 2 ^ (n - 1 - k) % 2 == 1 else true) = false by rw [hcc, Hβ.out, hbv]; rfl)
          have f48 : ((B[k].toNat : Int) == 48) = true := tstT (d := 48) rfl (by first | assumption | (rw [hcc]; decide))
          have f49 : ((B[k].toNat : Int) == 49) = false := tstF (d := 49) rfl (by first | assumption | (rw [hcc]; decide))
          have f120 : ((B[k].toNat : Int) == 120) = false := tstF (d := 120) rfl (by first | assumption | (rw [hcc]; decide))
          have f121 : ((B[k].toNat : Int) == 121) = false := tstF (d := 121) rfl (by first | assumption | (rw [hcc]; decide))
          have f89 : ((B[k].toNat : Int) == 89) = false := tstF (d := 89) rfl (by first | assumption | (rw [hcc]; decide))
          have f0 : ((B[k].toNat : Int) != (S[k].toNat : Int)) = true := by rw [hcc, HSk.out, hbv]; decide
          have HOK := Lib.hid (HR.out.bad hkB HN.out hok.out)
          clear hcc hbv
          (try clear c48)
          (try clear c49)
          obtain ⟨m1, ⟨c0, c1, c2, c3, c4, c5, c6, c7⟩, m3, m4, m5, m6, m7, m8⟩ := HM'.out
          have mf : ∀ o, World.frozen? _ ⟨w.heap.size, o, none⟩ = false := m3
          have HB1 := Lib.hid m1
          clear m1 m3 m4 m5 m6 m7
          go_wp2
          go_quiet (fail)
          go_wp2
          rw [(De.rins_bad HOK.out).1, (De.rins_bad HOK.out).2]
          exact bodyPost_ret (v := .tuple #[.agg #[.int .i64 0, .int .i64 0, .int .i64 0, .int .i64 0, .int .i64 0, .int .i64 0, .int .i64 0, .bool false], .bool false]) (by simp [results, Try.results33, go_sem, c0, c1, c2, c3, c4, c5, c6, c7]) rfl ⟨rfl, by (iterate 8 (refine Below.setCell ?_ (by simp) _)); exact below_drewN HB1.out _⟩
      · by_cases c49 : B[k] = 49
        · have hcc := c49
          rcases (by omega : β = 1 ∨ β = 0) with hbv | hbv
          · have hok := Lib.hid (show (if B[k] == 48 then x / 2 ^ (n - 1 - k) % 2 == 0 else if B[k] == 49 then x / 2 ^ (n - 1 - k) % 2 == 1 else true) = true by rw [hcc, Hβ.out, hbv]; rfl)
            have f48 : ((B[k].toNat : Int) == 48) = false := tstF (d := 48) rfl (by first | assumption | (rw [hcc]; decide))
            have f49 : ((B[k].toNat : Int) == 49) = true := tstT (d := 49) rfl (by first | assumption | (rw [hcc]; decide))
            have f120 : ((B[k].toNat : Int) == 120) = false := tstF (d := 120) rfl (by first | assumption | (rw [hcc]; decide))
            have f121 : ((B[k].toNat : Int) == 121) = false := tstF (d := 121) rfl (by first | assumption | (rw [hcc]; decide))
            have f89 : ((B[k].toNat : Int) == 89) = false := tstF (d := 89) rfl (by first | assumption | (rw [hcc]; decide))
            have f0 : ((B[k].toNat : Int) != (S[k].toNat : Int)) = false := by rw [hcc, HSk.out, hbv]; decide
            have n120 := Lib.hid (show ¬ B[k] = 120 by first | assumption | (rw [hcc]; decide))
            have n121 := Lib.hid (show ¬ B[k] = 121 by first | assumption | (rw [hcc]; decide))
            have n89 := Lib.hid (show ¬ B[k] = 89 by first | assumption | (rw [hcc]; decide))
            clear hcc
            (try clear c48)
            (try clear c49)
            (try clear c120)
            (try clear c121)
            (try clear c89)
            have Hbv := Lib.hid hbv
            clear hbv
            go_wp2
            go_quiet (fail)
            go_wp2
            generalize hG : World.drewN _ _ = wg
            have HMg := Lib.hid (show Mem 25 false w w.heap.size s wg by rw [← hG]; exact HM'.out.drewN _)
            clear hG
            have hIg := HMg.out.2.2.2.1
            have y1 : (0 : Int) ≤ (k : Int) := by omega
            have y2 : (k : Int).toNat = k := by omega
            have y3 : (k : Int) < (B.size : Int) := by omega
            have HLk := Lib.hid (hL.out k hkB)
            have HT := Lib.hid (taken_any 25 false s k B[k] β (w.heap.size + 1 + 1) wg.drew HBd.out (by omega) hβ2 HLk.out HMg.out.2.2.2.2.2.1 HMg.out.2.2.2.2.2.2.1 HMg.out.2.2.2.2.2.2.2)
            go_region_with ((go_at_call 59; refine HT.out.mono ?_; rintro e w5 ⟨rfl, hK5⟩; have hi5 := ins_kept hK5 hIg; have ho5 := open_kept hK5 HMg.out.2.2.2.2.1))
            all_goals
              go_wp2
              refine ⟨⟨k + 1, s.step B[k] β, by omega, ?_, ?_, ?_, by go_num, HMg.out.drew.step hK5, HBd.out.step _ _ hβ2 (letter_bd HLk.out), ?_⟩, by simp [intOf]; omega⟩
              · exact congrArg (Value.int .i64) (by rw [De.step_x _ _ _ n120.out])
              · exact congrArg (Value.int .i64) (by rw [De.step_y _ _ _ n121.out])
              · exact congrArg (Value.int .i64) (by rw [De.step_t _ _ _ n89.out])
              · have := HR.out.step hkB HN.out hok.out
                rw [Hβ.out] at this
                exact this
          · have hok := Lib.hid (show (if B[k] == 48 then x / 2 ^ (n - 1 - k) % 2 == 0 else if B[k] == 49 then x / 2 ^ (n - 1 - k) % 2 == 1 else true) = false by rw [hcc, Hβ.out, hbv]; rfl)
            have f48 : ((B[k].toNat : Int) == 48) = false := tstF (d := 48) rfl (by first | assumption | (rw [hcc]; decide))
            have f49 : ((B[k].toNat : Int) == 49) = true := tstT (d := 49) rfl (by first | assumption | (rw [hcc]; decide))
            have f120 : ((B[k].toNat : Int) == 120) = false := tstF (d := 120) rfl (by first | assumption | (rw [hcc]; decide))
            have f121 : ((B[k].toNat : Int) == 121) = false := tstF (d := 121) rfl (by first | assumption | (rw [hcc]; decide))
            have f89 : ((B[k].toNat : Int) == 89) = false := tstF (d := 89) rfl (by first | assumption | (rw [hcc]; decide))
            have f0 : ((B[k].toNat : Int) != (S[k].toNat : Int)) = true := by rw [hcc, HSk.out, hbv]; decide
            have HOK := Lib.hid (HR.out.bad hkB HN.out hok.out)
            clear hcc hbv
            (try clear c48)
            (try clear c49)
            obtain ⟨m1, ⟨c0, c1, c2, c3, c4, c5, c6, c7⟩, m3, m4, m5, m6, m7, m8⟩ := HM'.out
            have mf : ∀ o, World.frozen? _ ⟨w.heap.size, o, none⟩ = false := m3
            have HB1 := Lib.hid m1
            clear m1 m3 m4 m5 m6 m7
            go_wp2
            go_quiet (fail)
            go_wp2
            rw [(De.rins_bad HOK.out).1, (De.rins_bad HOK.out).2]
            exact bodyPost_ret (v := .tuple #[.agg #[.int .i64 0, .int .i64 0, .int .i64 0, .int .i64 0, .int .i64 0, .int .i64 0, .int .i64 0, .bool false], .bool false]) (by simp [results, Try.results33, go_sem, c0, c1, c2, c3, c4, c5, c6, c7]) rfl ⟨rfl, by (iterate 8 (refine Below.setCell ?_ (by simp) _)); exact below_drewN HB1.out _⟩
        · have hok := Lib.hid (show (if B[k] == 48 then x / 2 ^ (n - 1 - k) % 2 == 0 else if B[k] == 49 then x / 2 ^ (n - 1 - k) % 2 == 1 else true) = true by simp [c48, c49])
          by_cases c120 : B[k] = 120
          · have hcc := c120
            have f48 : ((B[k].toNat : Int) == 48) = false := tstF (d := 48) rfl (by first | assumption | (rw [hcc]; decide))
            have f49 : ((B[k].toNat : Int) == 49) = false := tstF (d := 49) rfl (by first | assumption | (rw [hcc]; decide))
            have f120 : ((B[k].toNat : Int) == 120) = true := tstT (d := 120) rfl (by first | assumption | (rw [hcc]; decide))
            have f121 : ((B[k].toNat : Int) == 121) = false := tstF (d := 121) rfl (by first | assumption | (rw [hcc]; decide))
            have f89 : ((B[k].toNat : Int) == 89) = false := tstF (d := 89) rfl (by first | assumption | (rw [hcc]; decide))
            have n120 := Lib.hid (show B[k] = 120 by first | assumption | (rw [hcc]; decide))
            have n121 := Lib.hid (show ¬ B[k] = 121 by first | assumption | (rw [hcc]; decide))
            have n89 := Lib.hid (show ¬ B[k] = 89 by first | assumption | (rw [hcc]; decide))
            clear hcc
            (try clear c48)
            (try clear c49)
            (try clear c120)
            (try clear c121)
            (try clear c89)
            go_wp2
            go_quiet (fail)
            go_wp2
            generalize hG : World.drewN _ _ = wg
            have HMg := Lib.hid (show Mem 25 false w w.heap.size s wg by rw [← hG]; exact HM'.out.drewN _)
            clear hG
            have hIg := HMg.out.2.2.2.1
            have y1 : (0 : Int) ≤ (k : Int) := by omega
            have y2 : (k : Int).toNat = k := by omega
            have y3 : (k : Int) < (B.size : Int) := by omega
            have HLk := Lib.hid (hL.out k hkB)
            have HT := Lib.hid (taken_any 25 false s k B[k] β (w.heap.size + 1 + 1) wg.drew HBd.out (by omega) hβ2 HLk.out HMg.out.2.2.2.2.2.1 HMg.out.2.2.2.2.2.2.1 HMg.out.2.2.2.2.2.2.2)
            go_region_with ((go_at_call 59; refine HT.out.mono ?_; rintro e w5 ⟨rfl, hK5⟩; have hi5 := ins_kept hK5 hIg; have ho5 := open_kept hK5 HMg.out.2.2.2.2.1))
            all_goals
              go_wp2
              refine ⟨⟨k + 1, s.step B[k] β, by omega, ?_, ?_, ?_, by go_num, HMg.out.drew.step hK5, HBd.out.step _ _ hβ2 (letter_bd HLk.out), ?_⟩, by simp [intOf]; omega⟩
              · exact congrArg (Value.int .i64) (by rw [n120.out]; rfl)
              · exact congrArg (Value.int .i64) (by rw [De.step_y _ _ _ n121.out])
              · exact congrArg (Value.int .i64) (by rw [De.step_t _ _ _ n89.out])
              · have := HR.out.step hkB HN.out hok.out
                rw [Hβ.out] at this
                exact this
          · by_cases c121 : B[k] = 121
            · have hcc := c121
              have f48 : ((B[k].toNat : Int) == 48) = false := tstF (d := 48) rfl (by first | assumption | (rw [hcc]; decide))
              have f49 : ((B[k].toNat : Int) == 49) = false := tstF (d := 49) rfl (by first | assumption | (rw [hcc]; decide))
              have f120 : ((B[k].toNat : Int) == 120) = false := tstF (d := 120) rfl (by first | assumption | (rw [hcc]; decide))
              have f121 : ((B[k].toNat : Int) == 121) = true := tstT (d := 121) rfl (by first | assumption | (rw [hcc]; decide))
              have f89 : ((B[k].toNat : Int) == 89) = false := tstF (d := 89) rfl (by first | assumption | (rw [hcc]; decide))
              have n120 := Lib.hid (show ¬ B[k] = 120 by first | assumption | (rw [hcc]; decide))
              have n121 := Lib.hid (show B[k] = 121 by first | assumption | (rw [hcc]; decide))
              have n89 := Lib.hid (show ¬ B[k] = 89 by first | assumption | (rw [hcc]; decide))
              clear hcc
              (try clear c48)
              (try clear c49)
              (try clear c120)
              (try clear c121)
              (try clear c89)
              go_wp2
              go_quiet (fail)
              go_wp2
              generalize hG : World.drewN _ _ = wg
              have HMg := Lib.hid (show Mem 25 false w w.heap.size s wg by rw [← hG]; exact HM'.out.drewN _)
              clear hG
              have hIg := HMg.out.2.2.2.1
              have y1 : (0 : Int) ≤ (k : Int) := by omega
              have y2 : (k : Int).toNat = k := by omega
              have y3 : (k : Int) < (B.size : Int) := by omega
              have HLk := Lib.hid (hL.out k hkB)
              have HT := Lib.hid (taken_any 25 false s k B[k] β (w.heap.size + 1 + 1) wg.drew HBd.out (by omega) hβ2 HLk.out HMg.out.2.2.2.2.2.1 HMg.out.2.2.2.2.2.2.1 HMg.out.2.2.2.2.2.2.2)
              go_region_with ((go_at_call 59; refine HT.out.mono ?_; rintro e w5 ⟨rfl, hK5⟩; have hi5 := ins_kept hK5 hIg; have ho5 := open_kept hK5 HMg.out.2.2.2.2.1))
              all_goals
                go_wp2
                refine ⟨⟨k + 1, s.step B[k] β, by omega, ?_, ?_, ?_, by go_num, HMg.out.drew.step hK5, HBd.out.step _ _ hβ2 (letter_bd HLk.out), ?_⟩, by simp [intOf]; omega⟩
                · exact congrArg (Value.int .i64) (by rw [De.step_x _ _ _ n120.out])
                · exact congrArg (Value.int .i64) (by rw [n121.out]; rfl)
                · exact congrArg (Value.int .i64) (by rw [De.step_t _ _ _ n89.out])
                · have := HR.out.step hkB HN.out hok.out
                  rw [Hβ.out] at this
                  exact this
            · by_cases c89 : B[k] = 89
              · have hcc := c89
                have f48 : ((B[k].toNat : Int) == 48) = false := tstF (d := 48) rfl (by first | assumption | (rw [hcc]; decide))
                have f49 : ((B[k].toNat : Int) == 49) = false := tstF (d := 49) rfl (by first | assumption | (rw [hcc]; decide))
                have f120 : ((B[k].toNat : Int) == 120) = false := tstF (d := 120) rfl (by first | assumption | (rw [hcc]; decide))
                have f121 : ((B[k].toNat : Int) == 121) = false := tstF (d := 121) rfl (by first | assumption | (rw [hcc]; decide))
                have f89 : ((B[k].toNat : Int) == 89) = true := tstT (d := 89) rfl (by first | assumption | (rw [hcc]; decide))
                have n120 := Lib.hid (show ¬ B[k] = 120 by first | assumption | (rw [hcc]; decide))
                have n121 := Lib.hid (show ¬ B[k] = 121 by first | assumption | (rw [hcc]; decide))
                have n89 := Lib.hid (show B[k] = 89 by first | assumption | (rw [hcc]; decide))
                clear hcc
                (try clear c48)
                (try clear c49)
                (try clear c120)
                (try clear c121)
                (try clear c89)
                go_wp2
                go_quiet (fail)
                go_wp2
                generalize hG : World.drewN _ _ = wg
                have HMg := Lib.hid (show Mem 25 false w w.heap.size s wg by rw [← hG]; exact HM'.out.drewN _)
                clear hG
                have hIg := HMg.out.2.2.2.1
                have y1 : (0 : Int) ≤ (k : Int) := by omega
                have y2 : (k : Int).toNat = k := by omega
                have y3 : (k : Int) < (B.size : Int) := by omega
                have HLk := Lib.hid (hL.out k hkB)
                have HT := Lib.hid (taken_any 25 false s k B[k] β (w.heap.size + 1 + 1) wg.drew HBd.out (by omega) hβ2 HLk.out HMg.out.2.2.2.2.2.1 HMg.out.2.2.2.2.2.2.1 HMg.out.2.2.2.2.2.2.2)
                go_region_with ((go_at_call 59; refine HT.out.mono ?_; rintro e w5 ⟨rfl, hK5⟩; have hi5 := ins_kept hK5 hIg; have ho5 := open_kept hK5 HMg.out.2.2.2.2.1))
                all_goals
                  go_wp2
                  refine ⟨⟨k + 1, s.step B[k] β, by omega, ?_, ?_, ?_, by go_num, HMg.out.drew.step hK5, HBd.out.step _ _ hβ2 (letter_bd HLk.out), ?_⟩, by simp [intOf]; omega⟩
                  · exact congrArg (Value.int .i64) (by rw [De.step_x _ _ _ n120.out])
                  · exact congrArg (Value.int .i64) (by rw [De.step_y _ _ _ n121.out])
                  · exact congrArg (Value.int .i64) (by rw [n89.out]; rfl)
                  · have := HR.out.step hkB HN.out hok.out
                    rw [Hβ.out] at this
                    exact this
              · have hcc : True := trivial
                have f48 : ((B[k].toNat : Int) == 48) = false := tstF (d := 48) rfl (by first | assumption | (rw [hcc]; decide))
                have f49 : ((B[k].toNat : Int) == 49) = false := tstF (d := 49) rfl (by first | assumption | (rw [hcc]; decide))
                have f120 : ((B[k].toNat : Int) == 120) = false := tstF (d := 120) rfl (by first | assumption | (rw [hcc]; decide))
                have f121 : ((B[k].toNat : Int) == 121) = false := tstF (d := 121) rfl (by first | assumption | (rw [hcc]; decide))
                have f89 : ((B[k].toNat : Int) == 89) = false := tstF (d := 89) rfl (by first | assumption | (rw [hcc]; decide))
                have n120 := Lib.hid (show ¬ B[k] = 120 by first | assumption | (rw [hcc]; decide))
                have n121 := Lib.hid (show ¬ B[k] = 121 by first | assumption | (rw [hcc]; decide))
                have n89 := Lib.hid (show ¬ B[k] = 89 by first | assumption | (rw [hcc]; decide))
                clear hcc
                (try clear c48)
                (try clear c49)
                (try clear c120)
                (try clear c121)
                (try clear c89)
                go_wp2
                go_quiet (fail)
                go_wp2
                generalize hG : World.drewN _ _ = wg
                have HMg := Lib.hid (show Mem 25 false w w.heap.size s wg by rw [← hG]; exact HM'.out.drewN _)
                clear hG
                have hIg := HMg.out.2.2.2.1
                have y1 : (0 : Int) ≤ (k : Int) := by omega
                have y2 : (k : Int).toNat = k := by omega
                have y3 : (k : Int) < (B.size : Int) := by omega
                have HLk := Lib.hid (hL.out k hkB)
                have HT := Lib.hid (taken_any 25 false s k B[k] β (w.heap.size + 1 + 1) wg.drew HBd.out (by omega) hβ2 HLk.out HMg.out.2.2.2.2.2.1 HMg.out.2.2.2.2.2.2.1 HMg.out.2.2.2.2.2.2.2)
                go_region_with ((go_at_call 59; refine HT.out.mono ?_; rintro e w5 ⟨rfl, hK5⟩; have hi5 := ins_kept hK5 hIg; have ho5 := open_kept hK5 HMg.out.2.2.2.2.1))
                all_goals
                  go_wp2
                  refine ⟨⟨k + 1, s.step B[k] β, by omega, ?_, ?_, ?_, by go_num, HMg.out.drew.step hK5, HBd.out.step _ _ hβ2 (letter_bd HLk.out), ?_⟩, by simp [intOf]; omega⟩
                  · exact congrArg (Value.int .i64) (by rw [De.step_x _ _ _ n120.out])
                  · exact congrArg (Value.int .i64) (by rw [De.step_y _ _ _ n121.out])
                  · exact congrArg (Value.int .i64) (by rw [De.step_t _ _ _ n89.out])
                  · have := HR.out.step hkB HN.out hok.out
                    rw [Hβ.out] at this
                    exact this
    · have hge : ¬ k < B.size := by omega
      obtain ⟨hs, hok⟩ := HR.out.done (by omega)
      have HS := Lib.hid hs
      have HOK := Lib.hid hok
      clear hs hok
      have hM0 := HM'.out.same
      obtain ⟨g1, g2, g3, g4, g5, g6, g7, g8, g9, g10⟩ := HBd.out
      have bw := bd_le _ _ g6 (by omega)
      have bi : (0 : Int) ≤ (s.imm : Int) ∧ (s.imm : Int) ≤ 1073741824 := by
        have : k * 33554432 ≤ 32 * 33554432 := Nat.mul_le_mul_right _ (by omega)
        omega
      have bx : (0 : Int) ≤ (s.x : Int) ∧ (s.x : Int) ≤ 1 := by omega
      have by' : (0 : Int) ≤ (s.y : Int) ∧ (s.y : Int) ≤ 1 := by omega
      have bt : (0 : Int) ≤ (s.t : Int) ∧ (s.t : Int) ≤ 1 := by omega
      obtain ⟨bw0, bw1⟩ := bw
      obtain ⟨bi0, bi1⟩ := bi
      obtain ⟨bx0, bx1⟩ := bx
      obtain ⟨by0, by1⟩ := by'
      obtain ⟨bt0, bt1⟩ := bt
      clear g1 g2 g3 g4 g5 g6 g7 g8 g9 g10
      obtain ⟨m1, m2, m3, m4, m5, m6, m7, m8⟩ := HM'.out
      have HM0 := Lib.hid hM0
      have hfr : ∀ o, World.frozen? _ ⟨w.heap.size + 1, o, none⟩ = false := m5
      clear m1 m2 m3 m5 hM0
      obtain ⟨i0, i1, i2, i3, i4, i5, i6, i7⟩ := m4
      go_wp2_with (first | (go_at_call 60; refine (sign_int _ _ _ (by decide) (by decide) (by omega) (by omega)).mono ?_; rintro e w' ⟨rfl, rfl⟩))
      generalize hG : World.setCell _ _ _ = wg
      have hM2 : Mem2 25 s.rd s.rn s.rm s.ra (De.sgn s.imm 8) s.cond false w w.heap.size wg := by rw [← hG]; exact HM0.out.put5 _
      clear hG i0 i1 i2 i3 i4 i5 i6 i7 hfr m6 m7 m8
      have HI2 := Lib.hid hM2
      obtain ⟨m1, m2, m3, m4, m8⟩ := hM2
      have HB1 := Lib.hid m1
      have HM2 := Lib.hid m2
      have HM3 := Lib.hid m3
      have HM4 := Lib.hid m4
      clear m1 m3
      obtain ⟨c0, c1, c2, c3, c4, c5, c6, c7⟩ := m2
      obtain ⟨i0, i1, i2, i3, i4, i5, i6, i7⟩ := m4
      go_region_with ((go_at_call 62; refine (rcheck_any _ _ _ _ _ _ _ _ _).mono ?_; rintro e w6 ⟨rfl, hb6⟩; have hz6 := hb6.size; simp at hz6; have C6 := InsAt.below (ins_drew HM2.out) hb6 (by simp; omega); have O6 : ∀ o, w6.frozen? ⟨w.heap.size, o, none⟩ = false := Open8.below (open_drew HM3.out) hb6 (by simp; omega); have I6 := InsAt.below (ins_drew HM4.out) hb6 (by simp; omega); have HB6 := Lib.hid (HB1.out.drew.trans (hb6.mono (by simp; omega)))))
      all_goals
        go_wp2
        obtain ⟨d0, d1, d2, d3, d4, d5, d6, d7⟩ := C6
        refine bodyPost_ret (v := .tuple #[insV ⟨25, s.rd, s.rn, s.rm, s.ra, De.sgn s.imm 8, s.cond, false⟩, .bool (Th.check ⟨25, s.rd, s.rn, s.rm, s.ra, De.sgn s.imm 8, s.cond, false⟩ == 0)]) (by simp [results, Try.results33, go_sem, d0, d1, d2, d3, d4, d5, d6, d7]) rfl ⟨?_, by (iterate 8 (refine Below.setCell ?_ (by simp) _)); exact HB6.out⟩
        have E : De.fin 25 false s = ⟨25, s.rd, s.rn, s.rm, s.ra, De.sgn s.imm 8, s.cond, false⟩ := rfl
        rw [(De.rins_good HOK.out).1, (De.rins_good HOK.out).2, ← HS.out, E]
end Go.Proofs.Ytdefgliogmlghaa
