/-
  What the document's next and in return (layer 11).
-/
import Derived.Test.YtknbnfnibdbokaaDoorLxC
namespace Go.Proofs.YtknbnfnibdbokaaDoor
open Go.ChangeShapes Go.WideShapes Go.ChangeAt Go.RowKit
set_option linter.unusedVariables false
set_option linter.unusedSimpArgs false

theorem Lx.byte_eq {c : UInt8} {n : Nat} (hn : n < 256) (h : ((c.toNat : Int) == (n : Int)) = true) : c = UInt8.ofNat n := by
  have h1 := eq_of_beq h
  have h2 : c.toNat = n := by exact_mod_cast h1
  rw [← h2]; simp
theorem Lx.byte_ne {c : UInt8} {n : Nat} (hn : n < 256) (h : ((c.toNat : Int) == (n : Int)) = false) : c ≠ UInt8.ofNat n := by
  rintro rfl
  rw [show (UInt8.ofNat n).toNat = n from by simp [Nat.mod_eq_of_lt hn]] at h
  simp at h
/-- where the next token begins, from a place on -/
def Lx.nxt (l : List UInt8) (k : Nat) : Nat := k + Lx.skip false (l.drop k)
def Lx.nxr (l : List UInt8) (k : Nat) : Nat := k + Lx.skip true (l.drop k)
theorem Lx.nxr_step {l r : List UInt8} {c : UInt8} {k : Nat} (h : l.drop k = c :: r) (hr : l.drop (k + 1) = r) (hc : c ≠ 10) : Lx.nxr l k = Lx.nxr l (k + 1) := by
  unfold Lx.nxr; rw [h, hr, Lx.skip_rem, decide_eq_true hc]; omega
theorem Lx.nxr_end {l r : List UInt8} {c : UInt8} {k : Nat} (h : l.drop k = c :: r) (hc : c = 10) : Lx.nxr l k = Lx.nxt l k := by
  subst hc
  unfold Lx.nxr Lx.nxt
  rw [h, Lx.skip_rem, Lx.skip_blank (by simp) (by decide)]; rfl
theorem Lx.nxr_stop {l : List UInt8} {k : Nat} (h : l.drop k = []) : Lx.nxr l k = Lx.nxt l k := by
  unfold Lx.nxr Lx.nxt; rw [h, Lx.skip_nil, Lx.skip_nil]
theorem Lx.nxt_two {l r : List UInt8} {c : UInt8} {k : Nat} (h : l.drop k = c :: r) (hc : c = 47 ∧ r.head? = some 47) : Lx.nxt l k = Lx.nxr l k := by
  obtain ⟨rfl, h2⟩ := hc
  unfold Lx.nxr Lx.nxt
  rw [h, Lx.skip_two ⟨rfl, h2⟩, Lx.skip_rem]; rfl
theorem Lx.nxt_blank {l r : List UInt8} {c : UInt8} {k : Nat} (h : l.drop k = c :: r) (hr : l.drop (k + 1) = r) (hn : ¬ (c = 47 ∧ r.head? = some 47)) (hb : Lx.blank c = true) : Lx.nxt l k = Lx.nxt l (k + 1) := by
  unfold Lx.nxt; rw [h, hr, Lx.skip_blank hn hb]; omega
theorem Lx.nxt_tok {l r : List UInt8} {c : UInt8} {k : Nat} (h : l.drop k = c :: r) (hn : ¬ (c = 47 ∧ r.head? = some 47)) (hb : Lx.blank c = false) : Lx.nxt l k = k := by
  unfold Lx.nxt; rw [h, Lx.skip_tok hn hb]; omega
theorem Lx.nxt_end {l : List UInt8} {k : Nat} (h : l.drop k = []) : Lx.nxt l k = k := by unfold Lx.nxt; rw [h, Lx.skip_nil]; omega
set_option maxHeartbeats 8000000 in
theorem rnext_any (s : ByteArray) (hs : s.size ≤ 281474976710656) (k0 : Nat) (hk0 : k0 ≤ s.size) (w : World) :
    Calls Tryd.prog 15 #[.string s, .int .i64 (k0 : Int)] w fun e w' => e = .returned (.int .i64 (Lx.nxt s.data.toList k0 : Nat)) ∧ w' = w := by
  have CB := Lib.hid rblank_any
  obtain ⟨T, hT⟩ : ∃ T, Lx.nxt s.data.toList k0 = T := ⟨_, rfl⟩
  rw [hT]
  have HT := Lib.hid hT
  clear hT
  go_enter Tryd.func15, Tryd.ntmps15
  go_wp2
  go_loopw [1] (fun K wr => wr = w ∧ ∃ k : Nat, k ≤ s.size ∧ K = .int .i64 (k : Int) ∧ Hid (Lx.nxt s.data.toList k = T)) (fun K _ => s.size - (intOf K).toNat)
  case atStart => exact ⟨rfl, k0, hk0, rfl, HT⟩
  case round =>
    obtain ⟨rfl, k, hk, rfl, HK⟩ := hrel
    by_cases hlt : k < s.size
    · have hlt' : (k : Int) < (s.size : Int) := by omega
      have HG := Lib.hid (Lx.get s k hlt)
      have C1 := Lib.hid fun w => CB.out s[k] w
      obtain ⟨q, hq⟩ : ∃ q : Bool, Lx.blank s[k] = q := ⟨_, rfl⟩
      rw [hq] at C1
      have HQ := Lib.hid hq
      clear hq
      by_cases h1 : k + 1 < s.size
      · have h1' : (k : Int) + 1 < (s.size : Int) := by omega
        have HG2 := Lib.hid (Lx.get s (k + 1) h1)
        cases e1 : ((s[k].toNat : Int) == 47)
        · have HN : Hid (¬ (s[k] = 47 ∧ (s.data.toList.drop (k + 1)).head? = some 47)) := Lib.hid (fun h => Lx.byte_ne (n := 47) (by omega) e1 h.1)
          cases q
          · have HF := Lib.hid ((Lx.nxt_tok HG.out HN.out HQ.out).symm.trans HK.out)
            go_wp2_with (go_at_call 25; refine (C1.out _).mono ?_; rintro e w2 ⟨rfl, rfl⟩)
            go_ret
            exact ⟨by rw [← HF.out]; rfl, rfl⟩
          · have HF := Lib.hid ((Lx.nxt_blank HG.out rfl HN.out HQ.out).symm.trans HK.out)
            go_wp2_with (go_at_call 25; refine (C1.out _).mono ?_; rintro e w2 ⟨rfl, rfl⟩)
            exact ⟨⟨trivial, k + 1, by omega, by go_num, HF⟩, by simp [intOf]; omega⟩
        · cases e2 : ((s[k + 1].toNat : Int) == 47)
          · have HN : Hid (¬ (s[k] = 47 ∧ (s.data.toList.drop (k + 1)).head? = some 47)) := Lib.hid (fun h => Lx.byte_ne (n := 47) (by omega) e2 (by
              have h2 := h.2
              rw [HG2.out] at h2
              simpa using h2))
            cases q
            · have HF := Lib.hid ((Lx.nxt_tok HG.out HN.out HQ.out).symm.trans HK.out)
              go_wp2_with (go_at_call 25; refine (C1.out _).mono ?_; rintro e w2 ⟨rfl, rfl⟩)
              go_ret
              exact ⟨by rw [← HF.out]; rfl, rfl⟩
            · have HF := Lib.hid ((Lx.nxt_blank HG.out rfl HN.out HQ.out).symm.trans HK.out)
              go_wp2_with (go_at_call 25; refine (C1.out _).mono ?_; rintro e w2 ⟨rfl, rfl⟩)
              exact ⟨⟨trivial, k + 1, by omega, by go_num, HF⟩, by simp [intOf]; omega⟩
          · have HN : Hid (s[k] = 47 ∧ (s.data.toList.drop (k + 1)).head? = some 47) := Lib.hid ⟨Lx.byte_eq (n := 47) (by omega) e1, by rw [HG2.out, List.head?_cons, Lx.byte_eq (n := 47) (by omega) e2]; rfl⟩
            have HF := Lib.hid ((Lx.nxt_two HG.out HN.out).symm.trans HK.out)
            have H47 : Hid (s[k] ≠ 10) := Lib.hid (by rw [HN.out.1]; decide)
            have HF2 := Lib.hid ((Lx.nxr_step HG.out rfl H47.out).symm.trans HF.out)
            go_wp2
            go_loopw [1] (fun J wz => wz = wr ∧ ∃ j : Nat, k ≤ j ∧ j ≤ s.size ∧ J = .int .i64 (j : Int) ∧ Hid (Lx.nxr s.data.toList j = T ∧ (j = k → Lx.nxr s.data.toList (k + 1) = T))) (fun J _ => s.size - (intOf J).toNat)
            case atStart => exact ⟨rfl, k, Nat.le_refl _, hk, rfl, Lib.hid ⟨HF.out, fun _ => HF2.out⟩⟩
            case round =>
              obtain ⟨rfl, j, hkj, hj, rfl, HJ⟩ := hrel
              by_cases hjl : j < s.size
              · have hjl' : (j : Int) < (s.size : Int) := by omega
                have HGJ := Lib.hid (Lx.get s j hjl)
                cases e3 : ((s[j].toNat : Int) == 10)
                · have e3' : ((s[j].toNat : Int) != 10) = true := by simp [bne, e3]
                  have HX := Lib.hid ((Lx.nxr_step HGJ.out rfl (Lx.byte_ne (n := 10) (by omega) e3)).symm.trans HJ.out.1)
                  go_wp2
                  exact ⟨⟨trivial, j + 1, by omega, by omega, by go_num, Lib.hid ⟨HX.out, fun h => absurd h (by omega)⟩⟩, by simp [intOf]; omega⟩
                · have e3' : ((s[j].toNat : Int) != 10) = false := by simp [bne, e3]
                  have h10 := Lx.byte_eq (n := 10) (by omega) e3
                  have HX := Lib.hid ((Lx.nxr_end HGJ.out h10).symm.trans HJ.out.1)
                  have hjk : k < j := by
                    rcases Nat.lt_or_ge k j with h | h
                    · exact h
                    · exfalso
                      obtain rfl : j = k := by omega
                      exact H47.out h10
                  go_wp2
                  exact ⟨⟨trivial, j, hj, rfl, HX⟩, by simp [intOf]; omega⟩
              · have hjl' : ¬ (j : Int) < (s.size : Int) := by omega
                have HX := Lib.hid ((Lx.nxr_stop (Lx.drop_nil s j (by omega))).symm.trans HJ.out.1)
                go_wp2
                exact ⟨⟨trivial, j, hj, rfl, HX⟩, by simp [intOf]; omega⟩
      · have h1' : ¬ (k : Int) + 1 < (s.size : Int) := by omega
        have HN : Hid (¬ (s[k] = 47 ∧ (s.data.toList.drop (k + 1)).head? = some 47)) := Lib.hid (fun h => by have h2 := h.2; rw [Lx.drop_nil s (k + 1) (by omega)] at h2; cases h2)
        cases q
        · have HF := Lib.hid ((Lx.nxt_tok HG.out HN.out HQ.out).symm.trans HK.out)
          go_wp2_with (go_at_call 25; refine (C1.out _).mono ?_; rintro e w2 ⟨rfl, rfl⟩)
          go_ret
          exact ⟨by rw [← HF.out]; rfl, rfl⟩
        · have HF := Lib.hid ((Lx.nxt_blank HG.out rfl HN.out HQ.out).symm.trans HK.out)
          go_wp2_with (go_at_call 25; refine (C1.out _).mono ?_; rintro e w2 ⟨rfl, rfl⟩)
          exact ⟨⟨trivial, k + 1, by omega, by go_num, HF⟩, by simp [intOf]; omega⟩
    · have hge : ¬ (k : Int) < (s.size : Int) := by omega
      have HF := Lib.hid ((Lx.nxt_end (Lx.drop_nil s k (by omega))).symm.trans HK.out)
      go_wp2
      go_ret
      exact ⟨by rw [← HF.out]; rfl, rfl⟩
end Go.Proofs.YtknbnfnibdbokaaDoor
