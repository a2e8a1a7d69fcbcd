/-
The document's reader: a block, and so all of statements by induction.
-/
import Derived.Test.YtjfdcnggnldgdaaGreatDoorP35a
import Derived.Test.YtjfdcnggnldgdaaGreatDoorP35b
namespace Go.Proofs.YtjfdcnggnldgdaaGreatDoor
open Go.ChangeShapes Go.WideShapes Go.ChangeAt Go.RowKit
set_option linter.unusedVariables false
set_option linter.unusedSimpArgs false

set_option maxHeartbeats 8000000 in
set_option maxRecDepth 100000 in
theorem rblock_fn (b : Nat) (L : List Lx.Tok) (hL : Sx.Ok L) (σ : Sx.R) (hS : ∀ τ, τ.err = 0 → Sx.M L τ + 16 ≤ Sx.M L σ → rCS b L τ) : rCB b L σ := by
  intro w P hP h0
  have HS := Lib.hid (St.start hP h0)
  have hat := HS.out.rat
  rw [Sx.Bl_eq hL.ends hat]
  have C1 := Lib.hid (rnest_fn b L hL σ [123] (by decide))
  have hop : (Sx.nest L [123] σ).opn = σ.opn + 1 := Sx.op_nest L [123] σ
  have ho0 := HS.out.ropn0
  have herr0 : (Sx.nest L [123] σ).err = 0 → σ.err = 0 := fun h => Sx.nest_err hL (by decide) h
  have hat1 : (Sx.nest L [123] σ).err = 0 → 0 + 1 ≤ (Sx.nest L [123] σ).at' := fun h => by rw [Sx.nest_at hL (by decide) h]; omega
  have hS' : σ.err = 0 → ∀ τ, τ.err = 0 → Sx.M L τ ≤ Sx.M L (Sx.nest L [123] σ) → rCS b L τ := fun he τ ht h => hS τ ht (Nat.le_trans (Nat.add_le_add_right h 16) (Sx.M_nest he hat))
  generalize Sx.nest L [123] σ = σ1 at C1 hop herr0 hat1 hS' ⊢
  have HG := Lib.hid (And.intro hop (And.intro ho0 (And.intro herr0 hat1)))
  have HL := Lib.hid hL
  have HE := Lib.hid hS'
  clear h0 hP hL hS hS' hop ho0 herr0 hat1 hat
  go_enter Tryz.func72, Tryz.ntmps72
  go_wp2_with (first
    | (go_at_call 133; refine (HS.out.call1 C1.out).mono ?_; rintro e w1 ⟨J, ⟨rfl, rfl⟩, hs⟩; simp only [List.cons_append, List.nil_append] at hs; have HS1 := Lib.hid hs; clear hs))
  obtain ⟨N, hN⟩ : ∃ N : Nat, N = 65537 := ⟨_, rfl⟩
  have HNN := Lib.hid hN
  clear hN
  go_loopw [3] (fun v wr => ∃ (k : Nat) (ss : List Sx.S) (xs : List Value) (τ : Sx.R), k ≤ N ∧ lenOf v = k ∧ Hid (ss.length = k ∧ St P w wr [rr b L τ, ownI 53 11 v k xs, slI ss xs] ∧ τ.opn = σ.opn + 1 ∧ (τ.err = 0 → σ.err = 0) ∧ Sx.M L τ ≤ Sx.M L σ1 ∧ (τ.err = 0 → k + 1 ≤ τ.at') ∧ (Sx.Ss L σ1).2 = (Sx.Ss L τ).2 ∧ ((Sx.Ss L τ).2.err = 0 → (Sx.Ss L σ1).1 = ss ++ (Sx.Ss L τ).1))) (fun v _ => N + 1 - lenOf v)
  case atStart =>
    refine ⟨0, [], [], σ1, Nat.zero_le _, rfl, Lib.hid ⟨rfl, HS1.out.to fun P h => h.under fun P h => ?_, HG.out.1, HG.out.2.2.1, Nat.le_refl _, HG.out.2.2.2, rfl, fun _ => rfl⟩⟩
    exact Sep.emp (Sep.emp h (slI_nil _ _)) ⟨World.ownsRow_nil _ _ _ _, fun g hg => by cases hg⟩
  case round =>
    obtain ⟨k, ss, xs, τ, hk, hlen, HK⟩ := hrel
    obtain ⟨q, cap, rfl⟩ := HK.out.2.1.ownLen 1 rfl
    have HST := Lib.hid HK.out.2.1
    have hat := HST.out.rat
    obtain ⟨aT, capT, tT, mT, eT, pT, hr, hs3⟩ := HST.out.rrOpen; have HRT := Lib.hid hr; have HOT := Lib.hid hs3; clear hs3 hr
    have C5 := Lib.hid (rsees_fn b L τ [125])
    have HAT := Lib.hid hat
    by_cases he : τ.err = 0 ∧ Sx.sees L [125] τ = false
    · obtain ⟨he, hse⟩ := he
      have he' : eT = 0 := (by rw [HRT.out.he]; exact he)
      rw [hse] at C5
      have hkb : k < 65536 := by
        have h1 := HK.out.2.2.2.2.2.1 he
        have h2 := HL.out.len
        omega
      have hnm : k < nMax := by unfold nMax; omega
      have CX := Lib.hid (HE.out (HK.out.2.2.2.1 he) τ he HK.out.2.2.2.2.1)
      have HN := Lib.hid (Sx.Ss_go HL.out.ends hat he hse)
      have HHe := Lib.hid he
      have HKB := Lib.hid hkb
      clear he hse hat hk hkb
      go_wp2_with (first
        | (refine wpl_load HOT.out 0 rfl rfl intO rfl ?_)
        | (go_at_call 67; refine (HST.out.call1 C5.out).mono ?_; rintro e w3 ⟨J, ⟨rfl, rfl⟩, hs⟩; simp only [List.cons_append, List.nil_append] at hs; have HS3 := Lib.hid hs; clear hs)
        | (go_at_call 134; refine (HS3.out.call1 CX.out).mono ?_; rintro e w4 ⟨J, ⟨k2, p, m, nm, te, tl, tb, q1, q2, q3, l1, l2, l3, c1, c2, c3, es, bs, cs, hh, rfl, rfl, hx⟩, hs⟩; simp only [List.cons_append, List.nil_append] at hs; have HX := Lib.hid hx; have HS4 := Lib.hid hs; clear hs hx)
        | (refine wpl_slice HS4.out rfl Tryz.underlying48 (stB _ _ _ _ _ _ _ _ _ _ _ _ _ _ _ _ _) ?_; intro b5 w5 HS5)
        | (refine wpl_append HS5.out 5 1 rfl rfl rfl Tryz.underlying48 stEl rfl (stOne _ _ _ _ _ _ _ _ _ _ _ _ _ _ _ _ _) hnm ?_; intro v3 w6 hs h13; obtain ⟨q3', cap3, rfl⟩ := hs.out.ownLen 5 rfl; have HS6 := Lib.hid (show St _ _ _ (_ :: _ :: _ :: _ :: _ :: _ :: _ :: []) from hs.out); clear hs))
      refine ⟨⟨k + 1, ss ++ [.mk k2 p m nm ⟨te, tl, tb⟩ es bs cs hh], xs ++ (stA k2 p m nm te tl tb (.slice q1 l1 c1) (.slice q2 l2 c2) (.slice q3 l3 c3) hh).toList, (Sx.St L τ).2, ?_, ?_, Lib.hid ⟨?_, HS6.out.pushS, ?_, ?_, ?_, ?_, ?_, ?_⟩⟩, ?_⟩
      · have := HKB.out; have := HNN.out; omega
      · rfl
      · rw [List.length_append, HK.out.1]; rfl
      · exact ((Sx.op_stmts L _).2.2 τ).trans HK.out.2.2.1
      · exact fun _ => HK.out.2.2.2.1 HHe.out
      · exact Nat.le_trans (Sx.M_le ((Sx.le_stmts HL.out.ends _).2.2 τ)) HK.out.2.2.2.2.1
      · intro hz
        have h1 := Sx.St_at HL.out.ends HAT.out HHe.out hz
        have h3 := HK.out.2.2.2.2.2.1 HHe.out
        omega
      · rw [HK.out.2.2.2.2.2.2.1, HN.out]
      · intro hz
        have h9 : (Sx.St L τ).2.err = 0 := Sx.Le.ok ((Sx.le_stmts HL.out.ends _).2.1 _) hz
        rw [HK.out.2.2.2.2.2.2.2 (by rw [HN.out]; exact hz), HN.out, List.append_assoc, ← HX.out h9]; rfl
      · show N + 1 - lenOf _ < _
        have := HKB.out
        have := HNN.out
        simp only [lenOf]
        omega
    · have hex : τ.err ≠ 0 ∨ Sx.sees L [125] τ = true := by
        by_cases h1 : τ.err = 0
        · cases h2 : Sx.sees L [125] τ
          · exact absurd ⟨h1, h2⟩ he
          · exact Or.inr rfl
        · exact Or.inl h1
      have hfx := Sx.Ss_stop HL.out.ends hat hex
      have hT0 := HK.out.2.2
      have hfin : (Sx.Ss L σ1).2 = τ := by rw [hT0.2.2.2.2.1, hfx]
      have hval : (Sx.unnest L [125] τ).err = 0 → (Sx.Ss L σ1).1 = ss := fun h => by
        rw [hT0.2.2.2.2.2 (by rw [hfx]; exact Sx.unnest_err h), hfx, List.append_nil]
      have C4 := Lib.hid (runnest_fn b L HL.out τ [125] (by decide) (fun h => by
        have h1 : τ.err = 0 := Sx.unnest_err (s := [125]) h
        have h2 := HG.out.2.1 (hT0.2.1 h1)
        rw [hT0.1]; omega))
      have HF := Lib.hid hfin
      have HV := Lib.hid hval
      have HLN := Lib.hid HK.out.1
      clear hfin hval hfx hT0 he
      by_cases h1 : τ.err = 0
      · have he' : eT = 0 := (by rw [HRT.out.he]; exact h1)
        have h2 : Sx.sees L [125] τ = true := hex.resolve_left (fun h => h h1)
        rw [h2] at C5
        clear HK HE h1 h2 hex hat hk
        go_wp2_with (first
          | (refine wpl_load HOT.out 0 rfl rfl intO rfl ?_)
          | (go_at_call 67; refine (HST.out.call1 C5.out).mono ?_; rintro e w3 ⟨J, ⟨rfl, rfl⟩, hs⟩; simp only [List.cons_append, List.nil_append] at hs; have HS3 := Lib.hid hs; clear hs)
          | (go_at_call 135; refine (HS3.out.call1 C4.out).mono ?_; rintro e w4 ⟨J, ⟨rfl, rfl⟩, hs⟩; simp only [List.cons_append, List.nil_append] at hs; have HS4 := Lib.hid hs; clear hs))
        go_ret
        refine ⟨_, ⟨_, _, _, ss, rfl, rfl, ?_⟩, ?_⟩
        · rw [HF.out]; exact HV.out
        · rw [HF.out]; exact HS4.out.to fun P h => h.under fun P h => ssI_close HLN.out.symm h
      · have he' : ¬ eT = 0 := (by rw [HRT.out.he]; exact h1)
        clear HK HE h1 hex hat hk
        go_wp2_with (first
          | (refine wpl_load HOT.out 0 rfl rfl intO rfl ?_)
          | (go_at_call 135; refine (HST.out.call1 C4.out).mono ?_; rintro e w4 ⟨J, ⟨rfl, rfl⟩, hs⟩; simp only [List.cons_append, List.nil_append] at hs; have HS4 := Lib.hid hs; clear hs))
        go_ret
        refine ⟨_, ⟨_, _, _, ss, rfl, rfl, ?_⟩, ?_⟩
        · rw [HF.out]; exact HV.out
        · rw [HF.out]; exact HS4.out.to fun P h => h.under fun P h => ssI_close HLN.out.symm h
theorem rstmts_B (b : Nat) (L : List Lx.Tok) (hL : Sx.Ok L) (n : Nat) : ∀ σ, Sx.M L σ ≤ n → rCB b L σ := by
  induction n with
  | zero => exact fun σ hn => rblock_fn b L hL σ (fun τ _ h => by omega)
  | succ n ih => exact fun σ hn => rblock_fn b L hL σ (fun τ ht h => rstmt_fn b L hL τ ht (fun ρ hρ => ih ρ (by omega)))
/-- what the document's reader of a block makes, of any state -/
theorem rblock_any (b : Nat) (L : List Lx.Tok) (hL : Sx.Ok L) (σ : Sx.R) : rCB b L σ := rstmts_B b L hL _ σ (Nat.le_refl _)
end Go.Proofs.YtjfdcnggnldgdaaGreatDoor
