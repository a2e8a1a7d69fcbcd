/-
What list makes of what is handed over in parentheses, and of ror's one expression.
The closure that reads what ror is handed, and the list of it.
The rules on operations for regions that draw their order.
-/
import Derived.Test.YtjfdcnggnldgdaaGreatDoorP19a
import Derived.Deep.RegionHeld3
section
namespace Go.Proofs.YtjfdcnggnldgdaaGreatDoor
open Go.ChangeShapes Go.WideShapes Go.ChangeAt Go.RowKit
set_option linter.unusedVariables false
set_option linter.unusedSimpArgs false

theorem Sx.eat_else {L : List Lx.Tok} {s : List UInt8} {σ : Sx.R} (he : σ.err = 0) (h : Sx.sees L s σ = false) : Sx.eat L s σ = Sx.wrong L 10 σ := by
  unfold Sx.eat
  rw [if_neg (by simpa using he), if_pos]
  intro ht
  unfold Sx.sees at h
  rw [decide_eq_true he, decide_eq_true ht] at h
  cases h
theorem Sx.Ar_step {L : List Lx.Tok} (hL : Sx.Ends L) (k : Nat) {τ : Sx.R} (hi : τ.at' < L.length) (he : τ.err = 0) (hs : Sx.sees L [41] τ = false) :
    Sx.unnest L [41] (Sx.Ar L k τ).2 = Sx.unnest L [41] (Sx.Ar L (k + 1) (Sx.X L 0 (if decide (k = 0) = true then τ else Sx.eat L [44] τ)).2).2 ∧
    ((Sx.unnest L [41] (Sx.Ar L (k + 1) (Sx.X L 0 (if decide (k = 0) = true then τ else Sx.eat L [44] τ)).2).2).err = 0 → (Sx.Ar L k τ).1 = (Sx.X L 0 (if decide (k = 0) = true then τ else Sx.eat L [44] τ)).1 :: (Sx.Ar L (k + 1) (Sx.X L 0 (if decide (k = 0) = true then τ else Sx.eat L [44] τ)).2).1) := by
  by_cases hk : k = 0
  · subst hk
    rw [if_pos (by decide)]
    unfold Sx.Ar
    rw [if_pos rfl, if_neg (by rw [hs]; decide), if_neg (by decide)]
    exact ⟨rfl, fun _ => rfl⟩
  · rw [if_neg (by simpa using hk)]
    unfold Sx.Ar
    rw [if_neg hk, if_neg (by omega)]
    cases hc : Sx.sees L [44] τ
    · have h1 := Sx.eat_else he hc
      have h2 : (Sx.wrong L 10 τ).err ≠ 0 := Sx.wrong_err (by decide)
      have hi2 : (Sx.wrong L 10 τ).at' < L.length := (Sx.le_wrong L 10 τ (Or.inl rfl)).2.2.1 hi
      have h3 := Sx.eat_else he hs
      have h4 : Sx.eat L [41] (Sx.wrong L 10 τ) = Sx.wrong L 10 τ := Sx.eat_no h2
      rw [h1, Sx.X_err hL hi2 h2, Sx.Cm_stop hL hi hc, Sx.Cm_stop hL hi2 (Sx.sees_err h2)]
      unfold Sx.unnest
      simp only []
      rw [h3, h4]
      exact ⟨rfl, fun h => absurd h h2⟩
    · rw [Sx.Cm_go hL hi hc]
      exact ⟨rfl, fun _ => rfl⟩
theorem Sx.Ar_exit {L : List Lx.Tok} (hL : Sx.Ends L) (k : Nat) {τ : Sx.R} (hi : τ.at' < L.length) (h : τ.err ≠ 0 ∨ Sx.sees L [41] τ = true) : (Sx.Ar L k τ).2 = τ ∧ (τ.err = 0 → (Sx.Ar L k τ).1 = []) := by
  rcases h with h | h
  · exact ⟨Sx.Ar_err hL k hi h, fun h0 => absurd h0 h⟩
  · have hc : Sx.sees L [44] τ = false := by
      obtain ⟨h1, h2⟩ := Sx.sees_text h
      unfold Sx.sees
      rw [h2]; simp
    unfold Sx.Ar
    by_cases hk : k = 0
    · rw [if_pos hk, if_pos h]; exact ⟨rfl, fun _ => rfl⟩
    · rw [if_neg hk, Sx.Cm_stop hL hi hc]; exact ⟨rfl, fun _ => rfl⟩
theorem Sx.nest_at {L : List Lx.Tok} (hL : Sx.Ok L) {s : List UInt8} (hs : s ≠ []) {σ : Sx.R} (h : (Sx.nest L s σ).err = 0) : (Sx.nest L s σ).at' = σ.at' + 1 := by
  have he := Sx.nest_err hL hs h
  unfold Sx.nest at h ⊢
  simp only [] at h ⊢
  split at h
  · exact absurd h (by rw [Sx.eat_no (Sx.wrong_err (by decide))]; exact Sx.wrong_err (by decide))
  · rename_i hc
    rw [if_neg hc]
    have h1 := Sx.eat_sees h
    obtain ⟨h2, h3⟩ := Sx.sees_text h1
    unfold Sx.eat
    rw [if_neg (by simpa using h2), if_neg (by simpa using h3)]
set_option maxHeartbeats 8000000 in
set_option maxRecDepth 100000 in
theorem list_args (b : Nat) (L : List Lx.Tok) (hL : Sx.Ok L) (σ : Sx.R) (mo : Int) (hmo : mo = 65536) (hE : ∀ τ, Sx.M L τ ≤ Sx.M L σ → CE b L τ) :
    Fn 261 #[.pointer (some ⟨b, 0, none⟩), .int .i64 0, .int .i64 mo, .func (.func 243) #[.pointer (some ⟨b, 0, none⟩)] #[]] [rd b L σ]
    fun e J => ∃ v es, e = .returned v ∧ J = [rd b L (Sx.unnest L [41] (Sx.Ar L 0 (Sx.nest L [40] σ)).2), lsI v es] ∧ ((Sx.unnest L [41] (Sx.Ar L 0 (Sx.nest L [40] σ)).2).err = 0 → (Sx.Ar L 0 (Sx.nest L [40] σ)).1 = es) ∧ v.oneCell' = true := by
  intro w P hP h0
  have HS := Lib.hid (St.start hP h0)
  have C1 := Lib.hid (open_fn b L hL σ [40] (by decide))
  have hMn := Sx.M_le (Sx.le_nest hL.ends [40] (by decide) σ)
  have hop : (Sx.nest L [40] σ).opn = σ.opn + 1 := Sx.op_nest L [40] σ
  have ho0 := HS.out.opn0
  have herr0 : (Sx.nest L [40] σ).err = 0 → σ.err = 0 := fun h => Sx.nest_err hL (by decide) h
  have hat1 : (Sx.nest L [40] σ).err = 0 → 0 + 1 ≤ (Sx.nest L [40] σ).at' := fun h => by rw [Sx.nest_at hL (by decide) h]; omega
  have hE' : ∀ τ, Sx.M L τ ≤ Sx.M L σ → CE b L τ := hE
  generalize Sx.nest L [40] σ = σ1 at C1 hMn hop herr0 hat1 hE' ⊢
  have HG := Lib.hid (And.intro hMn (And.intro hop (And.intro ho0 (And.intro herr0 hat1))))
  have HL := Lib.hid hL
  have HMO := Lib.hid hmo
  clear hmo
  have HE := Lib.hid hE'
  clear h0 hP hL hE hE' hMn hop ho0 herr0 hat1
  go_enter Tryz.func261, Tryz.ntmps261
  go_wp2_with (first
    | (go_at_call 179; refine (HS.out.call1 C1.out).mono ?_; rintro e w1 ⟨J, ⟨rfl, rfl⟩, hs⟩; simp only [List.cons_append, List.nil_append] at hs; have HS1 := Lib.hid hs; clear hs))
  obtain ⟨N, hN⟩ : ∃ N : Nat, N = 65537 := ⟨_, rfl⟩
  have HNN := Lib.hid hN
  clear hN
  go_loopw [9] (fun v wr => ∃ (k : Nat) (es : List Sx.E) (xs : List Value) (τ : Sx.R), k ≤ N ∧ lenOf v = k ∧ Hid (es.length = k ∧ St P w wr [rd b L τ, ownI 55 5 v k xs, elI es xs] ∧ τ.opn = σ.opn + 1 ∧ (τ.err = 0 → σ.err = 0) ∧ Sx.M L τ ≤ Sx.M L σ ∧ (τ.err = 0 → k + 1 ≤ τ.at') ∧ Sx.unnest L [41] (Sx.Ar L 0 σ1).2 = Sx.unnest L [41] (Sx.Ar L k τ).2 ∧ ((Sx.unnest L [41] (Sx.Ar L k τ).2).err = 0 → (Sx.Ar L 0 σ1).1 = es ++ (Sx.Ar L k τ).1))) (fun v _ => N + 1 - lenOf v)
  case atStart =>
    refine ⟨0, [], [], σ1, Nat.zero_le _, rfl, Lib.hid ⟨rfl, HS1.out.to fun P h => h.under fun P h => ?_, HG.out.2.1, HG.out.2.2.2.1, HG.out.1, HG.out.2.2.2.2, rfl, fun _ => rfl⟩⟩
    exact Sep.emp (Sep.emp h (elI_nil _ _)) ⟨World.ownsRow_nil _ _ _ _, fun g hg => by cases hg⟩
  case round =>
    obtain ⟨k, es, xs, τ, hk, hlen, HK⟩ := hrel
    obtain ⟨q, cap, rfl⟩ := HK.out.2.1.ownLen 1 rfl
    have HST := Lib.hid HK.out.2.1
    have HT0 := Lib.hid HK.out.2.2.2.2.1
    have hat := HST.out.at'
    have C2 := Lib.hid (failed_fn b L τ)
    have C5 := Lib.hid (is_fn b L HL.out τ [41] (by decide))
    have HAT := Lib.hid hat
    have hkd0 : decide ((k : Int) < 0) = false := decide_eq_false (by omega)
    by_cases he : τ.err = 0 ∧ Sx.sees L [41] τ = false
    · obtain ⟨he, hse⟩ := he
      rw [decide_eq_false (p := τ.err ≠ 0) (by simpa using he)] at C2
      rw [hse] at C5
      have hkb : k < 65536 := by
        have h1 := HK.out.2.2.2.2.2.1 he
        have h2 := HL.out.len
        omega
      have C3 := Lib.hid (want_fn b L HL.out τ [44] (by decide))
      have hle : Sx.Le L τ (if decide (k = 0) = true then τ else Sx.eat L [44] τ) := by
        split
        · exact Sx.Le.refl _ _
        · exact Sx.le_eat HL.out.ends [44] (by decide) τ
      have hopt : (if decide (k = 0) = true then τ else Sx.eat L [44] τ).opn = τ.opn := by
        split
        · rfl
        · exact Sx.op_eat L [44] τ
      have hs1 := Sx.Ar_step HL.out.ends k hat he hse
      have hkI : (k : Int) < mo := by have := HMO.out; omega
      have hnm : k < nMax := by unfold nMax; omega
      have HN := Lib.hid hs1
      have HLe := Lib.hid hle
      have HOp := Lib.hid hopt
      have HHe := Lib.hid he
      have HKB := Lib.hid hkb
      clear hs1 hle hopt he hse hat hk hkb
      by_cases hk0 : k = 0
      · subst hk0
        rw [if_pos (by decide)] at HN HLe HOp
        have CX := Lib.hid (HE.out τ HT0.out)
        have hkz : ¬ (0 : Int) < ((0 : Nat) : Int) := by omega
        go_wp2_with (first
          | (go_at_call 32; refine (HST.out.call1 C2.out).mono ?_; rintro e w2 ⟨J, ⟨rfl, rfl⟩, hs⟩; simp only [List.cons_append, List.nil_append] at hs; have HS2 := Lib.hid hs; clear hs)
          | (go_at_call 180; refine (HS2.out.call1 C5.out).mono ?_; rintro e w3 ⟨J, ⟨rfl, rfl⟩, hs⟩; simp only [List.cons_append, List.nil_append] at hs; have HS3 := Lib.hid hs; clear hs)
          | (go_at_call 243; refine (HS3.out.call1 CX.out).mono ?_; rintro e w4 ⟨J, ⟨k2, p2, n2, nm2, v2, es2, rfl, rfl, hx2, h12⟩, hs⟩; simp only [List.cons_append, List.nil_append] at hs; have HS4 := Lib.hid hs; have HX2 := Lib.hid hx2; clear hs hx2)
          | (refine wpl_slice HS4.out rfl Tryz.underlying51 (exB _ _ _ _ _) ?_; intro b5 w5 HS5)
          | (refine wpl_append HS5.out 3 1 rfl rfl rfl Tryz.underlying51 exEl rfl (exOne h12) hnm ?_; intro v3 w6 hs h13; obtain ⟨q3, cap3, rfl⟩ := hs.out.ownLen 3 rfl; have HS6 := Lib.hid (show St _ _ _ (_ :: _ :: _ :: _ :: _ :: []) from hs.out); clear hs))
        refine ⟨⟨0 + 1, es ++ [.mk k2 p2 n2 nm2 es2], xs ++ (exA k2 p2 n2 nm2 v2).toList, (Sx.X L 0 τ).2, ?_, ?_, Lib.hid ⟨?_, HS6.out.pushE, ?_, ?_, ?_, ?_, ?_, ?_⟩⟩, ?_⟩
        · have := HKB.out; have := HNN.out; omega
        · rfl
        · rw [List.length_append, HK.out.1]; rfl
        · rw [Sx.op_X]; first | exact HK.out.2.2.1 | (rw [HOp.out]; exact HK.out.2.2.1)
        · exact fun _ => HK.out.2.2.2.1 HHe.out
        · exact Nat.le_trans (Sx.M_le (Sx.le_X HL.out.ends 0 _)) (Nat.le_trans (Sx.M_le HLe.out) HT0.out)
        · intro hz
          have h1 := Sx.X_at HL.out.ends (HLe.out.2.2.1 HAT.out) hz
          have h2 := HLe.out.1
          have h3 := HK.out.2.2.2.2.2.1 HHe.out
          omega
        · rw [HK.out.2.2.2.2.2.2.1]; exact HN.out.1
        · intro hz
          have h9 : (Sx.X L 0 τ).2.err = 0 := by
            apply Classical.byContradiction
            intro h8
            have h7 := (Sx.Ar_exit HL.out.ends (0 + 1) ((Sx.le_X HL.out.ends 0 _).2.2.1 (HLe.out.2.2.1 HAT.out)) (Or.inl h8)).1
            rw [h7] at hz
            exact h8 (Sx.unnest_err hz)
          rw [HK.out.2.2.2.2.2.2.2 (by rw [HN.out.1]; exact hz), HN.out.2 hz, List.append_assoc, ← HX2.out h9]; rfl
        · show N + 1 - lenOf _ < _
          have := HKB.out
          have := HNN.out
          simp only [lenOf]
          omega
      · have hkz : (0 : Int) < (k : Int) := by omega
        rw [if_neg (by simpa using hk0)] at HN HLe HOp
        have CX := Lib.hid (HE.out (Sx.eat L [44] τ) (Nat.le_trans (Sx.M_le HLe.out) HT0.out))
        go_wp2_with (first
          | (go_at_call 32; refine (HST.out.call1 C2.out).mono ?_; rintro e w2 ⟨J, ⟨rfl, rfl⟩, hs⟩; simp only [List.cons_append, List.nil_append] at hs; have HS2 := Lib.hid hs; clear hs)
          | (go_at_call 180; refine (HS2.out.call1 C5.out).mono ?_; rintro e w3 ⟨J, ⟨rfl, rfl⟩, hs⟩; simp only [List.cons_append, List.nil_append] at hs; have HS3 := Lib.hid hs; clear hs)
          | (go_at_call 117; refine (HS3.out.call1 C3.out).mono ?_; rintro e w7 ⟨J, ⟨rfl, rfl⟩, hs⟩; simp only [List.cons_append, List.nil_append] at hs; have HS7 := Lib.hid hs; clear hs)
          | (go_at_call 243; refine (HS7.out.call1 CX.out).mono ?_; rintro e w4 ⟨J, ⟨k2, p2, n2, nm2, v2, es2, rfl, rfl, hx2, h12⟩, hs⟩; simp only [List.cons_append, List.nil_append] at hs; have HS4 := Lib.hid hs; have HX2 := Lib.hid hx2; clear hs hx2)
          | (refine wpl_slice HS4.out rfl Tryz.underlying51 (exB _ _ _ _ _) ?_; intro b5 w5 HS5)
          | (refine wpl_append HS5.out 3 1 rfl rfl rfl Tryz.underlying51 exEl rfl (exOne h12) hnm ?_; intro v3 w6 hs h13; obtain ⟨q3, cap3, rfl⟩ := hs.out.ownLen 3 rfl; have HS6 := Lib.hid (show St _ _ _ (_ :: _ :: _ :: _ :: _ :: []) from hs.out); clear hs))
        refine ⟨⟨k + 1, es ++ [.mk k2 p2 n2 nm2 es2], xs ++ (exA k2 p2 n2 nm2 v2).toList, (Sx.X L 0 (Sx.eat L [44] τ)).2, ?_, ?_, Lib.hid ⟨?_, HS6.out.pushE, ?_, ?_, ?_, ?_, ?_, ?_⟩⟩, ?_⟩
        · have := HKB.out; have := HNN.out; omega
        · rfl
        · rw [List.length_append, HK.out.1]; rfl
        · rw [Sx.op_X]; first | exact HK.out.2.2.1 | (rw [HOp.out]; exact HK.out.2.2.1)
        · exact fun _ => HK.out.2.2.2.1 HHe.out
        · exact Nat.le_trans (Sx.M_le (Sx.le_X HL.out.ends 0 _)) (Nat.le_trans (Sx.M_le HLe.out) HT0.out)
        · intro hz
          have h1 := Sx.X_at HL.out.ends (HLe.out.2.2.1 HAT.out) hz
          have h2 := HLe.out.1
          have h3 := HK.out.2.2.2.2.2.1 HHe.out
          omega
        · rw [HK.out.2.2.2.2.2.2.1]; exact HN.out.1
        · intro hz
          have h9 : (Sx.X L 0 (Sx.eat L [44] τ)).2.err = 0 := by
            apply Classical.byContradiction
            intro h8
            have h7 := (Sx.Ar_exit HL.out.ends (k + 1) ((Sx.le_X HL.out.ends 0 _).2.2.1 (HLe.out.2.2.1 HAT.out)) (Or.inl h8)).1
            rw [h7] at hz
            exact h8 (Sx.unnest_err hz)
          rw [HK.out.2.2.2.2.2.2.2 (by rw [HN.out.1]; exact hz), HN.out.2 hz, List.append_assoc, ← HX2.out h9]; rfl
        · show N + 1 - lenOf _ < _
          have := HKB.out
          have := HNN.out
          simp only [lenOf]
          omega
    · have hex : τ.err ≠ 0 ∨ Sx.sees L [41] τ = true := by
        by_cases h1 : τ.err = 0
        · cases h2 : Sx.sees L [41] τ
          · exact absurd ⟨h1, h2⟩ he
          · exact Or.inr rfl
        · exact Or.inl h1
      have hfx := Sx.Ar_exit HL.out.ends k hat hex
      have hT0 := HK.out.2.2
      have hfin : Sx.unnest L [41] (Sx.Ar L 0 σ1).2 = Sx.unnest L [41] τ := by rw [hT0.2.2.2.2.1, hfx.1]
      have hval : (Sx.unnest L [41] τ).err = 0 → (Sx.Ar L 0 σ1).1 = es := fun h => by
        rw [hT0.2.2.2.2.2 (by rw [hfx.1]; exact h), hfx.2 (Sx.unnest_err h), List.append_nil]
      have C4 := Lib.hid (shut_fn b L HL.out τ [41] (by decide) (fun h => by
        have h1 : τ.err = 0 := Sx.unnest_err (s := [41]) h
        have h2 := HG.out.2.2.1 (hT0.2.1 h1)
        rw [hT0.1]; omega))
      have HF := Lib.hid hfin
      have HV := Lib.hid hval
      have HLN := Lib.hid HK.out.1
      have hkb : τ.err = 0 → k < 65536 := fun he => by
        have h1 := HK.out.2.2.2.2.2.1 he
        have h2 := HL.out.len
        omega
      clear hfin hval hfx hT0 he
      by_cases h1 : τ.err = 0
      · rw [decide_eq_false (p := τ.err ≠ 0) (by simpa using h1)] at C2
        have hkI : (k : Int) < mo := by have := hkb h1; have := HMO.out; omega
        have h2 : Sx.sees L [41] τ = true := hex.resolve_left (fun h => h h1)
        rw [h2] at C5
        clear HK HE HT0 h1 h2 hex hkb hat hk
        go_wp2_with (first
          | (go_at_call 32; refine (HST.out.call1 C2.out).mono ?_; rintro e w2 ⟨J, ⟨rfl, rfl⟩, hs⟩; simp only [List.cons_append, List.nil_append] at hs; have HS2 := Lib.hid hs; clear hs)
          | (go_at_call 180; refine (HS2.out.call1 C5.out).mono ?_; rintro e w4 ⟨J, ⟨rfl, rfl⟩, hs⟩; simp only [List.cons_append, List.nil_append] at hs; have HS4 := Lib.hid hs; clear hs)
          | (go_at_call 181; refine (HS4.out.call1 C4.out).mono ?_; rintro e w3 ⟨J, ⟨rfl, rfl⟩, hs⟩; simp only [List.cons_append, List.nil_append] at hs; have HS3 := Lib.hid hs; clear hs))
        go_ret
        refine ⟨_, ⟨_, es, rfl, rfl, ?_, rfl⟩, ?_⟩
        · rw [HF.out]; exact HV.out
        · rw [HF.out]; exact HS3.out.to fun P h => h.under fun P h => lsI_close HLN.out.symm h
      · rw [decide_eq_true (p := τ.err ≠ 0) h1] at C2
        clear HK HE HT0 h1 hex hkb hat hk
        go_wp2_with (first
          | (go_at_call 32; refine (HST.out.call1 C2.out).mono ?_; rintro e w2 ⟨J, ⟨rfl, rfl⟩, hs⟩; simp only [List.cons_append, List.nil_append] at hs; have HS2 := Lib.hid hs; clear hs)
          | (go_at_call 181; refine (HS2.out.call1 C4.out).mono ?_; rintro e w3 ⟨J, ⟨rfl, rfl⟩, hs⟩; simp only [List.cons_append, List.nil_append] at hs; have HS3 := Lib.hid hs; clear hs))
        go_ret
        refine ⟨_, ⟨_, es, rfl, rfl, ?_, rfl⟩, ?_⟩
        · rw [HF.out]; exact HV.out
        · rw [HF.out]; exact HS3.out.to fun P h => h.under fun P h => lsI_close HLN.out.symm h
end Go.Proofs.YtjfdcnggnldgdaaGreatDoor
end
section
namespace Go.Proofs.YtjfdcnggnldgdaaGreatDoor
open Go.ChangeShapes Go.WideShapes Go.ChangeAt Go.RowKit
set_option linter.unusedVariables false
set_option linter.unusedSimpArgs false

/-- ror's number of bits, and the state behind it -/
def Sx.bits (L : List Lx.Tok) (σ : Sx.R) : Lx.Tok × Sx.R := Sx.some L 2 (Sx.eat L [44] σ)
/-- two rows that a closure captured: the reader's address, and what is being made -/
abbrev capI (b br bx : Nat) (p n : Int) : List It := [.row br 67 #[.pointer (some ⟨b, 0, none⟩)], .row bx 55 #[.int .i64 0, .int .i64 p, .int .i64 n, .string ⟨#[]⟩, .slice none 0 0]]
set_option maxHeartbeats 8000000 in
set_option maxRecDepth 100000 in
theorem closure_fn (b : Nat) (L : List Lx.Tok) (hL : Sx.Ok L) (τ : Sx.R) (hE : CE b L τ) (br bx : Nat) (p n : Int) : Fn 292 #[.pointer (some ⟨br, 0, none⟩), .pointer (some ⟨bx, 0, none⟩)] (rd b L τ :: capI b br bx p n)
    fun e J => ∃ (k2 p2 n2 : Int) (nm2 : List UInt8) (v2 : Value) (es2 : List Sx.E), e = .returned (.agg #[.int .i64 k2, .int .i64 p2, .int .i64 n2, .string (Lx.S nm2), v2]) ∧ J = rd b L (Sx.bits L (Sx.X L 0 τ).2).2 :: lsI v2 es2 :: capI b br bx p (Sx.bits L (Sx.X L 0 τ).2).1.num ∧ ((Sx.X L 0 τ).2.err = 0 → (Sx.X L 0 τ).1 = .mk k2 p2 n2 nm2 es2) ∧ v2.oneCell' = true := by
  intro w P hP h0
  have HS := Lib.hid (St.start hP h0)
  have CX := Lib.hid hE
  have C3 := Lib.hid (want_fn b L hL (Sx.X L 0 τ).2 [44] (by decide))
  have C4 := Lib.hid (take_fn b L hL (Sx.eat L [44] (Sx.X L 0 τ).2) 2 (by decide))
  have hF2 := tokF2
  clear h0 hP hE hL
  go_enter Tryz.func292, Tryz.ntmps292
  go_wp2_with (first
    | (first | (refine wpl_alloc HS.out _ rfl exZ ?_; intro b1 w1 HS1; clear HS) | (refine wpl_alloc HS2.out _ rfl exZ ?_; intro b3 w3 HS3; clear HS2))
    | (first | (refine wpl_load HS1.out 2 rfl rfl ptrO rfl ?_) | (refine wpl_load HS4.out 4 rfl rfl ptrO rfl ?_) | (refine wpl_load HS5.out 4 rfl rfl ptrO rfl ?_))
    | (go_at_call 243; refine (HS1.out.call1 CX.out).mono ?_; rintro e w2 ⟨J, ⟨k2, p2, n2, nm2, v2, es2, rfl, rfl, hx2, h12⟩, hs⟩; simp only [List.cons_append, List.nil_append] at hs; have HS2 := Lib.hid hs; have HX2 := Lib.hid hx2; clear hs hx2 HS1)
    | (refine wpl_storeS HS3.out 1 rfl rfl exT rfl (fitsX h12) ?_; intro w4 hs; have HS4 := Lib.hid (show St _ _ _ (_ :: _ :: _ :: _ :: _ :: _ :: []) from hs.out); clear hs HS3)
    | (go_at_call 117; refine (HS4.out.call1 C3.out).mono ?_; rintro e w5 ⟨J, ⟨rfl, rfl⟩, hs⟩; simp only [List.cons_append, List.nil_append] at hs; have HS5 := Lib.hid hs; clear hs; clear HS4)
    | (go_at_call 118; refine (HS5.out.call1 C4.out).mono ?_; rintro e w6 ⟨J, ⟨rfl, rfl⟩, hs⟩; simp only [List.cons_append, List.nil_append] at hs; have HS6 := Lib.hid hs; clear hs; clear HS5)
    | (refine wpl_store HS6.out 5 rfl rfl intO (of_decide_eq_true rfl) rfl ?_; intro w7 hs; have HS7 := Lib.hid (show St _ _ _ (_ :: _ :: _ :: _ :: _ :: _ :: []) from hs.out); clear hs HS6)
    | (refine wpl_loadS HS7.out 1 rfl rfl exT rfl ?_)
    | (refine wpl_storeS HS7.out 3 rfl rfl exT rfl (fitsX h12) ?_; intro w8 hs; have HS8 := Lib.hid (show St _ _ _ (_ :: _ :: _ :: _ :: _ :: _ :: []) from hs.out); clear hs))
  refine bp_cell HS8.out 3 exT rfl rfl rfl rfl rfl ⟨_, ⟨k2, p2, n2, nm2, v2, es2, rfl, rfl, HX2.out, h12⟩, HS8.out.sel [0, 1, 2, 2] rfl⟩
set_option maxHeartbeats 8000000 in
set_option maxRecDepth 100000 in
theorem list_ror (b : Nat) (L : List Lx.Tok) (hL : Sx.Ok L) (σ : Sx.R) (hE : ∀ τ, Sx.M L τ ≤ Sx.M L σ → CE b L τ) (br bx : Nat) (p : Int) :
    Fn 261 #[.pointer (some ⟨b, 0, none⟩), .int .i64 1, .int .i64 1, .func (.func 292) #[] #[.pointer (some ⟨br, 0, none⟩), .pointer (some ⟨bx, 0, none⟩)]] (rd b L σ :: capI b br bx p 0)
    fun e J => ∃ v es n, e = .returned v ∧ J = rd b L (Sx.unnest L [41] (Sx.bits L (Sx.Mn L 1 true (Sx.nest L [40] σ)).2).2) :: lsI v es :: capI b br bx p n ∧ ((Sx.unnest L [41] (Sx.bits L (Sx.Mn L 1 true (Sx.nest L [40] σ)).2).2).err = 0 → (Sx.Mn L 1 true (Sx.nest L [40] σ)).1 = es ∧ n = (Sx.bits L (Sx.Mn L 1 true (Sx.nest L [40] σ)).2).1.num) ∧ v.oneCell' = true := by
  intro w P hP h0
  have HS := Lib.hid (St.start hP h0)
  have C1 := Lib.hid (open_fn b L hL σ [40] (by decide))
  have hMn := Sx.M_le (Sx.le_nest hL.ends [40] (by decide) σ)
  have hop : (Sx.nest L [40] σ).opn = σ.opn + 1 := Sx.op_nest L [40] σ
  have ho0 := HS.out.opn0
  have herr0 : (Sx.nest L [40] σ).err = 0 → σ.err = 0 := fun h => Sx.nest_err hL (by decide) h
  have hat1 := (Sx.le_nest hL.ends [40] (by decide) σ).2.2.1 HS.out.at'
  generalize Sx.nest L [40] σ = σ1 at C1 hMn hop herr0 hat1 ⊢
  have C2 := Lib.hid (failed_fn b L σ1)
  have hleb : Sx.Le L (Sx.X L 0 σ1).2 (Sx.bits L (Sx.X L 0 σ1).2).2 := (Sx.le_eat hL.ends [44] (by decide) _).trans (Sx.le_some hL.ends 2 (by decide) _)
  have hM1 : Sx.Mn L 1 true σ1 = ([(Sx.X L 0 σ1).1], (Sx.X L 0 σ1).2) := by
    rw [Sx.Mn_succ hL.ends 0 true hat1 (by omega), if_pos rfl, Sx.Mn_zero hL.ends _ (Sx.X_in hL.ends hat1)]
  rw [hM1]
  simp only []
  have hopb : (Sx.bits L (Sx.X L 0 σ1).2).2.opn = σ.opn + 1 := by
    show (Sx.some L 2 (Sx.eat L [44] (Sx.X L 0 σ1).2)).2.opn = _
    rw [Sx.op_some, Sx.op_eat, Sx.op_X, hop]
  have hshut : (Sx.eat L [41] (Sx.bits L (Sx.X L 0 σ1).2).2).err = 0 → 1 ≤ (Sx.bits L (Sx.X L 0 σ1).2).2.opn := fun h => by
    have h1 : (Sx.bits L (Sx.X L 0 σ1).2).2.err = 0 := Sx.unnest_err (s := [41]) h
    have h2 : σ1.err = 0 := by
      apply Classical.byContradiction
      intro h3
      have h4 := ((Sx.le_X hL.ends 0 σ1).trans hleb).2.1 h3
      exact h3 (h4.1.symm.trans h1)
    have := ho0 (herr0 h2)
    rw [hopb]; omega
  have C4 := Lib.hid (shut_fn b L hL _ [41] (by decide) hshut)
  by_cases he : σ1.err = 0
  · rw [decide_eq_false (p := σ1.err ≠ 0) (by simpa using he)] at C2
    have CC := Lib.hid (closure_fn b L hL σ1 (hE σ1 hMn) br bx p 0)
    have C5 := Lib.hid (failed_fn b L (Sx.bits L (Sx.X L 0 σ1).2).2)
    have hnm : 0 < nMax := by decide
    have hb1 : (Sx.unnest L [41] (Sx.bits L (Sx.X L 0 σ1).2).2).err = 0 → (Sx.X L 0 σ1).2.err = 0 := fun h => by
      apply Classical.byContradiction
      intro h3
      exact h3 ((hleb.2.1 h3).1.symm.trans (Sx.unnest_err h))
    have HB1 := Lib.hid hb1
    clear h0 hP hL hE hMn hop ho0 herr0 hat1 hleb hM1 hopb hshut he hb1
    have HS0 := Lib.hid (HS.out)
    go_enter Tryz.func261, Tryz.ntmps261
    go_wp2_with (first
      | (go_at_call 179; refine (HS.out.call1 C1.out).mono ?_; rintro e w1 ⟨J, ⟨rfl, rfl⟩, hs⟩; simp only [List.cons_append, List.nil_append] at hs; have HS1 := Lib.hid hs; clear hs))
    refine wp_loop_rounds 2 ?_
    rw [rounds_succ]
    go_wp2_with (first
      | (go_at_call 32; refine (HS1.out.call1 C2.out).mono ?_; rintro e w2 ⟨J, ⟨rfl, rfl⟩, hs⟩; simp only [List.cons_append, List.nil_append] at hs; have HS2 := Lib.hid hs; clear hs)
      | (go_at_call 292; refine (St.call (pre := rd b L σ1 :: capI b br bx p 0) (I := []) HS2.out CC.out).mono ?_; rintro e w4 ⟨J, ⟨k2, p2, n2, nm2, v2, es2, rfl, rfl, hx2, h12⟩, hs⟩; simp only [List.cons_append, List.nil_append] at hs; have HS4 := Lib.hid (hs.to (J := _ :: _ :: ownI 55 5 (.slice none 0 0) 0 [] :: elI [] [] :: _) (fun P h => h.under fun P h => h.under fun P h => Sep.emp (Sep.emp h (elI_nil _ _)) ⟨World.ownsRow_nil _ _ _ _, fun g hg => by cases hg⟩)); have HX2 := Lib.hid hx2; clear hs hx2)
      | (refine wpl_slice HS4.out rfl Tryz.underlying51 (exB _ _ _ _ _) ?_; intro b5 w5 HS5)
      | (refine wpl_append HS5.out 3 1 rfl rfl rfl Tryz.underlying51 exEl rfl (exOne h12) hnm ?_; intro v3 w6 hs h13; obtain ⟨q3, cap3, rfl⟩ := hs.out.ownLen 3 rfl; have HS6 := Lib.hid ((show St _ _ _ (_ :: _ :: _ :: _ :: _ :: _ :: _ :: []) from hs.out).pushE); clear hs))
    rw [rounds_succ]
    by_cases h5 : (Sx.bits L (Sx.X L 0 σ1).2).2.err = 0
    · rw [decide_eq_false (p := (Sx.bits L (Sx.X L 0 σ1).2).2.err ≠ 0) (by simpa using h5)] at C5
      clear h5
      go_wp2_with (first
        | (go_at_call 32; refine (HS6.out.call1 C5.out).mono ?_; rintro e w7 ⟨J, ⟨rfl, rfl⟩, hs⟩; simp only [List.cons_append, List.nil_append] at hs; have HS7 := Lib.hid hs; clear hs)
        | (go_at_call 181; refine (HS7.out.call1 C4.out).mono ?_; rintro e w8 ⟨J, ⟨rfl, rfl⟩, hs⟩; simp only [List.cons_append, List.nil_append] at hs; have HS8 := Lib.hid hs; clear hs))
      go_ret
      exact ⟨_, ⟨_, [.mk k2 p2 n2 nm2 es2], (Sx.bits L (Sx.X L 0 σ1).2).1.num, rfl, rfl, fun h => ⟨by rw [HX2.out (HB1.out h)], rfl⟩, rfl⟩, HS8.out.to fun P h => h.under fun P h => lsI_close rfl h⟩
    · rw [decide_eq_true (p := (Sx.bits L (Sx.X L 0 σ1).2).2.err ≠ 0) h5] at C5
      clear h5
      go_wp2_with (first
        | (go_at_call 32; refine (HS6.out.call1 C5.out).mono ?_; rintro e w7 ⟨J, ⟨rfl, rfl⟩, hs⟩; simp only [List.cons_append, List.nil_append] at hs; have HS7 := Lib.hid hs; clear hs)
        | (go_at_call 181; refine (HS7.out.call1 C4.out).mono ?_; rintro e w8 ⟨J, ⟨rfl, rfl⟩, hs⟩; simp only [List.cons_append, List.nil_append] at hs; have HS8 := Lib.hid hs; clear hs))
      go_ret
      exact ⟨_, ⟨_, [.mk k2 p2 n2 nm2 es2], (Sx.bits L (Sx.X L 0 σ1).2).1.num, rfl, rfl, fun h => ⟨by rw [HX2.out (HB1.out h)], rfl⟩, rfl⟩, HS8.out.to fun P h => h.under fun P h => lsI_close rfl h⟩
  · rw [decide_eq_true (p := σ1.err ≠ 0) he] at C2
    have hX : (Sx.X L 0 σ1) = (Sx.noE, σ1) := Sx.X_err hL.ends hat1 he
    have hbb : (Sx.bits L (Sx.X L 0 σ1).2).2 = σ1 := by
      rw [hX]
      show (Sx.some L 2 (Sx.eat L [44] σ1)).2 = σ1
      rw [Sx.eat_no he]
      unfold Sx.some
      rw [if_pos he]
    rw [hbb] at C4 ⊢
    have hv : (Sx.unnest L [41] σ1).err ≠ 0 := fun h => he (Sx.unnest_err h)
    have HV := Lib.hid hv
    clear h0 hP hL hE hMn hop ho0 herr0 hat1 hleb hM1 hopb hshut he hbb hX hv
    go_enter Tryz.func261, Tryz.ntmps261
    go_wp2_with (first
      | (go_at_call 179; refine (HS.out.call1 C1.out).mono ?_; rintro e w1 ⟨J, ⟨rfl, rfl⟩, hs⟩; simp only [List.cons_append, List.nil_append] at hs; have HS1 := Lib.hid hs; clear hs))
    refine wp_loop_rounds 1 ?_
    rw [rounds_succ]
    go_wp2_with (first
      | (go_at_call 32; refine (HS1.out.call1 C2.out).mono ?_; rintro e w2 ⟨J, ⟨rfl, rfl⟩, hs⟩; simp only [List.cons_append, List.nil_append] at hs; have HS2 := Lib.hid hs; clear hs)
      | (go_at_call 181; refine (HS2.out.call1 C4.out).mono ?_; rintro e w3 ⟨J, ⟨rfl, rfl⟩, hs⟩; simp only [List.cons_append, List.nil_append] at hs; have HS3 := Lib.hid hs; clear hs))
    go_ret
    exact ⟨_, ⟨_, [], _, rfl, rfl, fun h => absurd h HV.out, rfl⟩, HS3.out.to fun P h => h.under fun P h => lsI_nil h⟩
end Go.Proofs.YtjfdcnggnldgdaaGreatDoor
end
section
namespace Go.Proofs.YtjfdcnggnldgdaaGreatDoor
open Go.ChangeShapes Go.WideShapes Go.ChangeAt Go.RowKit
set_option linter.unusedVariables false
set_option linter.unusedSimpArgs false
section
variable {ops : Array Oper} {rest : List Oper} {o : Oper} {a : Act} {w w0 : World} {X : Nat → Prop} {x : It} {I : List It} {Q : Exit → Act → World → Prop} {K : Act → World → Prop} {b n k i : Nat} {t e : TypeId} {cs ds : Array Value} {v : Value}
theorem wp_storeS (h : St X w0 w I) (i : Nat) (ho : o.guard = none ∧ stOf a o = some (t, .pointer (some ⟨b, 0, none⟩), .agg ds)) (hI : I[i]? = some (.row b t cs)) (T : StructT t n) (hn : cs.size = n) (F : Fits n ds)
    (k : ∀ w', Hid (St X w0 w' (I.set i (.row b t ds))) → K (a.put o.dst undef) w') : Oper.wp Tryz.prog o a w K Q :=
  wp_store_blk T ⟨h.row i hI, hn⟩ F ho (k _ (Lib.hid (h.set i hI ds)))
theorem wp_store1 (h : St X w0 w I) (i : Nat) (ho : stOf a o = some (t, .pointer (some ⟨b, n, none⟩), v)) {tb : TypeId} (hI : I[i]? = some (.row b tb cs)) (T : One t) (hk : n < cs.size) (h1 : v.oneCell' = true)
    (k : ∀ w', Hid (St X w0 w' (I.set i (.row b tb (cs.setIfInBounds n v)))) → K (a.put o.dst undef) w') : Oper.wp Tryz.prog o a w K Q := by
  obtain ⟨hg, x, y, ho, hx, hy⟩ := stOf_eq ho
  have hrow := h.row i hI
  have hc : w.cell? ⟨b, n, none⟩ = some cs[n] := (cell_of_row w b n _ _ _ hrow).trans (Array.getElem?_eq_getElem hk)
  have hf : w.frozen? ⟨b, n, none⟩ = false := by simp [World.frozen?, hrow]
  have hcells : v.cells = #[v] := by cases v <;> first | rfl | simp [Value.oneCell'] at h1
  have hr : (storeVar t ⟨b, n, none⟩ v).run Tryz.prog w = .ok () (w.setCell ⟨b, n, none⟩ v) := by
    cases hq : Tryz.prog.info? t with
    | none => have := T.info; rw [hq] at this; cases this
    | some i =>
      have hs : i.size = 1 := by have := T.info; rw [hq] at this; simpa using this
      simp [storeVar, hcells, sizeOf, typeInfo, hq, hs, storeCells, run_store Tryz.prog _ _ v _ h1, Addr.add_zero', hc, hf, Result.andThen]
  unfold Oper.wp execOp
  simp only [ho, hx, hy, Instr.storeAt, Instr.sureAddr, Sem.run_bind, Sem.run_pure, Result.andThen_ok, hr]
  refine k _ (Lib.hid ?_)
  rw [setCell_eq_setRow w b n cs tb (0, 0) v hrow]
  exact h.set i hI _
theorem wp_alloc (h : St X w0 w (x :: I)) (zc : Array Value) (ho : alOf o = some t) (hz : Zero t zc)
    (k : ∀ (b : Nat) (w' : World), Hid (St X w0 w' (x :: .row b t zc :: I)) → K (a.put o.dst (.pointer (some ⟨b, 0, none⟩))) w') : Oper.wp Tryz.prog o a w K Q := by
  unfold alOf at ho
  split at ho
  · next t' hg hop =>
    simp at ho; subst ho
    unfold Oper.wp execOp
    unfold Zero at hz
    cases hi : Tryz.prog.info? t' with
    | none => simp [hi] at hz
    | some i =>
      cases hzz : i.zero with
      | none => simp [hi, hzz] at hz
      | some z =>
        simp [hi, hzz] at hz
        subst hz
        have hr : (Instr.alloc t' true (.tuple #[])).run Tryz.prog w = .ok (.pointer (some ⟨w.heap.size, 0, none⟩)) (w.alloc (.cells z.cells t')) := by
          simp [Instr.alloc, zeroValue, typeInfo, hi, hzz, newVar, newRow]
        simp only [hop, Sem.run_bind, hr, Result.andThen_ok, Sem.run_pure]
        exact k _ _ (Lib.hid (h.alloc z.cells t'))
  · cases ho
theorem wp_slice (h : St X w0 w (x :: I)) (ho : bsOf a o = some (t, 1, [(0, .agg cs)])) (hu : Tryz.prog.underlying t = some (.slice e)) (hb : Tryz.prog.builtSlice e 1 [(0, .agg cs)] = some cs)
    (k : ∀ (b : Nat) (w' : World), Hid (St X w0 w' (x :: .row b e cs :: I)) → K (a.put o.dst (.slice (some ⟨b, 0, none⟩) 1 1)) w') : Oper.wp Tryz.prog o a w K Q := by
  unfold bsOf at ho
  split at ho
  · next t' n' parts hg hop =>
    simp only [Option.some.injEq, Prod.mk.injEq] at ho
    obtain ⟨rfl, rfl, hy⟩ := ho
    unfold Program.builtSlice at hb
    cases hie : Tryz.prog.info? e with
    | none => simp [hie] at hb
    | some ie =>
      simp only [hie] at hb
      cases hz : ie.zero with
      | none => simp [hz] at hb
      | some z =>
        simp only [hz] at hb
        split at hb
        · cases hb
        · rename_i hc
          refine wp_buildSlice t' e 1 parts hop cs ie z hu hie hz (fun h' => hc (Or.inl h')) (fun h' => hc (Or.inr h')) ?_ (k _ _ (Lib.hid (h.alloc cs e)))
          rw [Array.toList_map]
          exact (congrArg _ hy).trans hb
  · cases ho
/-- an append at an operation: where the row lies behind it is told too -/
theorem wp_append_own_at {P : Program} (w : World) {o : Oper} {a : Act} {K : Act → World → Prop} {Q : Exit → Act → World → Prop} (s x : Operand) (t : TypeId)
    (ho : o.op = .call { callee := .builtin .append, args := #[s, x], argTypes := #[t, t] })
    (base : Nat) (e : TypeId) (i : TypeInfo) (z : Value) (size bytes : Nat) (ht : P.underlying t = some (.slice e)) (hi : P.info? e = some i) (hz : i.zero = some z)
    (hsize : i.size = size) (hby : i.bytes = bytes) (hzs : z.cells.size = size) (hsz : 0 < size)
    (v : Value) (n : Nat) (xs : List Value) (hs : a.eval s = v) (hown : w.ownsRow base e size v n xs)
    (ad : Addr) (m c : Nat) (news : List Value) (hx : a.eval x = .slice (some ad) m c) (hl : news.length = m * size) (hnews : ∀ j u, news[j]? = some u → w.cell? (ad.add j) = some u) (h1 : ∀ u ∈ news, u.oneCell' = true)
    (h63 : n + m ≤ maxLen) (hbytes : (n + m) * bytes ≤ 140737488355328) (hbase : base ≤ w.heap.size)
    (h : ∀ v' w', w'.ownsRow base e size v' (n + m) (xs ++ news) → w.grownBy w' v.ownBlock → (v' = .slice none 0 0 ↔ v = .slice none 0 0 ∧ m = 0) → (v'.ownBlock = v.ownBlock ∨ v'.ownBlock = some w.heap.size) → K (a.put o.dst v') w') :
    o.wp P a w K Q := by
  obtain ⟨v', w', hr, h2, h3, h4, h5⟩ := run_append_own_at (P := P) w base t o.type e i z size bytes ht hi hz hsize hby hzs hsz v n xs hown ad m c news hl hnews h1 h63 hbytes hbase
  unfold Oper.wp execOp
  simp only [ho, resolve, invoke, builtin, Sem.run_bind, Sem.run_pure, Result.andThen_ok, List.map_toArray, List.map_cons, List.map_nil, hs, hx, hr]
  exact h v' w' h2 h3 h4 h5
theorem wp_append {sz : Nat} {xs : List Value} (h : St X w0 w I) (i j : Nat) (ho : apOf a o = some ([v, .slice (some ⟨b, 0, none⟩) 1 1], [t, t])) (hi : I[i]? = some (ownI e sz v n xs)) (hj : I[j]? = some (.row b e cs)) (hu : Tryz.prog.underlying t = some (.slice e))
    (T : Elem e sz) (hcs : cs.size = sz) (h1 : cs.all (·.oneCell') = true) (hn : n < nMax)
    (k : ∀ (v' : Value) (w' : World), Hid (St X w0 w' (I.set i (ownI e sz v' (n + 1) (xs ++ cs.toList)))) → v'.oneCell' = true → K (a.put o.dst v') w') : Oper.wp Tryz.prog o a w K Q := by
  unfold apOf at ho
  split at ho
  · next c hg hop =>
    split at ho
    · next hcal =>
      simp only [Option.some.injEq, Prod.mk.injEq] at ho
      obtain ⟨hargs, htys⟩ := ho
      obtain ⟨cal, args, tys⟩ := c
      obtain ⟨args⟩ := args
      obtain ⟨tys⟩ := tys
      simp only [] at hcal hargs htys
      subst hcal htys
      obtain ⟨s, args, rfl⟩ : ∃ s r, args = s :: r := by cases args with | nil => simp at hargs | cons s r => exact ⟨s, r, rfl⟩
      obtain ⟨y, args, rfl⟩ : ∃ s r, args = s :: r := by cases args with | nil => simp at hargs | cons s r => exact ⟨s, r, rfl⟩
      obtain rfl : args = [] := by cases args with | nil => rfl | cons s r => simp at hargs
      simp only [List.map_cons, List.map_nil, List.cons.injEq, and_true] at hargs
      obtain ⟨hs, hy⟩ := hargs
      obtain ⟨z, hinf, hz⟩ := T.info
      cases hq : Tryz.prog.info? e with
      | none => simp [hq] at hinf
      | some ie =>
        simp [hq] at hinf
        obtain ⟨hzz, hsz, hby⟩ := hinf
        have hn : n < 16777216 := hn
        obtain ⟨A, B, p1, p2, p3, ⟨hown, hP⟩, p5⟩ := Sep.pick i h.sep hi
        have hrow := h.row j hj
        refine wp_append_own_at w s y t hop 0 e ie z sz ie.bytes hu hq hzz hsz rfl hz T.pos v n xs hs hown ⟨b, 0, none⟩ 1 1 cs.toList hy (by rw [Nat.one_mul, Array.length_toList, hcs]) (fun m u hu => ?_) (fun u hu => (Array.all_eq_true_iff_forall_mem.1 h1) u (by simpa using hu)) (by unfold maxLen; omega) ?_ (Nat.zero_le _) ?_
        · have hadd : (⟨b, 0, none⟩ : Addr).add m = ⟨b, m, none⟩ := by unfold Addr.add; split <;> simp_all
          rw [hadd, cell_of_row w b m _ _ _ hrow]
          simpa using hu
        · have : (n + 1) * ie.bytes ≤ 16777216 * 4096 := Nat.mul_le_mul (by omega) hby
          omega
        · intro v' w' ho' hg' hnil hblk
          have hone : v'.oneCell' = true := by
            rcases ho'.2 with ⟨rfl, _⟩ | ⟨g, cap, cur, rfl, _⟩ <;> rfl
          refine k v' w' (Lib.hid ⟨h.gd, ⟨hg'.os.trans h.rest.os, hg'.tape.trans h.rest.tape, hg'.output.trans h.rest.output, Nat.le_trans h.rest.size hg'.size, fun m hm hx => ?_⟩, ?_⟩) hone
          · rw [hg'.block m (Nat.lt_of_lt_of_le hm h.rest.size) (fun e => ?_)]
            · exact h.rest.block m hm hx
            · have hb := (p1 m (hP m e.symm)).2
              rcases hb with hb | hb
              · exact hx hb
              · omega
          · refine Sep.unpick i hi (Sep.cons (A := fun m => v'.ownBlock = some m) ⟨ho', fun m hm => hm⟩ (p5.loc fun m hm => hg'.block m (p2 m hm).1 fun e => p3 m (hP m e.symm) hm) ?_ ?_ ?_)
            · intro m hm
              rcases hblk with hb | hb
              · have hA := p1 m (hP m (hb.symm.trans hm))
                exact ⟨Nat.lt_of_lt_of_le hA.1 hg'.size, hA.2⟩
              · have hmm : m = w.heap.size := by rw [hb] at hm; cases hm; rfl
                rcases ho'.2 with ⟨rfl, _⟩ | ⟨g, cap, cur, rfl, _, hgh, _⟩
                · cases hm
                · cases hm
                  exact ⟨(Array.getElem?_eq_some_iff.1 hgh).1, Or.inr (by rw [hmm]; exact h.rest.size)⟩
            · exact fun m hm => ⟨Nat.lt_of_lt_of_le (p2 m hm).1 hg'.size, (p2 m hm).2⟩
            · intro m hm hB
              rcases hblk with hb | hb
              · exact p3 m (hP m (hb.symm.trans hm)) hB
              · have hmm : m = w.heap.size := by rw [hb] at hm; cases hm; rfl
                have := (p2 m hB).1
                omega
    · cases ho
  · cases ho
end
end Go.Proofs.YtjfdcnggnldgdaaGreatDoor
end
