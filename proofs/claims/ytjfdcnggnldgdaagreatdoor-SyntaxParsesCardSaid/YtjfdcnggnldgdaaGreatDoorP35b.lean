/-
A block, and so all of statements by induction.
Lists of parameters.
-/
import Derived.Test.YtjfdcnggnldgdaaGreatDoorP33b
import Derived.Test.YtjfdcnggnldgdaaGreatDoorP23b
section
namespace Go.Proofs.YtjfdcnggnldgdaaGreatDoor
open Go.ChangeShapes Go.WideShapes Go.ChangeAt Go.RowKit
set_option linter.unusedVariables false
set_option linter.unusedSimpArgs false

theorem stB (k p m : Int) (nm : List UInt8) (e l b : Int) (q1 q2 q3 : Option Addr) (l1 l2 l3 c1 c2 c3 : Nat) (h : Bool) : Tryz.prog.builtSlice 53 1 [(0, .agg (stA k p m nm e l b (.slice q1 l1 c1) (.slice q2 l2 c2) (.slice q3 l3 c3) h))] = some (stA k p m nm e l b (.slice q1 l1 c1) (.slice q2 l2 c2) (.slice q3 l3 c3) h) := by kernel_rfl
theorem stEl : Elem 53 11 := ⟨by decide, ⟨.agg (stA 0 0 0 [] 0 0 0 (.slice none 0 0) (.slice none 0 0) (.slice none 0 0) false), by kernel_rfl, rfl⟩⟩
theorem stOne (k p m : Int) (nm : List UInt8) (e l b : Int) (q1 q2 q3 : Option Addr) (l1 l2 l3 c1 c2 c3 : Nat) (h : Bool) : (stA k p m nm e l b (.slice q1 l1 c1) (.slice q2 l2 c2) (.slice q3 l3 c3) h).all (·.oneCell') = true := by simp [Value.oneCell']
/-- behind an append: the statement is among the others -/
theorem St.pushS {X : Nat → Prop} {w0 w : World} {x r : It} {m : Nat} {k p mm te tl tb : Int} {nm : List UInt8} {va vb ve v' : Value} {es : List Sx.E} {bs cs ss : List Sx.S} {hh : Bool} {xs : List Value}
    (h : St X w0 w [x, r, lsI va es, ssI vb bs, ssI ve cs, ownI 53 11 v' m (xs ++ (stA k p mm nm te tl tb va vb ve hh).toList), slI ss xs]) :
    St X w0 w [x, ownI 53 11 v' m (xs ++ (stA k p mm nm te tl tb va vb ve hh).toList), slI (ss ++ [.mk k p mm nm ⟨te, tl, tb⟩ es bs cs hh]) (xs ++ (stA k p mm nm te tl tb va vb ve hh).toList)] :=
  (h.sel [0, 4, 4, 1, 1, 1] rfl).to fun P h => h.under fun P h => h.under fun P h => slI_more h
set_option maxHeartbeats 8000000 in
set_option maxRecDepth 100000 in
theorem block_fn (b : Nat) (L : List Lx.Tok) (hL : Sx.Ok L) (σ : Sx.R) (hS : ∀ τ, τ.err = 0 → Sx.M L τ + 16 ≤ Sx.M L σ → CS b L τ) : CB b L σ := by
  intro w P hP h0
  have HS := Lib.hid (St.start hP h0)
  have hat := HS.out.at'
  rw [Sx.Bl_eq hL.ends hat]
  have C1 := Lib.hid (open_fn b L hL σ [123] (by decide))
  have hop : (Sx.nest L [123] σ).opn = σ.opn + 1 := Sx.op_nest L [123] σ
  have ho0 := HS.out.opn0
  have herr0 : (Sx.nest L [123] σ).err = 0 → σ.err = 0 := fun h => Sx.nest_err hL (by decide) h
  have hat1 : (Sx.nest L [123] σ).err = 0 → 0 + 1 ≤ (Sx.nest L [123] σ).at' := fun h => by rw [Sx.nest_at hL (by decide) h]; omega
  have hS' : σ.err = 0 → ∀ τ, τ.err = 0 → Sx.M L τ ≤ Sx.M L (Sx.nest L [123] σ) → CS b L τ := fun he τ ht h => hS τ ht (Nat.le_trans (Nat.add_le_add_right h 16) (Sx.M_nest he hat))
  generalize Sx.nest L [123] σ = σ1 at C1 hop herr0 hat1 hS' ⊢
  have HG := Lib.hid (And.intro hop (And.intro ho0 (And.intro herr0 hat1)))
  have HL := Lib.hid hL
  have HE := Lib.hid hS'
  clear h0 hP hL hS hS' hop ho0 herr0 hat1 hat
  go_enter Tryz.func124, Tryz.ntmps124
  go_wp2_with (first
    | (go_at_call 179; refine (HS.out.call1 C1.out).mono ?_; rintro e w1 ⟨J, ⟨rfl, rfl⟩, hs⟩; simp only [List.cons_append, List.nil_append] at hs; have HS1 := Lib.hid hs; clear hs))
  obtain ⟨N, hN⟩ : ∃ N : Nat, N = 65537 := ⟨_, rfl⟩
  have HNN := Lib.hid hN
  clear hN
  go_loopw [3] (fun v wr => ∃ (k : Nat) (ss : List Sx.S) (xs : List Value) (τ : Sx.R), k ≤ N ∧ lenOf v = k ∧ Hid (ss.length = k ∧ St P w wr [rd b L τ, ownI 53 11 v k xs, slI ss xs] ∧ τ.opn = σ.opn + 1 ∧ (τ.err = 0 → σ.err = 0) ∧ Sx.M L τ ≤ Sx.M L σ1 ∧ (τ.err = 0 → k + 1 ≤ τ.at') ∧ (Sx.Ss L σ1).2 = (Sx.Ss L τ).2 ∧ ((Sx.Ss L τ).2.err = 0 → (Sx.Ss L σ1).1 = ss ++ (Sx.Ss L τ).1))) (fun v _ => N + 1 - lenOf v)
  case atStart =>
    refine ⟨0, [], [], σ1, Nat.zero_le _, rfl, Lib.hid ⟨rfl, HS1.out.to fun P h => h.under fun P h => ?_, HG.out.1, HG.out.2.2.1, Nat.le_refl _, HG.out.2.2.2, rfl, fun _ => rfl⟩⟩
    exact Sep.emp (Sep.emp h (slI_nil _ _)) ⟨World.ownsRow_nil _ _ _ _, fun g hg => by cases hg⟩
  case round =>
    obtain ⟨k, ss, xs, τ, hk, hlen, HK⟩ := hrel
    obtain ⟨q, cap, rfl⟩ := HK.out.2.1.ownLen 1 rfl
    have HST := Lib.hid HK.out.2.1
    have hat := HST.out.at'
    have C2 := Lib.hid (failed_fn b L τ)
    have C5 := Lib.hid (is_fn b L HL.out τ [125] (by decide))
    have HAT := Lib.hid hat
    by_cases he : τ.err = 0 ∧ Sx.sees L [125] τ = false
    · obtain ⟨he, hse⟩ := he
      rw [decide_eq_false (p := τ.err ≠ 0) (by simpa using he)] at C2
      rw [hse] at C5
      have hkb : k < 65536 := by
        have h1 := HK.out.2.2.2.2.2.1 he
        have h2 := HL.out.len
        omega
      have hnm : k < nMax := by unfold nMax; omega
      have CX := Lib.hid (HE.out (HK.out.2.2.2.1 he) τ he HK.out.2.2.2.2.1)
      have HN := Lib.hid (Sx.Ss_go HL.out.ends hat he hse)
      have HHe := Lib.hid he
      have HKB := Lib.hid hkb
      clear he hse hat hk hkb
      go_wp2_with (first
        | (go_at_call 32; refine (HST.out.call1 C2.out).mono ?_; rintro e w2 ⟨J, ⟨rfl, rfl⟩, hs⟩; simp only [List.cons_append, List.nil_append] at hs; have HS2 := Lib.hid hs; clear hs)
        | (go_at_call 180; refine (HS2.out.call1 C5.out).mono ?_; rintro e w3 ⟨J, ⟨rfl, rfl⟩, hs⟩; simp only [List.cons_append, List.nil_append] at hs; have HS3 := Lib.hid hs; clear hs)
        | (go_at_call 183; refine (HS3.out.call1 CX.out).mono ?_; rintro e w4 ⟨J, ⟨k2, p, m, nm, te, tl, tb, q1, q2, q3, l1, l2, l3, c1, c2, c3, es, bs, cs, hh, rfl, rfl, hx⟩, hs⟩; simp only [List.cons_append, List.nil_append] at hs; have HX := Lib.hid hx; have HS4 := Lib.hid hs; clear hs hx)
        | (refine wpl_slice HS4.out rfl Tryz.underlying48 (stB _ _ _ _ _ _ _ _ _ _ _ _ _ _ _ _ _) ?_; intro b5 w5 HS5)
        | (refine wpl_append HS5.out 5 1 rfl rfl rfl Tryz.underlying48 stEl rfl (stOne _ _ _ _ _ _ _ _ _ _ _ _ _ _ _ _ _) hnm ?_; intro v3 w6 hs h13; obtain ⟨q3', cap3, rfl⟩ := hs.out.ownLen 5 rfl; have HS6 := Lib.hid (show St _ _ _ (_ :: _ :: _ :: _ :: _ :: _ :: _ :: []) from hs.out); clear hs))
      refine ⟨⟨k + 1, ss ++ [.mk k2 p m nm ⟨te, tl, tb⟩ es bs cs hh], xs ++ (stA k2 p m nm te tl tb (.slice q1 l1 c1) (.slice q2 l2 c2) (.slice q3 l3 c3) hh).toList, (Sx.St L τ).2, ?_, ?_, Lib.hid ⟨?_, HS6.out.pushS, ?_, ?_, ?_, ?_, ?_, ?_⟩⟩, ?_⟩
      · have := HKB.out; have := HNN.out; omega
      · rfl
      · rw [List.length_append, HK.out.1]; rfl
      · exact ((Sx.op_stmts L _).2.2 τ).trans HK.out.2.2.1
      · exact fun _ => HK.out.2.2.2.1 HHe.out
      · exact Nat.le_trans (Sx.M_le ((Sx.le_stmts HL.out.ends _).2.2 τ)) HK.out.2.2.2.2.1
      · intro hz
        have h1 := Sx.St_at HL.out.ends HAT.out HHe.out hz
        have h3 := HK.out.2.2.2.2.2.1 HHe.out
        omega
      · rw [HK.out.2.2.2.2.2.2.1, HN.out]
      · intro hz
        have h9 : (Sx.St L τ).2.err = 0 := Sx.Le.ok ((Sx.le_stmts HL.out.ends _).2.1 _) hz
        rw [HK.out.2.2.2.2.2.2.2 (by rw [HN.out]; exact hz), HN.out, List.append_assoc, ← HX.out h9]; rfl
      · show N + 1 - lenOf _ < _
        have := HKB.out
        have := HNN.out
        simp only [lenOf]
        omega
    · have hex : τ.err ≠ 0 ∨ Sx.sees L [125] τ = true := by
        by_cases h1 : τ.err = 0
        · cases h2 : Sx.sees L [125] τ
          · exact absurd ⟨h1, h2⟩ he
          · exact Or.inr rfl
        · exact Or.inl h1
      have hfx := Sx.Ss_stop HL.out.ends hat hex
      have hT0 := HK.out.2.2
      have hfin : (Sx.Ss L σ1).2 = τ := by rw [hT0.2.2.2.2.1, hfx]
      have hval : (Sx.unnest L [125] τ).err = 0 → (Sx.Ss L σ1).1 = ss := fun h => by
        rw [hT0.2.2.2.2.2 (by rw [hfx]; exact Sx.unnest_err h), hfx, List.append_nil]
      have C4 := Lib.hid (shut_fn b L HL.out τ [125] (by decide) (fun h => by
        have h1 : τ.err = 0 := Sx.unnest_err (s := [125]) h
        have h2 := HG.out.2.1 (hT0.2.1 h1)
        rw [hT0.1]; omega))
      have HF := Lib.hid hfin
      have HV := Lib.hid hval
      have HLN := Lib.hid HK.out.1
      clear hfin hval hfx hT0 he
      by_cases h1 : τ.err = 0
      · rw [decide_eq_false (p := τ.err ≠ 0) (by simpa using h1)] at C2
        have h2 : Sx.sees L [125] τ = true := hex.resolve_left (fun h => h h1)
        rw [h2] at C5
        clear HK HE h1 h2 hex hat hk
        go_wp2_with (first
          | (go_at_call 32; refine (HST.out.call1 C2.out).mono ?_; rintro e w2 ⟨J, ⟨rfl, rfl⟩, hs⟩; simp only [List.cons_append, List.nil_append] at hs; have HS2 := Lib.hid hs; clear hs)
          | (go_at_call 180; refine (HS2.out.call1 C5.out).mono ?_; rintro e w3 ⟨J, ⟨rfl, rfl⟩, hs⟩; simp only [List.cons_append, List.nil_append] at hs; have HS3 := Lib.hid hs; clear hs)
          | (go_at_call 181; refine (HS3.out.call1 C4.out).mono ?_; rintro e w4 ⟨J, ⟨rfl, rfl⟩, hs⟩; simp only [List.cons_append, List.nil_append] at hs; have HS4 := Lib.hid hs; clear hs))
        go_ret
        refine ⟨_, ⟨_, _, _, ss, rfl, rfl, ?_⟩, ?_⟩
        · rw [HF.out]; exact HV.out
        · rw [HF.out]; exact HS4.out.to fun P h => h.under fun P h => ssI_close HLN.out.symm h
      · rw [decide_eq_true (p := τ.err ≠ 0) h1] at C2
        clear HK HE h1 hex hat hk
        go_wp2_with (first
          | (go_at_call 32; refine (HST.out.call1 C2.out).mono ?_; rintro e w2 ⟨J, ⟨rfl, rfl⟩, hs⟩; simp only [List.cons_append, List.nil_append] at hs; have HS2 := Lib.hid hs; clear hs)
          | (go_at_call 181; refine (HS2.out.call1 C4.out).mono ?_; rintro e w4 ⟨J, ⟨rfl, rfl⟩, hs⟩; simp only [List.cons_append, List.nil_append] at hs; have HS4 := Lib.hid hs; clear hs))
        go_ret
        refine ⟨_, ⟨_, _, _, ss, rfl, rfl, ?_⟩, ?_⟩
        · rw [HF.out]; exact HV.out
        · rw [HF.out]; exact HS4.out.to fun P h => h.under fun P h => ssI_close HLN.out.symm h
theorem stmts_B (b : Nat) (L : List Lx.Tok) (hL : Sx.Ok L) (n : Nat) : ∀ σ, Sx.M L σ ≤ n → CB b L σ := by
  induction n with
  | zero => exact fun σ hn => block_fn b L hL σ (fun τ _ h => by omega)
  | succ n ih => exact fun σ hn => block_fn b L hL σ (fun τ ht h => stmt_fn b L hL τ ht (fun ρ hρ => ih ρ (by omega)))
/-- what the program's block makes, of any state -/
theorem block_any (b : Nat) (L : List Lx.Tok) (hL : Sx.Ok L) (σ : Sx.R) : CB b L σ := stmts_B b L hL _ σ (Nat.le_refl _)
end Go.Proofs.YtjfdcnggnldgdaaGreatDoor
end
section
namespace Go.Proofs.YtjfdcnggnldgdaaGreatDoor
open Go.ChangeShapes Go.WideShapes Go.ChangeAt Go.RowKit
set_option linter.unusedVariables false
set_option linter.unusedSimpArgs false

def LP (b : Nat) (L : List Lx.Tok) (r : List Sx.Pa × Sx.R) (e : Ending) (J : List It) : Prop :=
  ∃ (q : Option Addr) (l c : Nat) (ps : List Sx.Pa), e = .returned (.slice q l c) ∧ J = [rd b L r.2, psI (.slice q l c) ps] ∧ (r.2.err = 0 → r.1 = ps)
set_option maxHeartbeats 8000000 in
set_option maxRecDepth 100000 in
theorem list_params (b : Nat) (L : List Lx.Tok) (hL : Sx.Ok L) (σ : Sx.R) (mo : Int) (hmo : mo = 65536) :
    Fn 119 #[.pointer (some ⟨b, 0, none⟩), .int .i64 0, .int .i64 mo, .func (.func 120) #[.pointer (some ⟨b, 0, none⟩)] #[]] [rd b L σ]
    (LP b L ((Sx.PA L 0 (Sx.nest L [40] σ)).1, Sx.unnest L [41] (Sx.PA L 0 (Sx.nest L [40] σ)).2)) := by
  intro w P hP h0
  have HS := Lib.hid (St.start hP h0)
  have C1 := Lib.hid (open_fn b L hL σ [40] (by decide))
  have hop : (Sx.nest L [40] σ).opn = σ.opn + 1 := Sx.op_nest L [40] σ
  have ho0 := HS.out.opn0
  have herr0 : (Sx.nest L [40] σ).err = 0 → σ.err = 0 := fun h => Sx.nest_err hL (by decide) h
  have hat1 : (Sx.nest L [40] σ).err = 0 → 0 + 1 ≤ (Sx.nest L [40] σ).at' := fun h => by rw [Sx.nest_at hL (by decide) h]; omega
  generalize Sx.nest L [40] σ = σ1 at C1 hop herr0 hat1 ⊢
  have HG := Lib.hid (And.intro hop (And.intro ho0 (And.intro herr0 hat1)))
  have HL := Lib.hid hL
  have HMO := Lib.hid hmo
  clear h0 hP hL hop ho0 herr0 hat1 hmo
  go_enter Tryz.func119, Tryz.ntmps119
  go_wp2_with (first
    | (go_at_call 179; refine (HS.out.call1 C1.out).mono ?_; rintro e w1 ⟨J, ⟨rfl, rfl⟩, hs⟩; simp only [List.cons_append, List.nil_append] at hs; have HS1 := Lib.hid hs; clear hs))
  obtain ⟨N, hN⟩ : ∃ N : Nat, N = 65537 := ⟨_, rfl⟩
  have HNN := Lib.hid hN
  clear hN
  go_loopw [9] (fun v wr => ∃ (k : Nat) (ps : List Sx.Pa) (τ : Sx.R), k ≤ N ∧ lenOf v = k ∧ Hid (ps.length = k ∧ St P w wr [rd b L τ, ownI 81 6 v k (ps.flatMap paL)] ∧ τ.opn = σ.opn + 1 ∧ (τ.err = 0 → σ.err = 0) ∧ (τ.err = 0 → k + 1 ≤ τ.at') ∧ Sx.unnest L [41] (Sx.PA L 0 σ1).2 = Sx.unnest L [41] (Sx.PA L k τ).2 ∧ ((Sx.unnest L [41] (Sx.PA L k τ).2).err = 0 → (Sx.PA L 0 σ1).1 = ps ++ (Sx.PA L k τ).1))) (fun v _ => N + 1 - lenOf v)
  case atStart =>
    refine ⟨0, [], σ1, Nat.zero_le _, rfl, Lib.hid ⟨rfl, HS1.out.to fun P h => h.under fun P h => ?_, HG.out.1, HG.out.2.2.1, HG.out.2.2.2, rfl, fun _ => rfl⟩⟩
    exact Sep.emp h ⟨World.ownsRow_nil _ _ _ _, fun g hg => by cases hg⟩
  case round =>
    obtain ⟨k, ps, τ, hk, hlen, HK⟩ := hrel
    obtain ⟨q, cap, rfl⟩ := HK.out.2.1.ownLen 1 rfl
    have HST := Lib.hid HK.out.2.1
    have hat := HST.out.at'
    have C2 := Lib.hid (failed_fn b L τ)
    have C5 := Lib.hid (is_fn b L HL.out τ [41] (by decide))
    have HAT := Lib.hid hat
    have hkd0 : decide ((k : Int) < 0) = false := decide_eq_false (by omega)
    by_cases he : τ.err = 0 ∧ Sx.sees L [41] τ = false
    · obtain ⟨he, hse⟩ := he
      rw [decide_eq_false (p := τ.err ≠ 0) (by simpa using he)] at C2
      rw [hse] at C5
      have hkb : k < 65536 := by
        have h1 := HK.out.2.2.2.2.1 he
        have h2 := HL.out.len
        omega
      have C3 := Lib.hid (want_fn b L HL.out τ [44] (by decide))
      have hle : Sx.Le L τ (if decide (k = 0) = true then τ else Sx.eat L [44] τ) := by
        split
        · exact Sx.Le.refl _ _
        · exact Sx.le_eat HL.out.ends [44] (by decide) τ
      have hopt : (if decide (k = 0) = true then τ else Sx.eat L [44] τ).opn = τ.opn := by
        split
        · rfl
        · exact Sx.op_eat L [44] τ
      have hs1 := Sx.PA_step HL.out.ends k hat he hse
      have hkI : (k : Int) < mo := by have := HMO.out; omega
      have hnm : k < nMax := by unfold nMax; omega
      have HN := Lib.hid hs1
      have HLe := Lib.hid hle
      have HOp := Lib.hid hopt
      have HHe := Lib.hid he
      have HKB := Lib.hid hkb
      clear hs1 hle hopt he hse hat hk hkb
      by_cases hk0 : k = 0
      · subst hk0
        rw [if_pos (by decide)] at HN HLe HOp
        have CX := Lib.hid (param_fn b L HL.out τ)
        have hkz : ¬ (0 : Int) < ((0 : Nat) : Int) := by omega
        go_wp2_with (first
          | (go_at_call 32; refine (HST.out.call1 C2.out).mono ?_; rintro e w2 ⟨J, ⟨rfl, rfl⟩, hs⟩; simp only [List.cons_append, List.nil_append] at hs; have HS2 := Lib.hid hs; clear hs)
          | (go_at_call 180; refine (HS2.out.call1 C5.out).mono ?_; rintro e w3 ⟨J, ⟨rfl, rfl⟩, hs⟩; simp only [List.cons_append, List.nil_append] at hs; have HS3 := Lib.hid hs; clear hs)
          | (go_at_call 120; refine (HS3.out.call1 CX.out).mono ?_; rintro e w4 ⟨J, ⟨rfl, rfl⟩, hs⟩; simp only [List.cons_append, List.nil_append] at hs; have HS4 := Lib.hid hs; clear hs)
          | (refine wpl_slice HS4.out rfl Tryz.underlying45 (paB _ _ _ _ _ _) ?_; intro b5 w5 HS5)
          | (refine wpl_append HS5.out 2 1 rfl rfl rfl Tryz.underlying45 paEl rfl (paOne _ _ _ _ _ _) hnm ?_; intro v3 w6 hs h13; obtain ⟨q3, cap3, rfl⟩ := hs.out.ownLen 2 rfl; have HS6 := Lib.hid (show St _ _ _ (_ :: _ :: _ :: []) from hs.out); clear hs))
        refine ⟨⟨0 + 1, ps ++ [(Sx.param L τ).1], (Sx.param L τ).2, ?_, ?_, Lib.hid ⟨?_, HS6.out.pushP, ?_, ?_, ?_, ?_, ?_⟩⟩, ?_⟩
        · have := HKB.out; have := HNN.out; omega
        · rfl
        · rw [List.length_append, HK.out.1]; rfl
        · rw [Sx.op_param]; first | exact HK.out.2.2.1 | (rw [HOp.out]; exact HK.out.2.2.1)
        · exact fun _ => HK.out.2.2.2.1 HHe.out
        · intro hz
          have h1 := Sx.param_at HL.out.ends (HLe.out.2.2.1 HAT.out) hz
          have h2 := HLe.out.1
          have h3 := HK.out.2.2.2.2.1 HHe.out
          omega
        · rw [HK.out.2.2.2.2.2.1]; exact HN.out.1
        · intro hz
          rw [HK.out.2.2.2.2.2.2 (by rw [HN.out.1]; exact hz), HN.out.2 hz, List.append_assoc]; rfl
        · show N + 1 - lenOf _ < _
          have := HKB.out
          have := HNN.out
          simp only [lenOf]
          omega
      · have hkz : (0 : Int) < (k : Int) := by omega
        rw [if_neg (by simpa using hk0)] at HN HLe HOp
        have CX := Lib.hid (param_fn b L HL.out (Sx.eat L [44] τ))
        go_wp2_with (first
          | (go_at_call 32; refine (HST.out.call1 C2.out).mono ?_; rintro e w2 ⟨J, ⟨rfl, rfl⟩, hs⟩; simp only [List.cons_append, List.nil_append] at hs; have HS2 := Lib.hid hs; clear hs)
          | (go_at_call 180; refine (HS2.out.call1 C5.out).mono ?_; rintro e w3 ⟨J, ⟨rfl, rfl⟩, hs⟩; simp only [List.cons_append, List.nil_append] at hs; have HS3 := Lib.hid hs; clear hs)
          | (go_at_call 117; refine (HS3.out.call1 C3.out).mono ?_; rintro e w7 ⟨J, ⟨rfl, rfl⟩, hs⟩; simp only [List.cons_append, List.nil_append] at hs; have HS7 := Lib.hid hs; clear hs)
          | (go_at_call 120; refine (HS7.out.call1 CX.out).mono ?_; rintro e w4 ⟨J, ⟨rfl, rfl⟩, hs⟩; simp only [List.cons_append, List.nil_append] at hs; have HS4 := Lib.hid hs; clear hs)
          | (refine wpl_slice HS4.out rfl Tryz.underlying45 (paB _ _ _ _ _ _) ?_; intro b5 w5 HS5)
          | (refine wpl_append HS5.out 2 1 rfl rfl rfl Tryz.underlying45 paEl rfl (paOne _ _ _ _ _ _) hnm ?_; intro v3 w6 hs h13; obtain ⟨q3, cap3, rfl⟩ := hs.out.ownLen 2 rfl; have HS6 := Lib.hid (show St _ _ _ (_ :: _ :: _ :: []) from hs.out); clear hs))
        refine ⟨⟨k + 1, ps ++ [(Sx.param L (Sx.eat L [44] τ)).1], (Sx.param L (Sx.eat L [44] τ)).2, ?_, ?_, Lib.hid ⟨?_, HS6.out.pushP, ?_, ?_, ?_, ?_, ?_⟩⟩, ?_⟩
        · have := HKB.out; have := HNN.out; omega
        · rfl
        · rw [List.length_append, HK.out.1]; rfl
        · rw [Sx.op_param]; first | exact HK.out.2.2.1 | (rw [HOp.out]; exact HK.out.2.2.1)
        · exact fun _ => HK.out.2.2.2.1 HHe.out
        · intro hz
          have h1 := Sx.param_at HL.out.ends (HLe.out.2.2.1 HAT.out) hz
          have h2 := HLe.out.1
          have h3 := HK.out.2.2.2.2.1 HHe.out
          omega
        · rw [HK.out.2.2.2.2.2.1]; exact HN.out.1
        · intro hz
          rw [HK.out.2.2.2.2.2.2 (by rw [HN.out.1]; exact hz), HN.out.2 hz, List.append_assoc]; rfl
        · show N + 1 - lenOf _ < _
          have := HKB.out
          have := HNN.out
          simp only [lenOf]
          omega
    · have hex : τ.err ≠ 0 ∨ Sx.sees L [41] τ = true := by
        by_cases h1 : τ.err = 0
        · cases h2 : Sx.sees L [41] τ
          · exact absurd ⟨h1, h2⟩ he
          · exact Or.inr rfl
        · exact Or.inl h1
      have hfx := Sx.PA_exit HL.out.ends k hat hex
      have hT0 := HK.out.2.2
      have hfin : Sx.unnest L [41] (Sx.PA L 0 σ1).2 = Sx.unnest L [41] τ := by rw [hT0.2.2.2.1, hfx.1]
      have hval : (Sx.unnest L [41] τ).err = 0 → (Sx.PA L 0 σ1).1 = ps := fun h => by
        rw [hT0.2.2.2.2 (by rw [hfx.1]; exact h), hfx.2 (Sx.unnest_err h), List.append_nil]
      have C4 := Lib.hid (shut_fn b L HL.out τ [41] (by decide) (fun h => by
        have h1 : τ.err = 0 := Sx.unnest_err (s := [41]) h
        have h2 := HG.out.2.1 (hT0.2.1 h1)
        rw [hT0.1]; omega))
      have HF := Lib.hid hfin
      have HV := Lib.hid hval
      have HLN := Lib.hid HK.out.1
      have hkb : τ.err = 0 → k < 65536 := fun he => by
        have h1 := HK.out.2.2.2.2.1 he
        have h2 := HL.out.len
        omega
      clear hfin hval hfx hT0 he
      by_cases h1 : τ.err = 0
      · rw [decide_eq_false (p := τ.err ≠ 0) (by simpa using h1)] at C2
        have hkI : (k : Int) < mo := by have := hkb h1; have := HMO.out; omega
        have h2 : Sx.sees L [41] τ = true := hex.resolve_left (fun h => h h1)
        rw [h2] at C5
        clear HK h1 h2 hex hkb hat hk
        go_wp2_with (first
          | (go_at_call 32; refine (HST.out.call1 C2.out).mono ?_; rintro e w2 ⟨J, ⟨rfl, rfl⟩, hs⟩; simp only [List.cons_append, List.nil_append] at hs; have HS2 := Lib.hid hs; clear hs)
          | (go_at_call 180; refine (HS2.out.call1 C5.out).mono ?_; rintro e w3 ⟨J, ⟨rfl, rfl⟩, hs⟩; simp only [List.cons_append, List.nil_append] at hs; have HS3 := Lib.hid hs; clear hs)
          | (go_at_call 181; refine (HS3.out.call1 C4.out).mono ?_; rintro e w4 ⟨J, ⟨rfl, rfl⟩, hs⟩; simp only [List.cons_append, List.nil_append] at hs; have HS4 := Lib.hid hs; clear hs))
        go_ret
        refine ⟨_, ⟨_, _, _, ps, rfl, rfl, ?_⟩, ?_⟩
        · rw [HF.out]; exact HV.out
        · rw [HF.out]; exact HS4.out.to fun P h => by unfold psI; rw [HLN.out]; exact h
      · rw [decide_eq_true (p := τ.err ≠ 0) h1] at C2
        clear HK h1 hex hkb hat hk
        go_wp2_with (first
          | (go_at_call 32; refine (HST.out.call1 C2.out).mono ?_; rintro e w2 ⟨J, ⟨rfl, rfl⟩, hs⟩; simp only [List.cons_append, List.nil_append] at hs; have HS2 := Lib.hid hs; clear hs)
          | (go_at_call 181; refine (HS2.out.call1 C4.out).mono ?_; rintro e w4 ⟨J, ⟨rfl, rfl⟩, hs⟩; simp only [List.cons_append, List.nil_append] at hs; have HS4 := Lib.hid hs; clear hs))
        go_ret
        refine ⟨_, ⟨_, _, _, ps, rfl, rfl, ?_⟩, ?_⟩
        · rw [HF.out]; exact HV.out
        · rw [HF.out]; exact HS4.out.to fun P h => by unfold psI; rw [HLN.out]; exact h
end Go.Proofs.YtjfdcnggnldgdaaGreatDoor
end
