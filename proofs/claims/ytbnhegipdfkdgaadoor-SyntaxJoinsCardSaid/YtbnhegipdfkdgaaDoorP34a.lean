/-
Lists of parameters.
-/
import Derived.Test.YtbnhegipdfkdgaaDoorP33a
namespace Go.Proofs.YtbnhegipdfkdgaaDoor
open Go.ChangeShapes Go.WideShapes Go.ChangeAt Go.RowKit
set_option linter.unusedVariables false
set_option linter.unusedSimpArgs false

/-! ### nests do not matter to parameters -/
def Sx.R.o (c : Int) (σ : Sx.R) : Sx.R := { σ with opn := c }
section
variable {L : List Lx.Tok} {σ : Sx.R} {c : Int}
theorem Sx.wrong_o (e : Int) : Sx.wrong L e (σ.o c) = (Sx.wrong L e σ).o c := by
  show (if σ.err = 0 then _ else _) = Sx.R.o c (if σ.err = 0 then _ else _)
  split <;> rfl
theorem Sx.sees_o (s : List UInt8) : Sx.sees L s (σ.o c) = Sx.sees L s σ := rfl
theorem Sx.eat_o (s : List UInt8) : Sx.eat L s (σ.o c) = (Sx.eat L s σ).o c := by
  show (if σ.err ≠ 0 then _ else if Sx.text L σ ≠ s then _ else _) = Sx.R.o c (if σ.err ≠ 0 then _ else if Sx.text L σ ≠ s then _ else _)
  split
  · rfl
  · split
    · exact Sx.wrong_o 10
    · rfl
theorem Sx.may_o (s : List UInt8) : Sx.may L s (σ.o c) = ((Sx.may L s σ).1, (Sx.may L s σ).2.o c) := by
  unfold Sx.may
  rw [Sx.sees_o]
  split <;> rfl
theorem Sx.some_o (k : Int) : Sx.some L k (σ.o c) = ((Sx.some L k σ).1, (Sx.some L k σ).2.o c) := by
  unfold Sx.some
  show (if σ.err ≠ 0 then _ else if (Sx.tk L σ).kind ≠ k then _ else _) = _
  split
  · rfl
  · split
    · rw [Sx.wrong_o]
    · rfl
theorem Sx.label_o : Sx.label L (σ.o c) = ((Sx.label L σ).1, (Sx.label L σ).2.o c) := by
  unfold Sx.label
  rw [Sx.may_o]
  simp only []
  split
  · rfl
  · rw [Sx.eat_o]
theorem Sx.brackets_o : Sx.brackets L (σ.o c) = ((Sx.brackets L σ).1, (Sx.brackets L σ).2.o c) := by
  unfold Sx.brackets
  rw [Sx.eat_o]
  simp only []
  show (_, Sx.eat L [93] (Sx.some L 2 (if (Sx.tk L (Sx.eat L [91] σ)).num = 0 then Sx.wrong L 10 ((Sx.eat L [91] σ).o c) else (Sx.eat L [91] σ).o c)).2) = _
  have h : (if (Sx.tk L (Sx.eat L [91] σ)).num = 0 then Sx.wrong L 10 ((Sx.eat L [91] σ).o c) else (Sx.eat L [91] σ).o c) = (if (Sx.tk L (Sx.eat L [91] σ)).num = 0 then Sx.wrong L 10 (Sx.eat L [91] σ) else Sx.eat L [91] σ).o c := by
    split
    · exact Sx.wrong_o 10
    · rfl
  rw [h, Sx.some_o]
  simp only []
  rw [Sx.eat_o]
  show ((Sx.some L 2 (if (Sx.tk L (Sx.eat L [91] σ)).num = 0 then Sx.wrong L 10 ((Sx.eat L [91] σ).o c) else (Sx.eat L [91] σ).o c)).1.num, _) = _
  rw [h, Sx.some_o]
theorem Sx.type_o (b : Bool) (l : Int) : Sx.type L b l (σ.o c) = ((Sx.type L b l σ).1, (Sx.type L b l σ).2.o c) := by
  unfold Sx.type
  simp only [Sx.may_o, Sx.eat_o, Sx.brackets_o, Sx.sees_o]
  split
  · rfl
  · split
    · rfl
    · split <;> rfl
theorem Sx.param_o : Sx.param L (σ.o c) = ((Sx.param L σ).1, (Sx.param L σ).2.o c) := by
  unfold Sx.param
  simp only [Sx.may_o, Sx.label_o, Sx.some_o, Sx.eat_o, Sx.type_o]
end
theorem Sx.params_o {L : List Lx.Tok} {c : Int} (f : Nat) : ∀ σ : Sx.R, Sx.params L f (σ.o c) = ((Sx.params L f σ).1, (Sx.params L f σ).2.o c) := by
  induction f with
  | zero => intro σ; rw [Sx.params, Sx.params]
  | succ f ih =>
    intro σ
    rw [Sx.params, Sx.params]
    simp only [Sx.may_o, Sx.param_o, ih]
    split <;> rfl
theorem Sx.plist_o {L : List Lx.Tok} {c : Int} (σ : Sx.R) : Sx.plist L (σ.o c) = ((Sx.plist L σ).1, (Sx.plist L σ).2.o c) := by
  unfold Sx.plist
  simp only [Sx.sees_o, Sx.param_o, Sx.params_o]
  split <;> rfl
/-! ### parameters without fuel -/
def Sx.PA (L : List Lx.Tok) (k : Nat) (σ : Sx.R) : List Sx.Pa × Sx.R := if k = 0 then Sx.plist L σ else Sx.Ps L σ
section
variable {L : List Lx.Tok} (hL : Sx.Ends L)
include hL
theorem Sx.Ps_go {σ : Sx.R} (hi : σ.at' < L.length) (hs : Sx.sees L [44] σ = true) :
    Sx.Ps L σ = ((Sx.param L (Sx.eat L [44] σ)).1 :: (Sx.Ps L (Sx.param L (Sx.eat L [44] σ)).2).1, (Sx.Ps L (Sx.param L (Sx.eat L [44] σ)).2).2) := by
  have h := Sx.fuel_M L σ
  obtain ⟨he, ht⟩ := Sx.sees_text hs
  have hea : Sx.eat L [44] σ = { σ with at' := σ.at' + 1 } := by unfold Sx.eat; rw [if_neg (by simpa using he), if_neg (by simpa using ht)]
  unfold Sx.Ps
  rw [Sx.enough_params hL _ (Sx.fuel L + 1) σ hi (by omega) (by omega), Sx.params, Sx.may_is hs, hea]
  rfl
theorem Sx.Ps_stop {σ : Sx.R} (hi : σ.at' < L.length) (hs : Sx.sees L [44] σ = false) : Sx.Ps L σ = ([], σ) := by
  have h := Sx.fuel_M L σ
  unfold Sx.Ps
  rw [Sx.enough_params hL _ (Sx.fuel L + 1) σ hi (by omega) (by omega), Sx.params, Sx.may_no hs]
  rfl
theorem Sx.param_err {σ : Sx.R} (he : σ.err ≠ 0) : (Sx.param L σ).2 = σ := by
  have h := (Sx.le_param hL σ).2.1 he
  have h2 := Sx.op_param L σ
  obtain ⟨a, o, e, p⟩ := σ
  generalize (Sx.param L _).2 = τ at h h2 ⊢
  obtain ⟨a', o', e', p'⟩ := τ
  simp only [Sx.R.mk.injEq] at h h2 ⊢
  exact ⟨by omega, h2, by omega, by omega⟩
theorem Sx.param_at {σ : Sx.R} (hi : σ.at' < L.length) (h : (Sx.param L σ).2.err = 0) : σ.at' + 1 ≤ (Sx.param L σ).2.at' := by
  unfold Sx.param at h ⊢
  simp only [] at h ⊢
  have l1 := (Sx.le_may hL Sx.wOut (by decide) σ).trans (Sx.le_label hL _)
  have l2 := Sx.le_some hL 1 (by decide) (Sx.label L (Sx.may L Sx.wOut σ).2).2
  have l3 := (Sx.le_eat hL [58] (by decide) (Sx.some L 1 (Sx.label L (Sx.may L Sx.wOut σ).2).2).2).trans (Sx.le_type hL false (Sx.label L (Sx.may L Sx.wOut σ).2).1 _)
  have h2 := Sx.Le.ok l3 h
  have h1 := Sx.Le.ok l2 h2
  have h4 := Sx.M_some (L := L) (k := 1) h1 (l1.2.2.1 hi)
  unfold Sx.M at h4
  rw [if_neg (by simpa using h2), if_neg (by simpa using h1)] at h4
  have h5 := l2.2.2.1 (l1.2.2.1 hi)
  have h6 := l1.1
  have h7 := l3.1
  omega
end
theorem Sx.PA_step {L : List Lx.Tok} (hL : Sx.Ends L) (k : Nat) {τ : Sx.R} (hi : τ.at' < L.length) (he : τ.err = 0) (hs : Sx.sees L [41] τ = false) :
    Sx.unnest L [41] (Sx.PA L k τ).2 = Sx.unnest L [41] (Sx.PA L (k + 1) (Sx.param L (if decide (k = 0) = true then τ else Sx.eat L [44] τ)).2).2 ∧
    ((Sx.unnest L [41] (Sx.PA L (k + 1) (Sx.param L (if decide (k = 0) = true then τ else Sx.eat L [44] τ)).2).2).err = 0 → (Sx.PA L k τ).1 = (Sx.param L (if decide (k = 0) = true then τ else Sx.eat L [44] τ)).1 :: (Sx.PA L (k + 1) (Sx.param L (if decide (k = 0) = true then τ else Sx.eat L [44] τ)).2).1) := by
  by_cases hk : k = 0
  · subst hk
    rw [if_pos (by decide)]
    unfold Sx.PA Sx.plist
    rw [if_pos rfl, if_neg (by rw [hs]; decide), if_neg (by decide)]
    exact ⟨rfl, fun _ => rfl⟩
  · rw [if_neg (by simpa using hk)]
    unfold Sx.PA
    rw [if_neg hk, if_neg (by omega)]
    cases hc : Sx.sees L [44] τ
    · have h1 := Sx.eat_else he hc
      have h2 : (Sx.wrong L 10 τ).err ≠ 0 := Sx.wrong_err (by decide)
      have hi2 : (Sx.wrong L 10 τ).at' < L.length := (Sx.le_wrong L 10 τ (Or.inl rfl)).2.2.1 hi
      have h3 := Sx.eat_else he hs
      have h4 : Sx.eat L [41] (Sx.wrong L 10 τ) = Sx.wrong L 10 τ := Sx.eat_no h2
      rw [h1, Sx.param_err hL h2, Sx.Ps_stop hL hi hc, Sx.Ps_stop hL hi2 (Sx.sees_err h2)]
      unfold Sx.unnest
      simp only []
      rw [h3, h4]
      exact ⟨rfl, fun h => absurd h h2⟩
    · rw [Sx.Ps_go hL hi hc]
      exact ⟨rfl, fun _ => rfl⟩
theorem Sx.PA_exit {L : List Lx.Tok} (hL : Sx.Ends L) (k : Nat) {τ : Sx.R} (hi : τ.at' < L.length) (h : τ.err ≠ 0 ∨ Sx.sees L [41] τ = true) : Sx.unnest L [41] (Sx.PA L k τ).2 = Sx.unnest L [41] τ ∧ (τ.err = 0 → (Sx.PA L k τ).1 = []) := by
  rcases h with h | h
  · have hc := Sx.sees_err (L := L) (s := [44]) h
    unfold Sx.PA
    by_cases hk : k = 0
    · rw [if_pos hk]
      unfold Sx.plist
      rw [Sx.sees_err h, if_neg (by decide)]
      simp only []
      rw [Sx.param_err hL h]
      have h5 : Sx.params L (Sx.fuel L) τ = ([], τ) := Sx.Ps_stop hL hi hc
      rw [h5]
      exact ⟨rfl, fun h0 => absurd h0 h⟩
    · rw [if_neg hk, Sx.Ps_stop hL hi hc]; exact ⟨rfl, fun _ => rfl⟩
  · have hc : Sx.sees L [44] τ = false := Sx.sees_two h (by decide)
    unfold Sx.PA
    by_cases hk : k = 0
    · rw [if_pos hk]
      unfold Sx.plist
      rw [if_pos h]; exact ⟨rfl, fun _ => rfl⟩
    · rw [if_neg hk, Sx.Ps_stop hL hi hc]; exact ⟨rfl, fun _ => rfl⟩
/-- in parentheses, outside all nests -/
theorem Sx.PA_all {L : List Lx.Tok} (σ : Sx.R) (ho : σ.opn = 0) : Sx.unnest L [41] (Sx.PA L 0 (Sx.nest L [40] σ)).2 = Sx.eat L [41] (Sx.plist L (Sx.eat L [40] σ)).2 ∧ (Sx.PA L 0 (Sx.nest L [40] σ)).1 = (Sx.plist L (Sx.eat L [40] σ)).1 := by
  have h1 : Sx.nest L [40] σ = (Sx.eat L [40] σ).o 1 := by
    unfold Sx.nest
    rw [ho]
    rw [show (decide ((64 : Int) ≤ 0)) = false from rfl, Bool.and_false, if_neg (by decide)]
    simp only []
    rw [Sx.op_eat, ho]
    rfl
  rw [h1]
  unfold Sx.PA
  rw [if_pos rfl, Sx.plist_o]
  refine ⟨?_, rfl⟩
  unfold Sx.unnest
  simp only []
  rw [Sx.eat_o]
  have h2 : (Sx.eat L [41] (Sx.plist L (Sx.eat L [40] σ)).2).opn = 0 := by rw [Sx.op_eat, Sx.op_plist, Sx.op_eat, ho]
  generalize Sx.eat L [41] (Sx.plist L (Sx.eat L [40] σ)).2 = ρ at h2 ⊢
  obtain ⟨a, o, e, p⟩ := ρ
  simp only [] at h2
  subst h2
  rfl
/-! ### the list -/
def paL (p : Sx.Pa) : List Value := (paA p.pos (Lx.S p.name) p.ty.elem p.ty.len p.ty.label p.out).toList
/-- a slice of parameters -/
def psI (v : Value) (ps : List Sx.Pa) : It := ownI 53 6 v ps.length (ps.flatMap paL)
theorem paB (p : Int) (n : ByteArray) (e l b : Int) (o : Bool) : Tryd.prog.builtSlice 53 1 [(0, .agg (paA p n e l b o))] = some (paA p n e l b o) := by kernel_rfl
theorem paEl : Elem 53 6 := ⟨by decide, ⟨.agg (paA 0 ⟨#[]⟩ 0 0 0 false), by kernel_rfl, rfl⟩⟩
theorem paOne (p : Int) (n : ByteArray) (e l b : Int) (o : Bool) : (paA p n e l b o).all (·.oneCell') = true := by simp [Value.oneCell']
theorem St.pushP {X : Nat → Prop} {w0 w : World} {x r : It} {m : Nat} {v' : Value} {ps : List Sx.Pa} {p : Sx.Pa} (h : St X w0 w [x, r, ownI 53 6 v' m (ps.flatMap paL ++ (paA p.pos (Lx.S p.name) p.ty.elem p.ty.len p.ty.label p.out).toList)]) : St X w0 w [x, ownI 53 6 v' m ((ps ++ [p]).flatMap paL)] := by
  have h2 := h.sel [0, 1] rfl
  rw [List.flatMap_append, List.flatMap_cons, List.flatMap_nil, List.append_nil]
  exact h2
theorem psLen {w : World} {P : Nat → Prop} {v : Value} {ps : List Sx.Pa} (h : (psI v ps).on w P) : ∃ q cap, v = .slice q ps.length cap := own_len h
def LP (b : Nat) (L : List Lx.Tok) (r : List Sx.Pa × Sx.R) (e : Ending) (J : List It) : Prop :=
  ∃ (q : Option Addr) (l c : Nat) (ps : List Sx.Pa), e = .returned (.slice q l c) ∧ J = [rd b L r.2, psI (.slice q l c) ps] ∧ (r.2.err = 0 → r.1 = ps)
set_option maxHeartbeats 8000000 in
set_option maxRecDepth 100000 in
theorem list_params (b : Nat) (L : List Lx.Tok) (hL : Sx.Ok L) (σ : Sx.R) (mo : Int) (hmo : mo = 65536) :
    Fn 30 #[.pointer (some ⟨b, 0, none⟩), .int .i64 0, .int .i64 mo, .func (.func 31) #[.pointer (some ⟨b, 0, none⟩)] #[]] [rd b L σ]
    (LP b L ((Sx.PA L 0 (Sx.nest L [40] σ)).1, Sx.unnest L [41] (Sx.PA L 0 (Sx.nest L [40] σ)).2)) := by
  intro w P hP h0
  have HS := Lib.hid (St.start hP h0)
  have C1 := Lib.hid (open_fn b L hL σ [40] (by decide))
  have hop : (Sx.nest L [40] σ).opn = σ.opn + 1 := Sx.op_nest L [40] σ
  have ho0 := HS.out.opn0
  have herr0 : (Sx.nest L [40] σ).err = 0 → σ.err = 0 := fun h => Sx.nest_err hL (by decide) h
  have hat1 : (Sx.nest L [40] σ).err = 0 → 0 + 1 ≤ (Sx.nest L [40] σ).at' := fun h => by rw [Sx.nest_at hL (by decide) h]; omega
  generalize Sx.nest L [40] σ = σ1 at C1 hop herr0 hat1 ⊢
  have HG := Lib.hid (And.intro hop (And.intro ho0 (And.intro herr0 hat1)))
  have HL := Lib.hid hL
  have HMO := Lib.hid hmo
  clear h0 hP hL hop ho0 herr0 hat1 hmo
  go_enter Tryd.func30, Tryd.ntmps30
  go_wp2_with (first
    | (go_at_call 46; refine (HS.out.call1 C1.out).mono ?_; rintro e w1 ⟨J, ⟨rfl, rfl⟩, hs⟩; simp only [List.cons_append, List.nil_append] at hs; have HS1 := Lib.hid hs; clear hs))
  obtain ⟨N, hN⟩ : ∃ N : Nat, N = 65537 := ⟨_, rfl⟩
  have HNN := Lib.hid hN
  clear hN
  go_loopw [9] (fun v wr => ∃ (k : Nat) (ps : List Sx.Pa) (τ : Sx.R), k ≤ N ∧ lenOf v = k ∧ Hid (ps.length = k ∧ St P w wr [rd b L τ, ownI 53 6 v k (ps.flatMap paL)] ∧ τ.opn = σ.opn + 1 ∧ (τ.err = 0 → σ.err = 0) ∧ (τ.err = 0 → k + 1 ≤ τ.at') ∧ Sx.unnest L [41] (Sx.PA L 0 σ1).2 = Sx.unnest L [41] (Sx.PA L k τ).2 ∧ ((Sx.unnest L [41] (Sx.PA L k τ).2).err = 0 → (Sx.PA L 0 σ1).1 = ps ++ (Sx.PA L k τ).1))) (fun v _ => N + 1 - lenOf v)
  case atStart =>
    refine ⟨0, [], σ1, Nat.zero_le _, rfl, Lib.hid ⟨rfl, HS1.out.to fun P h => h.under fun P h => ?_, HG.out.1, HG.out.2.2.1, HG.out.2.2.2, rfl, fun _ => rfl⟩⟩
    exact Sep.emp h ⟨World.ownsRow_nil _ _ _ _, fun g hg => by cases hg⟩
  case round =>
    obtain ⟨k, ps, τ, hk, hlen, HK⟩ := hrel
    obtain ⟨q, cap, rfl⟩ := HK.out.2.1.ownLen 1 rfl
    have HST := Lib.hid HK.out.2.1
    have hat := HST.out.at'
    have C2 := Lib.hid (failed_fn b L τ)
    have C5 := Lib.hid (is_fn b L HL.out τ [41] (by decide))
    have HAT := Lib.hid hat
    have hkd0 : decide ((k : Int) < 0) = false := decide_eq_false (by omega)
    by_cases he : τ.err = 0 ∧ Sx.sees L [41] τ = false
    · obtain ⟨he, hse⟩ := he
      rw [decide_eq_false (p := τ.err ≠ 0) (by simpa using he)] at C2
      rw [hse] at C5
      have hkb : k < 65536 := by
        have h1 := HK.out.2.2.2.2.1 he
        have h2 := HL.out.len
        omega
      have C3 := Lib.hid (want_fn b L HL.out τ [44] (by decide))
      have hle : Sx.Le L τ (if decide (k = 0) = true then τ else Sx.eat L [44] τ) := by
        split
        · exact Sx.Le.refl _ _
        · exact Sx.le_eat HL.out.ends [44] (by decide) τ
      have hopt : (if decide (k = 0) = true then τ else Sx.eat L [44] τ).opn = τ.opn := by
        split
        · rfl
        · exact Sx.op_eat L [44] τ
      have hs1 := Sx.PA_step HL.out.ends k hat he hse
      have hkI : (k : Int) < mo := by have := HMO.out; omega
      have hnm : k < nMax := by unfold nMax; omega
      have HN := Lib.hid hs1
      have HLe := Lib.hid hle
      have HOp := Lib.hid hopt
      have HHe := Lib.hid he
      have HKB := Lib.hid hkb
      clear hs1 hle hopt he hse hat hk hkb
      by_cases hk0 : k = 0
      · subst hk0
        rw [if_pos (by decide)] at HN HLe HOp
        have CX := Lib.hid (param_fn b L HL.out τ)
        have hkz : ¬ (0 : Int) < ((0 : Nat) : Int) := by omega
        go_wp2_with (first
          | (go_at_call 11; refine (HST.out.call1 C2.out).mono ?_; rintro e w2 ⟨J, ⟨rfl, rfl⟩, hs⟩; simp only [List.cons_append, List.nil_append] at hs; have HS2 := Lib.hid hs; clear hs)
          | (go_at_call 47; refine (HS2.out.call1 C5.out).mono ?_; rintro e w3 ⟨J, ⟨rfl, rfl⟩, hs⟩; simp only [List.cons_append, List.nil_append] at hs; have HS3 := Lib.hid hs; clear hs)
          | (go_at_call 31; refine (HS3.out.call1 CX.out).mono ?_; rintro e w4 ⟨J, ⟨rfl, rfl⟩, hs⟩; simp only [List.cons_append, List.nil_append] at hs; have HS4 := Lib.hid hs; clear hs)
          | (refine wpl_slice HS4.out rfl Tryd.underlying32 (paB _ _ _ _ _ _) ?_; intro b5 w5 HS5)
          | (refine wpl_append HS5.out 2 1 rfl rfl rfl Tryd.underlying32 paEl rfl (paOne _ _ _ _ _ _) hnm ?_; intro v3 w6 hs h13; obtain ⟨q3, cap3, rfl⟩ := hs.out.ownLen 2 rfl; have HS6 := Lib.hid (show St _ _ _ (_ :: _ :: _ :: []) from hs.out); clear hs))
        refine ⟨⟨0 + 1, ps ++ [(Sx.param L τ).1], (Sx.param L τ).2, ?_, ?_, Lib.hid ⟨?_, HS6.out.pushP, ?_, ?_, ?_, ?_, ?_⟩⟩, ?_⟩
        · have := HKB.out; have := HNN.out; omega
        · rfl
        · rw [List.length_append, HK.out.1]; rfl
        · rw [Sx.op_param]; first | exact HK.out.2.2.1 | (rw [HOp.out]; exact HK.out.2.2.1)
        · exact fun _ => HK.out.2.2.2.1 HHe.out
        · intro hz
          have h1 := Sx.param_at HL.out.ends (HLe.out.2.2.1 HAT.out) hz
          have h2 := HLe.out.1
          have h3 := HK.out.2.2.2.2.1 HHe.out
          omega
        · rw [HK.out.2.2.2.2.2.1]; exact HN.out.1
        · intro hz
          rw [HK.out.2.2.2.2.2.2 (by rw [HN.out.1]; exact hz), HN.out.2 hz, List.append_assoc]; rfl
        · show N + 1 - lenOf _ < _
          have := HKB.out
          have := HNN.out
          simp only [lenOf]
          omega
      · have hkz : (0 : Int) < (k : Int) := by omega
        rw [if_neg (by simpa using hk0)] at HN HLe HOp
        have CX := Lib.hid (param_fn b L HL.out (Sx.eat L [44] τ))
        go_wp2_with (first
          | (go_at_call 11; refine (HST.out.call1 C2.out).mono ?_; rintro e w2 ⟨J, ⟨rfl, rfl⟩, hs⟩; simp only [List.cons_append, List.nil_append] at hs; have HS2 := Lib.hid hs; clear hs)
          | (go_at_call 47; refine (HS2.out.call1 C5.out).mono ?_; rintro e w3 ⟨J, ⟨rfl, rfl⟩, hs⟩; simp only [List.cons_append, List.nil_append] at hs; have HS3 := Lib.hid hs; clear hs)
          | (go_at_call 28; refine (HS3.out.call1 C3.out).mono ?_; rintro e w7 ⟨J, ⟨rfl, rfl⟩, hs⟩; simp only [List.cons_append, List.nil_append] at hs; have HS7 := Lib.hid hs; clear hs)
          | (go_at_call 31; refine (HS7.out.call1 CX.out).mono ?_; rintro e w4 ⟨J, ⟨rfl, rfl⟩, hs⟩; simp only [List.cons_append, List.nil_append] at hs; have HS4 := Lib.hid hs; clear hs)
          | (refine wpl_slice HS4.out rfl Tryd.underlying32 (paB _ _ _ _ _ _) ?_; intro b5 w5 HS5)
          | (refine wpl_append HS5.out 2 1 rfl rfl rfl Tryd.underlying32 paEl rfl (paOne _ _ _ _ _ _) hnm ?_; intro v3 w6 hs h13; obtain ⟨q3, cap3, rfl⟩ := hs.out.ownLen 2 rfl; have HS6 := Lib.hid (show St _ _ _ (_ :: _ :: _ :: []) from hs.out); clear hs))
        refine ⟨⟨k + 1, ps ++ [(Sx.param L (Sx.eat L [44] τ)).1], (Sx.param L (Sx.eat L [44] τ)).2, ?_, ?_, Lib.hid ⟨?_, HS6.out.pushP, ?_, ?_, ?_, ?_, ?_⟩⟩, ?_⟩
        · have := HKB.out; have := HNN.out; omega
        · rfl
        · rw [List.length_append, HK.out.1]; rfl
        · rw [Sx.op_param]; first | exact HK.out.2.2.1 | (rw [HOp.out]; exact HK.out.2.2.1)
        · exact fun _ => HK.out.2.2.2.1 HHe.out
        · intro hz
          have h1 := Sx.param_at HL.out.ends (HLe.out.2.2.1 HAT.out) hz
          have h2 := HLe.out.1
          have h3 := HK.out.2.2.2.2.1 HHe.out
          omega
        · rw [HK.out.2.2.2.2.2.1]; exact HN.out.1
        · intro hz
          rw [HK.out.2.2.2.2.2.2 (by rw [HN.out.1]; exact hz), HN.out.2 hz, List.append_assoc]; rfl
        · show N + 1 - lenOf _ < _
          have := HKB.out
          have := HNN.out
          simp only [lenOf]
          omega
    · have hex : τ.err ≠ 0 ∨ Sx.sees L [41] τ = true := by
        by_cases h1 : τ.err = 0
        · cases h2 : Sx.sees L [41] τ
          · exact absurd ⟨h1, h2⟩ he
          · exact Or.inr rfl
        · exact Or.inl h1
      have hfx := Sx.PA_exit HL.out.ends k hat hex
      have hT0 := HK.out.2.2
      have hfin : Sx.unnest L [41] (Sx.PA L 0 σ1).2 = Sx.unnest L [41] τ := by rw [hT0.2.2.2.1, hfx.1]
      have hval : (Sx.unnest L [41] τ).err = 0 → (Sx.PA L 0 σ1).1 = ps := fun h => by
        rw [hT0.2.2.2.2 (by rw [hfx.1]; exact h), hfx.2 (Sx.unnest_err h), List.append_nil]
      have C4 := Lib.hid (shut_fn b L HL.out τ [41] (by decide) (fun h => by
        have h1 : τ.err = 0 := Sx.unnest_err (s := [41]) h
        have h2 := HG.out.2.1 (hT0.2.1 h1)
        rw [hT0.1]; omega))
      have HF := Lib.hid hfin
      have HV := Lib.hid hval
      have HLN := Lib.hid HK.out.1
      have hkb : τ.err = 0 → k < 65536 := fun he => by
        have h1 := HK.out.2.2.2.2.1 he
        have h2 := HL.out.len
        omega
      clear hfin hval hfx hT0 he
      by_cases h1 : τ.err = 0
      · rw [decide_eq_false (p := τ.err ≠ 0) (by simpa using h1)] at C2
        have hkI : (k : Int) < mo := by have := hkb h1; have := HMO.out; omega
        have h2 : Sx.sees L [41] τ = true := hex.resolve_left (fun h => h h1)
        rw [h2] at C5
        clear HK h1 h2 hex hkb hat hk
        go_wp2_with (first
          | (go_at_call 11; refine (HST.out.call1 C2.out).mono ?_; rintro e w2 ⟨J, ⟨rfl, rfl⟩, hs⟩; simp only [List.cons_append, List.nil_append] at hs; have HS2 := Lib.hid hs; clear hs)
          | (go_at_call 47; refine (HS2.out.call1 C5.out).mono ?_; rintro e w3 ⟨J, ⟨rfl, rfl⟩, hs⟩; simp only [List.cons_append, List.nil_append] at hs; have HS3 := Lib.hid hs; clear hs)
          | (go_at_call 48; refine (HS3.out.call1 C4.out).mono ?_; rintro e w4 ⟨J, ⟨rfl, rfl⟩, hs⟩; simp only [List.cons_append, List.nil_append] at hs; have HS4 := Lib.hid hs; clear hs))
        go_ret
        refine ⟨_, ⟨_, _, _, ps, rfl, rfl, ?_⟩, ?_⟩
        · rw [HF.out]; exact HV.out
        · rw [HF.out]; exact HS4.out.to fun P h => by unfold psI; rw [HLN.out]; exact h
      · rw [decide_eq_true (p := τ.err ≠ 0) h1] at C2
        clear HK h1 hex hkb hat hk
        go_wp2_with (first
          | (go_at_call 11; refine (HST.out.call1 C2.out).mono ?_; rintro e w2 ⟨J, ⟨rfl, rfl⟩, hs⟩; simp only [List.cons_append, List.nil_append] at hs; have HS2 := Lib.hid hs; clear hs)
          | (go_at_call 48; refine (HS2.out.call1 C4.out).mono ?_; rintro e w4 ⟨J, ⟨rfl, rfl⟩, hs⟩; simp only [List.cons_append, List.nil_append] at hs; have HS4 := Lib.hid hs; clear hs))
        go_ret
        refine ⟨_, ⟨_, _, _, ps, rfl, rfl, ?_⟩, ?_⟩
        · rw [HF.out]; exact HV.out
        · rw [HF.out]; exact HS4.out.to fun P h => by unfold psI; rw [HLN.out]; exact h
end Go.Proofs.YtbnhegipdfkdgaaDoor
