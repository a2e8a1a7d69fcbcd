/-
What list makes of so many expressions in parentheses.
-/
import Derived.Test.YtbnhegipdfkdgaaDoorP19a
import Derived.Test.YtbnhegipdfkdgaaDoorP09a
namespace Go.Proofs.YtbnhegipdfkdgaaDoor
open Go.ChangeShapes Go.WideShapes Go.ChangeAt Go.RowKit
set_option linter.unusedVariables false
set_option linter.unusedSimpArgs false

/-- what a reader of an expression hands back: the expression is right where no error is -/
def EP (b : Nat) (L : List Lx.Tok) (r : Sx.E × Sx.R) (e : Ending) (J : List It) : Prop :=
  ∃ (k p n : Int) (nm : List UInt8) (v : Value) (es : List Sx.E), e = .returned (.agg #[.int .i64 k, .int .i64 p, .int .i64 n, .string (Lx.S nm), v]) ∧ J = [rd b L r.2, lsI v es] ∧ (r.2.err = 0 → r.1 = .mk k p n nm es) ∧ v.oneCell' = true
theorem Sx.nest_err {L : List Lx.Tok} (hL : Sx.Ok L) {s : List UInt8} (hs : s ≠ []) {σ : Sx.R} (h : (Sx.nest L s σ).err = 0) : σ.err = 0 := by
  apply Classical.byContradiction
  intro he
  exact he (((Sx.le_nest hL.ends s hs σ).2.1 he).1.symm.trans h)
def CE (b : Nat) (L : List Lx.Tok) (σ : Sx.R) : Prop := Fn 71 #[.pointer (some ⟨b, 0, none⟩)] [rd b L σ] (EP b L (Sx.X L 0 σ))
abbrev exA (k p n : Int) (nm : List UInt8) (v : Value) : Array Value := #[.int .i64 k, .int .i64 p, .int .i64 n, .string (Lx.S nm), v]
theorem exB (k p n : Int) (nm : List UInt8) (v : Value) : Tryd.prog.builtSlice 44 1 [(0, .agg (exA k p n nm v))] = some (exA k p n nm v) := by kernel_rfl
theorem elI_nil (w : World) (P : Nat → Prop) : (elI [] []).on w P := by show elOn w P [] []; rw [elOn]
theorem exEl : Elem 44 5 := ⟨by decide, ⟨.agg #[.int .i64 0, .int .i64 0, .int .i64 0, .string ⟨#[]⟩, .slice none 0 0], by kernel_rfl, rfl⟩⟩
theorem exT : StructT 44 5 := ⟨⟨_, Tryd.underlying44⟩, by kernel_rfl⟩
theorem exZ : Zero 44 #[.int .i64 0, .int .i64 0, .int .i64 0, .string ⟨#[]⟩, .slice none 0 0] := by unfold Zero; kernel_rfl
theorem exOne {k p n : Int} {s : ByteArray} {v : Value} (h : v.oneCell' = true) : (#[.int .i64 k, .int .i64 p, .int .i64 n, .string s, v] : Array Value).all (·.oneCell') = true := by simp [Value.oneCell'] at h ⊢; exact h
theorem fitsX {k p n : Int} {s : ByteArray} {v : Value} (h : v.oneCell' = true) : Fits 5 #[.int .i64 k, .int .i64 p, .int .i64 n, .string s, v] := ⟨rfl, exOne h⟩
/-- a slice's length -/
def lenOf (v : Value) : Nat := match v with | .slice _ n _ => n | _ => 0
theorem own_len {w : World} {P : Nat → Prop} {t : TypeId} {sz n : Nat} {v : Value} {xs : List Value} (h : OwnP w P t sz v n xs) : ∃ q cap, v = .slice q n cap := by
  rcases h.1.2 with ⟨rfl, rfl⟩ | ⟨g, cap, cur, rfl, _⟩
  · exact ⟨none, 0, rfl⟩
  · exact ⟨_, _, rfl⟩
theorem St.ownLen {X : Nat → Prop} {w0 w : World} {I : List It} (h : St X w0 w I) (i : Nat) {t : TypeId} {sz n : Nat} {v : Value} {xs : List Value} (hi : I[i]? = some (ownI t sz v n xs)) : ∃ q cap, v = .slice q n cap := by
  obtain ⟨A, B, h1, h2, h3, h4, h5⟩ := Sep.pick i h.sep hi
  exact own_len h4
/-- behind an append: the element is among the others -/
theorem St.pushE {X : Nat → Prop} {w0 w : World} {x : It} {I : List It} {b3 m : Nat} {k p n : Int} {nm : List UInt8} {v2 v' : Value} {es2 es : List Sx.E} {xs : List Value}
    (h : St X w0 w (x :: .row b3 44 (exA k p n nm v2) :: lsI v2 es2 :: ownI 44 5 v' m (xs ++ (exA k p n nm v2).toList) :: elI es xs :: I)) :
    St X w0 w (x :: ownI 44 5 v' m (xs ++ (exA k p n nm v2).toList) :: elI (es ++ [.mk k p n nm es2]) (xs ++ (exA k p n nm v2).toList) :: I) :=
  h.to fun P h => h.under fun P h => ((h.drop.swap).under fun P h => elI_more h.swap)
theorem St.opn0 {X : Nat → Prop} {w0 w : World} {b : Nat} {L : List Lx.Tok} {σ : Sx.R} {I : List It} (h : St X w0 w (rd b L σ :: I)) : σ.err = 0 → 0 ≤ σ.opn := by
  obtain ⟨a, cap, c, m, e, p, hr, _⟩ := h.rdOpen
  intro he
  have := hr.hm he
  omega
theorem Sx.unnest_err {L : List Lx.Tok} {s : List UInt8} {σ : Sx.R} (h : (Sx.unnest L s σ).err = 0) : σ.err = 0 := (Sx.unnest_ok h).1
set_option maxHeartbeats 8000000 in
set_option maxRecDepth 100000 in
theorem list_many (b : Nat) (L : List Lx.Tok) (hL : Sx.Ok L) (σ : Sx.R) (n : Nat) (hn : n ≤ 3) (hE : ∀ τ, Sx.M L τ ≤ Sx.M L σ → CE b L τ) :
    Fn 79 #[.pointer (some ⟨b, 0, none⟩), .int .i64 (n : Int), .int .i64 (n : Int), .func (.func 71) #[.pointer (some ⟨b, 0, none⟩)] #[]] [rd b L σ]
    fun e J => ∃ v es, e = .returned v ∧ J = [rd b L (Sx.unnest L [41] (Sx.Mn L n true (Sx.nest L [40] σ)).2), lsI v es] ∧ ((Sx.unnest L [41] (Sx.Mn L n true (Sx.nest L [40] σ)).2).err = 0 → (Sx.Mn L n true (Sx.nest L [40] σ)).1 = es) ∧ v.oneCell' = true := by
  intro w P hP h0
  have HS := Lib.hid (St.start hP h0)
  have C1 := Lib.hid (open_fn b L hL σ [40] (by decide))
  have hMn := Sx.M_le (Sx.le_nest hL.ends [40] (by decide) σ)
  have hop : (Sx.nest L [40] σ).opn = σ.opn + 1 := Sx.op_nest L [40] σ
  have ho0 := HS.out.opn0
  have herr0 : (Sx.nest L [40] σ).err = 0 → σ.err = 0 := fun h => Sx.nest_err hL (by decide) h
  generalize Sx.nest L [40] σ = σ1 at C1 hMn hop herr0 ⊢
  have HG := Lib.hid (And.intro hMn (And.intro hop (And.intro ho0 herr0)))
  have HL := Lib.hid hL
  have HE := Lib.hid hE
  clear h0 hP hL hE hMn hop ho0 herr0
  go_enter Tryd.func79, Tryd.ntmps79
  go_wp2_with (first
    | (go_at_call 46; refine (HS.out.call1 C1.out).mono ?_; rintro e w1 ⟨J, ⟨rfl, rfl⟩, hs⟩; simp only [List.cons_append, List.nil_append] at hs; have HS1 := Lib.hid hs; clear hs))
  go_loopw [9] (fun v wr => ∃ (k : Nat) (es : List Sx.E) (xs : List Value) (τ : Sx.R), k ≤ n ∧ lenOf v = k ∧ Hid (es.length = k ∧ St P w wr [rd b L τ, ownI 44 5 v k xs, elI es xs] ∧ τ.opn = σ.opn + 1 ∧ (τ.err = 0 → σ.err = 0) ∧ Sx.M L τ ≤ Sx.M L σ ∧ (Sx.Mn L n true σ1).2 = (Sx.Mn L (n - k) (decide (k = 0)) τ).2 ∧ (τ.err = 0 → (Sx.Mn L n true σ1).1 = es ++ (Sx.Mn L (n - k) (decide (k = 0)) τ).1))) (fun v _ => n - lenOf v)
  case atStart =>
    refine ⟨0, [], [], σ1, Nat.zero_le _, rfl, Lib.hid ⟨rfl, HS1.out.to fun P h => h.under fun P h => ?_, HG.out.2.1, HG.out.2.2.2, HG.out.1, rfl, fun _ => rfl⟩⟩
    exact Sep.emp (Sep.emp h (elI_nil _ _)) ⟨World.ownsRow_nil _ _ _ _, fun g hg => by cases hg⟩
  case round =>
    obtain ⟨k, es, xs, τ, hk, hlen, HK⟩ := hrel
    obtain ⟨q, cap, rfl⟩ := HK.out.2.1.ownLen 1 rfl
    have HST := Lib.hid HK.out.2.1
    have HT0 := Lib.hid HK.out.2.2.2.2.1
    have hat := HST.out.at'
    have C2 := Lib.hid (failed_fn b L τ)
    have hT0 := HK.out.2.2
    by_cases he : τ.err = 0 ∧ k < n
    · obtain ⟨he, hkn⟩ := he
      rw [decide_eq_false (p := τ.err ≠ 0) (by simpa using he)] at C2
      have C3 := Lib.hid (want_fn b L HL.out τ [44] (by decide))
      have hle : Sx.Le L τ (if decide (k = 0) = true then τ else Sx.eat L [44] τ) := by
        split
        · exact Sx.Le.refl _ _
        · exact Sx.le_eat HL.out.ends [44] (by decide) τ
      have hopt : (if decide (k = 0) = true then τ else Sx.eat L [44] τ).opn = τ.opn := by
        split
        · rfl
        · exact Sx.op_eat L [44] τ
      have hs1 := Sx.Mn_succ HL.out.ends (n - (k + 1)) (decide (k = 0)) hat (by omega)
      rw [show n - (k + 1) + 1 = n - k by omega] at hs1
      have hkI : (k : Int) < (n : Int) := by omega
      have HN := Lib.hid hs1
      have HLe := Lib.hid hle
      have HOp := Lib.hid hopt
      have HHe := Lib.hid he
      have HKN := Lib.hid hkn
      have hnm : k < nMax := by unfold nMax; omega
      clear hs1 hle hopt he hkn hT0
      by_cases hk0 : k = 0
      · subst hk0
        rw [if_pos (by decide)] at HN HLe HOp
        have CX := Lib.hid (HE.out τ HT0.out)
        have hkz : ¬ (0 : Int) < ((0 : Nat) : Int) := by omega
        go_wp2_with (first
          | (go_at_call 11; refine (HST.out.call1 C2.out).mono ?_; rintro e w2 ⟨J, ⟨rfl, rfl⟩, hs⟩; simp only [List.cons_append, List.nil_append] at hs; have HS2 := Lib.hid hs; clear hs)
          | (go_at_call 71; refine (HS2.out.call1 CX.out).mono ?_; rintro e w4 ⟨J, ⟨k2, p2, n2, nm2, v2, es2, rfl, rfl, hx2, h12⟩, hs⟩; simp only [List.cons_append, List.nil_append] at hs; have HS4 := Lib.hid hs; have HX2 := Lib.hid hx2; clear hs hx2)
          | (refine wpl_slice HS4.out rfl Tryd.underlying40 (exB _ _ _ _ _) ?_; intro b5 w5 HS5)
          | (refine wpl_append HS5.out 3 1 rfl rfl rfl Tryd.underlying40 exEl rfl (exOne h12) hnm ?_; intro v3 w6 hs h13; obtain ⟨q3, cap3, rfl⟩ := hs.out.ownLen 3 rfl; have HS6 := Lib.hid (show St _ _ _ (_ :: _ :: _ :: _ :: _ :: []) from hs.out); clear hs))
        refine ⟨⟨0 + 1, es ++ [.mk k2 p2 n2 nm2 es2], xs ++ (exA k2 p2 n2 nm2 v2).toList, (Sx.X L 0 τ).2, HKN.out, ?_, Lib.hid ⟨?_, HS6.out.pushE, ?_, ?_, ?_, ?_, ?_⟩⟩, ?_⟩
        · rfl
        · rw [List.length_append, HK.out.1]; rfl
        · rw [Sx.op_X]; first | exact HK.out.2.2.1 | (rw [HOp.out]; exact HK.out.2.2.1)
        · exact fun _ => HK.out.2.2.2.1 HHe.out
        · exact Nat.le_trans (Sx.M_le (Sx.le_X HL.out.ends 0 _)) (Nat.le_trans (Sx.M_le HLe.out) HT0.out)
        · rw [HK.out.2.2.2.2.2.1, HN.out]; rfl
        · intro hz
          rw [HK.out.2.2.2.2.2.2 HHe.out, HN.out, List.append_assoc, ← HX2.out hz]; rfl
        · show n - lenOf _ < _
          have := HKN.out
          simp only [lenOf]
          omega
      · have hkz : (0 : Int) < (k : Int) := by omega
        rw [if_neg (by simpa using hk0)] at HN HLe HOp
        have CX := Lib.hid (HE.out (Sx.eat L [44] τ) (Nat.le_trans (Sx.M_le HLe.out) HT0.out))
        go_wp2_with (first
          | (go_at_call 11; refine (HST.out.call1 C2.out).mono ?_; rintro e w2 ⟨J, ⟨rfl, rfl⟩, hs⟩; simp only [List.cons_append, List.nil_append] at hs; have HS2 := Lib.hid hs; clear hs)
          | (go_at_call 28; refine (HS2.out.call1 C3.out).mono ?_; rintro e w3 ⟨J, ⟨rfl, rfl⟩, hs⟩; simp only [List.cons_append, List.nil_append] at hs; have HS3 := Lib.hid hs; clear hs)
          | (go_at_call 71; refine (HS3.out.call1 CX.out).mono ?_; rintro e w4 ⟨J, ⟨k2, p2, n2, nm2, v2, es2, rfl, rfl, hx2, h12⟩, hs⟩; simp only [List.cons_append, List.nil_append] at hs; have HS4 := Lib.hid hs; have HX2 := Lib.hid hx2; clear hs hx2)
          | (refine wpl_slice HS4.out rfl Tryd.underlying40 (exB _ _ _ _ _) ?_; intro b5 w5 HS5)
          | (refine wpl_append HS5.out 3 1 rfl rfl rfl Tryd.underlying40 exEl rfl (exOne h12) hnm ?_; intro v3 w6 hs h13; obtain ⟨q3, cap3, rfl⟩ := hs.out.ownLen 3 rfl; have HS6 := Lib.hid (show St _ _ _ (_ :: _ :: _ :: _ :: _ :: []) from hs.out); clear hs))
        refine ⟨⟨k + 1, es ++ [.mk k2 p2 n2 nm2 es2], xs ++ (exA k2 p2 n2 nm2 v2).toList, (Sx.X L 0 (Sx.eat L [44] τ)).2, HKN.out, ?_, Lib.hid ⟨?_, HS6.out.pushE, ?_, ?_, ?_, ?_, ?_⟩⟩, ?_⟩
        · rfl
        · rw [List.length_append, HK.out.1]; rfl
        · rw [Sx.op_X]; first | exact HK.out.2.2.1 | (rw [HOp.out]; exact HK.out.2.2.1)
        · exact fun _ => HK.out.2.2.2.1 HHe.out
        · exact Nat.le_trans (Sx.M_le (Sx.le_X HL.out.ends 0 _)) (Nat.le_trans (Sx.M_le HLe.out) HT0.out)
        · rw [HK.out.2.2.2.2.2.1, HN.out]; rfl
        · intro hz
          rw [HK.out.2.2.2.2.2.2 HHe.out, HN.out, List.append_assoc, ← HX2.out hz]; rfl
        · show n - lenOf _ < _
          have := HKN.out
          simp only [lenOf]
          omega
    · have hfin : (Sx.Mn L n true σ1).2 = τ := by
        rw [hT0.2.2.2.1]
        by_cases h1 : τ.err = 0
        · have h2 : n - k = 0 := by omega
          rw [h2, Sx.Mn_zero HL.out.ends _ hat]
        · exact Sx.Mn_err HL.out.ends _ _ hat (by omega) h1
      have hval : (Sx.unnest L [41] τ).err = 0 → (Sx.Mn L n true σ1).1 = es := fun h => by
        have h1 := Sx.unnest_err h
        have h2 : n - k = 0 := by omega
        rw [hT0.2.2.2.2 h1, h2, Sx.Mn_zero HL.out.ends _ hat, List.append_nil]
      have C4 := Lib.hid (shut_fn b L HL.out τ [41] (by decide) (fun h => by
        have h1 : τ.err = 0 := Sx.unnest_err (s := [41]) h
        have h2 := HG.out.2.2.1 (hT0.2.1 h1)
        rw [hT0.1]; omega))
      have HF := Lib.hid hfin
      have HV := Lib.hid hval
      have HLN := Lib.hid HK.out.1
      clear hfin hval hat hT0
      by_cases h1 : τ.err = 0
      · rw [decide_eq_false (p := τ.err ≠ 0) (by simpa using h1)] at C2
        have hkI : ¬ (k : Int) < (n : Int) := by omega
        clear HK HE HT0 he h1
        go_wp2_with (first
          | (go_at_call 11; refine (HST.out.call1 C2.out).mono ?_; rintro e w2 ⟨J, ⟨rfl, rfl⟩, hs⟩; simp only [List.cons_append, List.nil_append] at hs; have HS2 := Lib.hid hs; clear hs)
          | (go_at_call 48; refine (HS2.out.call1 C4.out).mono ?_; rintro e w3 ⟨J, ⟨rfl, rfl⟩, hs⟩; simp only [List.cons_append, List.nil_append] at hs; have HS3 := Lib.hid hs; clear hs))
        go_ret
        refine ⟨_, ⟨_, es, rfl, rfl, ?_, rfl⟩, ?_⟩
        · rw [HF.out]; exact HV.out
        · rw [HF.out]; exact HS3.out.to fun P h => h.under fun P h => lsI_close HLN.out.symm h
      · rw [decide_eq_true (p := τ.err ≠ 0) h1] at C2
        clear HK HE HT0 he h1
        go_wp2_with (first
          | (go_at_call 11; refine (HST.out.call1 C2.out).mono ?_; rintro e w2 ⟨J, ⟨rfl, rfl⟩, hs⟩; simp only [List.cons_append, List.nil_append] at hs; have HS2 := Lib.hid hs; clear hs)
          | (go_at_call 48; refine (HS2.out.call1 C4.out).mono ?_; rintro e w3 ⟨J, ⟨rfl, rfl⟩, hs⟩; simp only [List.cons_append, List.nil_append] at hs; have HS3 := Lib.hid hs; clear hs))
        go_ret
        refine ⟨_, ⟨_, es, rfl, rfl, ?_, rfl⟩, ?_⟩
        · rw [HF.out]; exact HV.out
        · rw [HF.out]; exact HS3.out.to fun P h => h.under fun P h => lsI_close HLN.out.symm h
end Go.Proofs.YtbnhegipdfkdgaaDoor
