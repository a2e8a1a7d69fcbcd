/-
What strings.Cut returns at a line's end, and lex's unparted.
Plain mathematics of layer 12, third part: more fuel than serves changes nothing.
-/
import Derived.Test.YtbnhegipdfkdgaaDoorP03a
import Derived.Test.YtbnhegipdfkdgaaDoorP02a
section
namespace Go.Proofs.YtbnhegipdfkdgaaDoor
open Go.ChangeShapes Go.WideShapes Go.ChangeAt Go.RowKit
set_option linter.unusedVariables false
set_option linter.unusedSimpArgs false

theorem below_drewN {B : Nat} {a w : World} (h : Below B a w) (n : Nat) : Below B a (w.drewN n) := ⟨h.os, h.tape, h.output, h.size, h.block⟩
theorem ext_rest (s : ByteArray) (i : Nat) : s.extract i s.size = Lx.S (s.data.toList.drop i) := by
  rw [Lx.S_ext, List.take_of_length_le (by rw [List.length_drop, Lib.size_eq]; exact Nat.le_refl _)]
set_option maxHeartbeats 4000000 in
theorem index_any (s : ByteArray) (w : World) :
    Calls Tryd.prog 54 #[.string s, .string ⟨#[10]⟩] w fun e w' => e = .returned (.int .i64 (Lib.indexByte s.data.toList 10)) ∧ w' = w := by
  have C := Lib.hid fun w => sixb_any s 10 w
  cases hq : (([10] : List UInt8) == s.toList)
  · go_enter Tryd.func54, Tryd.ntmps54
    go_wp2_with (first
      | (go_at_call 66; refine (C.out _).mono ?_; rintro e w' ⟨rfl, rfl⟩)
      | go_in)
    go_ret
    exact ⟨rfl, rfl⟩
  · have HQ : Hid (s.data.toList = [10]) := Lib.hid (by
      have h := (eq_of_beq hq).symm
      rwa [Lib.toList_data] at h)
    go_enter Tryd.func54, Tryd.ntmps54
    go_wp2_with (first
      | (go_at_call 66; refine (C.out _).mono ?_; rintro e w' ⟨rfl, rfl⟩)
      | go_in)
    go_ret
    exact ⟨by rw [HQ.out]; rfl, rfl⟩
set_option maxHeartbeats 4000000 in
theorem scut_any (s : ByteArray) (hs : s.size ≤ 281474976710656) (w : World) :
    Calls Tryd.prog 41 #[.string s, .string ⟨#[10]⟩] w fun e w' => (∃ (b : ByteArray) (f : Bool), e = .returned (.tuple #[.string b, .string (Lx.S (Lx.aft s.data.toList)), .bool f])) ∧ Below w.heap.size w w' := by
  have C := Lib.hid fun w => index_any s w
  rcases Lx.ixb s.data.toList with ⟨h1, h2⟩ | ⟨i, h1, h2, h3⟩
  · have H2 := Lib.hid h2
    rw [h1] at C
    clear h1 h2
    go_enter Tryd.func41, Tryd.ntmps41
    go_wp2_with (first
      | (go_at_call 54; refine (C.out _).mono ?_; rintro e w' ⟨rfl, rfl⟩))
    go_ret3
    refine ⟨⟨s, false, ?_⟩, by go_grown⟩
    rw [H2.out]; rfl
  · rw [← Lib.size_eq] at h2
    have H3 := Lib.hid h3
    rw [h1] at C
    clear h1 h3
    go_enter Tryd.func41, Tryd.ntmps41
    go_wp2_with (first
      | (go_at_call 54; refine (C.out _).mono ?_; rintro e w' ⟨rfl, rfl⟩))
    go_quiet (fail)
    go_wp2
    go_ret3
    refine ⟨⟨s.extract 0 i, true, ?_⟩, below_drewN (Below.refl _ _) _⟩
    rw [H3.out, ← ext_rest]; rfl
theorem cut_any (s : ByteArray) (hs : s.size ≤ 281474976710656) (w : World) :
    Calls Tryd.prog 22 #[.string s, .string ⟨#[10]⟩] w fun e w' => (∃ (b : ByteArray) (f : Bool), e = .returned (.tuple #[.string b, .string (Lx.S (Lx.aft s.data.toList)), .bool f])) ∧ Below w.heap.size w w' := by
  have C := Lib.hid fun w => scut_any s hs w
  clear hs
  go_enter Tryd.func22, Tryd.ntmps22
  go_wp2_with (first
    | (go_at_call 41; refine (C.out _).mono ?_; rintro e w1 ⟨⟨b, f, rfl⟩, hb1⟩))
  go_ret3
  exact ⟨⟨b, f, rfl⟩, hb1⟩
theorem S_pre (s : ByteArray) (l : List UInt8) (h : s = Lx.S l) : s.data.toList = l := by rw [h]; rfl
set_option maxHeartbeats 4000000 in
theorem unparted_any (s : ByteArray) (hs : s.size ≤ 281474976710656) (w : World) :
    Calls Tryd.prog 14 #[.string s] w fun e w' => e = .returned (.string (Lx.S (Lx.left s.data.toList))) ∧ Below w.heap.size w w' := by
  obtain ⟨l, hl⟩ : ∃ l, s.data.toList = l := ⟨_, rfl⟩
  have hsz := Lib.size_eq s
  rw [hl] at hsz ⊢
  obtain rfl : s = Lx.S l := by rw [← hl]; exact (Lx.S_of s).symm
  clear hl
  rw [hsz] at hs
  clear hsz
  have HS := Lib.hid hs
  clear hs
  go_enter Tryd.func14, Tryd.ntmps14
  go_wp2
  go_loopw [0] (fun v wr => ∃ m : List UInt8, v = .string (Lx.S m) ∧ Hid (Lx.left m = Lx.left l ∧ m.length ≤ l.length) ∧ Below w.heap.size w wr) (fun v _ => Lib.strSize v)
  case atStart => exact ⟨l, rfl, Lib.hid ⟨rfl, Nat.le_refl _⟩, Below.refl _ _⟩
  case round =>
    obtain ⟨m, rfl, HM, hB⟩ := hrel
    obtain ⟨d, hd⟩ : ∃ d, m.dropWhile Lx.blank = d := ⟨_, rfl⟩
    have HD := Lib.hid hd
    have hsm := HS.out
    have hml := HM.out.2
    have hdl : d.length ≤ m.length := by rw [← hd]; exact Lx.trim_le m
    have C1 := Lib.hid fun w => trim_any (Lx.S m) w
    rw [Lx.S_list, hd] at C1
    have C2 := Lib.hid fun w => pre_any (Lx.S d) ⟨#[47, 47]⟩ w
    have C3 := Lib.hid fun w => cut_any (Lx.S d) (by rw [Lx.S_size]; omega) w
    rw [Lx.S_list] at C2 C3
    clear hd
    have HL := Lib.hid hdl
    clear hdl hml hsm
    cases hp : ([47, 47] : List UInt8).isPrefixOf d
    · have HP := Lib.hid hp
      rw [hp] at C2
      clear hp
      go_wp2_with (first
        | (go_at_call 20; refine (C1.out _).mono ?_; rintro e w1 ⟨rfl, hb1⟩)
        | (go_at_call 21; refine (C2.out _).mono ?_; rintro e w2 ⟨rfl, rfl⟩)
        | (go_at_call 22; refine (C3.out _).mono ?_; rintro e w3 ⟨⟨b, f, rfl⟩, hb3⟩))
      go_ret
      refine ⟨?_, hB.trans (hb1.mono hB.size)⟩
      have h1 := Lx.left_stop d (fun c r h => Lx.trim_head m c r (HD.out.trans h)) HP.out
      have h2 := Lx.left_trim m
      rw [HD.out, h1] at h2
      rw [← HM.out.1, ← h2]
      rfl
    · have HP := Lib.hid hp
      rw [hp] at C2
      clear hp
      go_wp2_with (first
        | (go_at_call 20; refine (C1.out _).mono ?_; rintro e w1 ⟨rfl, hb1⟩)
        | (go_at_call 21; refine (C2.out _).mono ?_; rintro e w2 ⟨rfl, rfl⟩)
        | (go_at_call 22; refine (C3.out _).mono ?_; rintro e w3 ⟨⟨b, f, rfl⟩, hb3⟩))
      obtain ⟨r, hr⟩ := Lx.pre_two HP.out
      have ha := Lx.aft_le r
      have hd := HL.out
      rw [hr] at hd
      simp only [List.length_cons] at hd
      have he : Lx.aft d = Lx.aft r := by rw [hr, Lx.aft, if_neg (by decide), Lx.aft, if_neg (by decide)]
      have hBB := hB.trans (hb1.mono hB.size)
      refine ⟨⟨Lx.aft d, rfl, Lib.hid ⟨?_, ?_⟩, hBB.trans (hb3.mono hBB.size)⟩, ?_⟩
      · have h2 := Lx.left_trim m
        rw [HD.out] at h2
        rw [← HM.out.1, ← h2, hr, Lx.left_two]
      · have := HM.out.2
        rw [he]; omega
      · rw [Lib.strSize_string, Lib.strSize_string, Lx.S_size, Lx.S_size, he]; omega
end Go.Proofs.YtbnhegipdfkdgaaDoor
end
section
set_option linter.unusedVariables false
set_option linter.unusedSimpArgs false
namespace Go.Proofs.YtbnhegipdfkdgaaDoor

theorem Sx.wordsE_three {s : List UInt8} {w : List UInt8 × Int × Nat} (h : Sx.wordsE.find? (fun x => x.1 == s) = .some w) : w.2.2 ≤ 3 := by
  have hm := List.mem_of_find?_eq_some h
  have : ∀ x ∈ Sx.wordsE, x.2.2 ≤ 3 := by decide
  exact this w hm
theorem Sx.wordsE_nil : Sx.wordsE.find? (fun x => x.1 == ([] : List UInt8)) = none := by decide
theorem Sx.enough {L : List Lx.Tok} (hL : Sx.Ends L) (f : Nat) :
    (∀ g than σ, σ.at' < L.length → Sx.M L σ + 4 ≤ f → Sx.M L σ + 4 ≤ g → Sx.expr L f than σ = Sx.expr L g than σ) ∧
    (∀ g than most c x σ, σ.at' < L.length → Sx.M L σ + 3 ≤ f → Sx.M L σ + 3 ≤ g → Sx.signs L f than most c x σ = Sx.signs L g than most c x σ) ∧
    (∀ g σ, σ.at' < L.length → Sx.M L σ + 3 ≤ f → Sx.M L σ + 3 ≤ g → Sx.unary L f σ = Sx.unary L g σ) ∧
    (∀ g s σ, σ.at' < L.length → σ.err = 0 → s = Sx.text L σ → Sx.M L σ + 2 ≤ f → Sx.M L σ + 2 ≤ g → Sx.word L f s σ = Sx.word L g s σ) ∧
    (∀ g n b σ, σ.at' < L.length → Sx.M L σ + n + 5 ≤ f → Sx.M L σ + n + 5 ≤ g → Sx.many L f n b σ = Sx.many L g n b σ) ∧
    (∀ g t σ, σ.at' < L.length → Sx.M L σ + 5 ≤ f → Sx.M L σ + 5 ≤ g → Sx.behind L f t σ = Sx.behind L g t σ) ∧
    (∀ g σ, σ.at' < L.length → Sx.M L σ + 5 ≤ f → Sx.M L σ + 5 ≤ g → Sx.commas L f σ = Sx.commas L g σ) := by
  have lE := fun f => (Sx.le_exprs hL f).1
  have lS := fun f => (Sx.le_exprs hL f).2.1
  have lU := fun f => (Sx.le_exprs hL f).2.2.1
  have lM := fun f => (Sx.le_exprs hL f).2.2.2.2.1
  have lB := fun f => (Sx.le_exprs hL f).2.2.2.2.2.1
  have lC := fun f => (Sx.le_exprs hL f).2.2.2.2.2.2
  induction f with
  | zero => refine ⟨?_, ?_, ?_, ?_, ?_, ?_, ?_⟩ <;> intros <;> omega
  | succ f ih =>
    obtain ⟨iE, iS, iU, iW, iM, iB, iC⟩ := ih
    refine ⟨fun g than σ hi hf hg => ?_, fun g than most c x σ hi hf hg => ?_, fun g σ hi hf hg => ?_, fun g s σ hi he hs hf hg => ?_, fun g n b σ hi hf hg => ?_, fun g t σ hi hf hg => ?_, fun g σ hi hf hg => ?_⟩
    · obtain ⟨g, rfl⟩ : ∃ k, g = k + 1 := ⟨g - 1, by omega⟩
      rw [Sx.expr, Sx.expr]
      have h1 := lU g σ
      have h2 := Sx.M_le h1
      rw [iU g σ hi (by omega) (by omega), iS g than 7 false _ _ (h1.2.2.1 hi) (by omega) (by omega)]
    · obtain ⟨g, rfl⟩ : ∃ k, g = k + 1 := ⟨g - 1, by omega⟩
      rw [Sx.signs, Sx.signs]
      split
      · rfl
      · rename_i he
        have he0 : σ.err = 0 := by omega
        simp only []
        split
        · rfl
        · rename_i h2
          have hk := Sx.tight_kind (L := L) (σ := σ) (n := than) (fun h => h2 (Or.inl h))
          have hn := Sx.le_next hL he0 hk
          have hm := Sx.M_next he0 hi
          have hi1 := hn.2.2.1 hi
          split
          · have h3 := Sx.le_some hL 2 (by decide) { σ with at' := σ.at' + 1 }
            have h4 := Sx.M_le h3
            rw [iS g than 5 _ _ _ (h3.2.2.1 hi1) (by omega) (by omega)]
          · have h3 := lE g (Sx.tight (Sx.text L σ)).1 { σ with at' := σ.at' + 1 }
            have h4 := Sx.M_le h3
            rw [iE g _ _ hi1 (by omega) (by omega), iS g than _ _ _ _ (h3.2.2.1 hi1) (by omega) (by omega)]
    · obtain ⟨g, rfl⟩ : ∃ k, g = k + 1 := ⟨g - 1, by omega⟩
      rw [Sx.unary, Sx.unary]
      split
      · rfl
      · rename_i he
        have he0 : σ.err = 0 := by omega
        simp only []
        split
        · have h1 := Sx.le_nest hL [40] (by decide) σ
          have h2 := Sx.M_nest (s := [40]) he0 hi
          rw [iE g 0 _ (h1.2.2.1 hi) (by omega) (by omega)]
        · split
          · rename_i h3
            have hs : Sx.text L σ ≠ [] := by rcases h3 with h | h | h <;> rw [h] <;> decide
            have h1 := Sx.le_nest hL (Sx.text L σ) hs σ
            have h2 := Sx.M_nest (s := Sx.text L σ) he0 hi
            rw [iU g _ (h1.2.2.1 hi) (by omega) (by omega)]
          · exact iW g _ σ hi he0 rfl (by omega) (by omega)
    · obtain ⟨g, rfl⟩ : ∃ k, g = k + 1 := ⟨g - 1, by omega⟩
      rw [Sx.word, Sx.word]
      simp only []
      split
      · rename_i w hw
        have h3 := Sx.wordsE_three hw
        have hne : Sx.text L σ ≠ [] := by
          intro e
          rw [hs, e, Sx.wordsE_nil] at hw; cases hw
        have hn := (Sx.le_next hL he (Sx.text_kind hne)).trans (Sx.le_nest hL [40] (by decide) { σ with at' := σ.at' + 1 })
        have hm := Sx.M_next he hi
        have hm2 := Sx.M_le (Sx.le_nest hL [40] (by decide) { σ with at' := σ.at' + 1 })
        rw [iM g w.2.2 true _ (hn.2.2.1 hi) (by omega) (by omega)]
      · split
        · rfl
        · have h1 := Sx.le_some hL 1 (by decide) σ
          have h2 := Sx.M_some (k := 1) he hi
          rw [iB g _ _ (h1.2.2.1 hi) (by omega) (by omega)]
    · obtain ⟨g, rfl⟩ : ∃ k, g = k + 1 := ⟨g - 1, by omega⟩
      cases n with
      | zero => rw [Sx.many, Sx.many]
      | succ n =>
        rw [Sx.many, Sx.many]
        have h1 : Sx.Le L σ (if b then σ else Sx.eat L [44] σ) := by
          split
          · exact Sx.Le.refl _ _
          · exact Sx.le_eat hL [44] (by decide) σ
        have h2 := Sx.M_le h1
        have hi1 := h1.2.2.1 hi
        have h3 := lE g 0 (if b then σ else Sx.eat L [44] σ)
        have h4 := Sx.M_le h3
        rw [iE g 0 _ hi1 (by omega) (by omega), iM g n false _ (h3.2.2.1 hi1) (by omega) (by omega)]
    · obtain ⟨g, rfl⟩ : ∃ k, g = k + 1 := ⟨g - 1, by omega⟩
      rw [Sx.behind, Sx.behind]
      split
      · rename_i hs
        have he0 := (Sx.sees_text hs).1
        simp only []
        have h1 := Sx.le_nest hL [40] (by decide) σ
        have h2 := Sx.M_nest (s := [40]) he0 hi
        have hi1 := h1.2.2.1 hi
        split
        · rfl
        · have h3 := lE g 0 (Sx.nest L [40] σ)
          have h4 := Sx.M_le h3
          rw [iE g 0 _ hi1 (by omega) (by omega), iC g _ (h3.2.2.1 hi1) (by omega) (by omega)]
      · split
        · rename_i hs
          have he0 := (Sx.sees_text hs).1
          have h1 := Sx.le_nest hL [91] (by decide) σ
          have h2 := Sx.M_nest (s := [91]) he0 hi
          simp only []
          rw [iE g 0 _ (h1.2.2.1 hi) (by omega) (by omega)]
        · rfl
    · obtain ⟨g, rfl⟩ : ∃ k, g = k + 1 := ⟨g - 1, by omega⟩
      rw [Sx.commas, Sx.commas]
      split
      · rename_i hm
        have h1 := Sx.le_may hL [44] (by decide) σ
        have h2 := Sx.M_may hm hi
        have hi1 := h1.2.2.1 hi
        simp only []
        have h3 := lE g 0 (Sx.may L [44] σ).2
        have h4 := Sx.M_le h3
        rw [iE g 0 _ hi1 (by omega) (by omega), iC g _ (h3.2.2.1 hi1) (by omega) (by omega)]
      · rfl
end Go.Proofs.YtbnhegipdfkdgaaDoor
end
