/-
  What strings.Cut returns at a line's end, and lex's unparted.
-/
import Derived.Test.YtknbnfnibdbokaaDoorLxL
import Derived.Test.YtknbnfnibdbokaaDoorLxN
namespace Go.Proofs.YtknbnfnibdbokaaDoor
open Go.ChangeShapes Go.WideShapes Go.ChangeAt Go.RowKit
set_option linter.unusedVariables false
set_option linter.unusedSimpArgs false

theorem below_drewN {B : Nat} {a w : World} (h : Below B a w) (n : Nat) : Below B a (w.drewN n) := ⟨h.os, h.tape, h.output, h.size, h.block⟩
theorem ext_rest (s : ByteArray) (i : Nat) : s.extract i s.size = Lx.S (s.data.toList.drop i) := by
  rw [Lx.S_ext, List.take_of_length_le (by rw [List.length_drop, Lib.size_eq]; exact Nat.le_refl _)]
set_option maxHeartbeats 4000000 in
theorem index_any (s : ByteArray) (w : World) :
    Calls Tryd.prog 43 #[.string s, .string ⟨#[10]⟩] w fun e w' => e = .returned (.int .i64 (Lib.indexByte s.data.toList 10)) ∧ w' = w := by
  have C := Lib.hid fun w => sixb_any s 10 w
  cases hq : (([10] : List UInt8) == s.toList)
  · go_enter Tryd.func43, Tryd.ntmps43
    go_wp2_with (first
      | (go_at_call 48; refine (C.out _).mono ?_; rintro e w' ⟨rfl, rfl⟩)
      | go_in)
    go_ret
    exact ⟨rfl, rfl⟩
  · have HQ : Hid (s.data.toList = [10]) := Lib.hid (by
      have h := (eq_of_beq hq).symm
      rwa [Lib.toList_data] at h)
    go_enter Tryd.func43, Tryd.ntmps43
    go_wp2_with (first
      | (go_at_call 48; refine (C.out _).mono ?_; rintro e w' ⟨rfl, rfl⟩)
      | go_in)
    go_ret
    exact ⟨by rw [HQ.out]; rfl, rfl⟩
set_option maxHeartbeats 4000000 in
theorem scut_any (s : ByteArray) (hs : s.size ≤ 281474976710656) (w : World) :
    Calls Tryd.prog 36 #[.string s, .string ⟨#[10]⟩] w fun e w' => (∃ (b : ByteArray) (f : Bool), e = .returned (.tuple #[.string b, .string (Lx.S (Lx.aft s.data.toList)), .bool f])) ∧ Below w.heap.size w w' := by
  have C := Lib.hid fun w => index_any s w
  rcases Lx.ixb s.data.toList with ⟨h1, h2⟩ | ⟨i, h1, h2, h3⟩
  · have H2 := Lib.hid h2
    rw [h1] at C
    clear h1 h2
    go_enter Tryd.func36, Tryd.ntmps36
    go_wp2_with (first
      | (go_at_call 43; refine (C.out _).mono ?_; rintro e w' ⟨rfl, rfl⟩))
    go_ret3
    refine ⟨⟨s, false, ?_⟩, by go_grown⟩
    rw [H2.out]; rfl
  · rw [← Lib.size_eq] at h2
    have H3 := Lib.hid h3
    rw [h1] at C
    clear h1 h3
    go_enter Tryd.func36, Tryd.ntmps36
    go_wp2_with (first
      | (go_at_call 43; refine (C.out _).mono ?_; rintro e w' ⟨rfl, rfl⟩))
    go_quiet (fail)
    go_wp2
    go_ret3
    refine ⟨⟨s.extract 0 i, true, ?_⟩, below_drewN (Below.refl _ _) _⟩
    rw [H3.out, ← ext_rest]; rfl
theorem cut_any (s : ByteArray) (hs : s.size ≤ 281474976710656) (w : World) :
    Calls Tryd.prog 19 #[.string s, .string ⟨#[10]⟩] w fun e w' => (∃ (b : ByteArray) (f : Bool), e = .returned (.tuple #[.string b, .string (Lx.S (Lx.aft s.data.toList)), .bool f])) ∧ Below w.heap.size w w' := by
  have C := Lib.hid fun w => scut_any s hs w
  clear hs
  go_enter Tryd.func19, Tryd.ntmps19
  go_wp2_with (first
    | (go_at_call 36; refine (C.out _).mono ?_; rintro e w1 ⟨⟨b, f, rfl⟩, hb1⟩))
  go_ret3
  exact ⟨⟨b, f, rfl⟩, hb1⟩
theorem S_pre (s : ByteArray) (l : List UInt8) (h : s = Lx.S l) : s.data.toList = l := by rw [h]; rfl
set_option maxHeartbeats 4000000 in
theorem unparted_any (s : ByteArray) (hs : s.size ≤ 281474976710656) (w : World) :
    Calls Tryd.prog 12 #[.string s] w fun e w' => e = .returned (.string (Lx.S (Lx.left s.data.toList))) ∧ Below w.heap.size w w' := by
  obtain ⟨l, hl⟩ : ∃ l, s.data.toList = l := ⟨_, rfl⟩
  have hsz := Lib.size_eq s
  rw [hl] at hsz ⊢
  obtain rfl : s = Lx.S l := by rw [← hl]; exact (Lx.S_of s).symm
  clear hl
  rw [hsz] at hs
  clear hsz
  have HS := Lib.hid hs
  clear hs
  go_enter Tryd.func12, Tryd.ntmps12
  go_wp2
  go_loopw [0] (fun v wr => ∃ m : List UInt8, v = .string (Lx.S m) ∧ Hid (Lx.left m = Lx.left l ∧ m.length ≤ l.length) ∧ Below w.heap.size w wr) (fun v _ => Lib.strSize v)
  case atStart => exact ⟨l, rfl, Lib.hid ⟨rfl, Nat.le_refl _⟩, Below.refl _ _⟩
  case round =>
    obtain ⟨m, rfl, HM, hB⟩ := hrel
    obtain ⟨d, hd⟩ : ∃ d, m.dropWhile Lx.blank = d := ⟨_, rfl⟩
    have HD := Lib.hid hd
    have hsm := HS.out
    have hml := HM.out.2
    have hdl : d.length ≤ m.length := by rw [← hd]; exact Lx.trim_le m
    have C1 := Lib.hid fun w => trim_any (Lx.S m) w
    rw [Lx.S_list, hd] at C1
    have C2 := Lib.hid fun w => pre_any (Lx.S d) ⟨#[47, 47]⟩ w
    have C3 := Lib.hid fun w => cut_any (Lx.S d) (by rw [Lx.S_size]; omega) w
    rw [Lx.S_list] at C2 C3
    clear hd
    have HL := Lib.hid hdl
    clear hdl hml hsm
    cases hp : ([47, 47] : List UInt8).isPrefixOf d
    · have HP := Lib.hid hp
      rw [hp] at C2
      clear hp
      go_wp2_with (first
        | (go_at_call 17; refine (C1.out _).mono ?_; rintro e w1 ⟨rfl, hb1⟩)
        | (go_at_call 18; refine (C2.out _).mono ?_; rintro e w2 ⟨rfl, rfl⟩)
        | (go_at_call 19; refine (C3.out _).mono ?_; rintro e w3 ⟨⟨b, f, rfl⟩, hb3⟩))
      go_ret
      refine ⟨?_, hB.trans (hb1.mono hB.size)⟩
      have h1 := Lx.left_stop d (fun c r h => Lx.trim_head m c r (HD.out.trans h)) HP.out
      have h2 := Lx.left_trim m
      rw [HD.out, h1] at h2
      rw [← HM.out.1, ← h2]
      rfl
    · have HP := Lib.hid hp
      rw [hp] at C2
      clear hp
      go_wp2_with (first
        | (go_at_call 17; refine (C1.out _).mono ?_; rintro e w1 ⟨rfl, hb1⟩)
        | (go_at_call 18; refine (C2.out _).mono ?_; rintro e w2 ⟨rfl, rfl⟩)
        | (go_at_call 19; refine (C3.out _).mono ?_; rintro e w3 ⟨⟨b, f, rfl⟩, hb3⟩))
      obtain ⟨r, hr⟩ := Lx.pre_two HP.out
      have ha := Lx.aft_le r
      have hd := HL.out
      rw [hr] at hd
      simp only [List.length_cons] at hd
      have he : Lx.aft d = Lx.aft r := by rw [hr, Lx.aft, if_neg (by decide), Lx.aft, if_neg (by decide)]
      have hBB := hB.trans (hb1.mono hB.size)
      refine ⟨⟨Lx.aft d, rfl, Lib.hid ⟨?_, ?_⟩, hBB.trans (hb3.mono hBB.size)⟩, ?_⟩
      · have h2 := Lx.left_trim m
        rw [HD.out] at h2
        rw [← HM.out.1, ← h2, hr, Lx.left_two]
      · have := HM.out.2
        rw [he]; omega
      · rw [Lib.strSize_string, Lib.strSize_string, Lx.S_size, Lx.S_size, he]; omega
end Go.Proofs.YtknbnfnibdbokaaDoor
