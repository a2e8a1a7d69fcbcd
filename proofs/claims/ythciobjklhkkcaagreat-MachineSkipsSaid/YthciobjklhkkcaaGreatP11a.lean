/-
What package decode's Decode returns.
-/
import Derived.Test.YthciobjklhkkcaaGreatP10a
namespace Go.Proofs.YthciobjklhkkcaaGreat
open Go.ChangeShapes Go.WideShapes Go.ChangeAt Go.RowKit
set_option maxHeartbeats 8000000
set_option maxRecDepth 100000
set_option linter.unusedVariables false

/-- the cells of an instruction that may be written -/
def Open8 (W : World) (b : Nat) : Prop := ∀ o, W.frozen? ⟨b, o, none⟩ = false
theorem open_alloc (w : World) (cs : Array Value) (t : TypeId) : Open8 (w.alloc (.cells cs t)) w.heap.size := fun o => by simp [go_sem]
theorem Open8.below {W w' : World} {b : Nat} (h : Open8 W b) (hb : Below W.heap.size W w') (hlt : b < W.heap.size) : Open8 w' b := fun o => by
 rw [hb.frozen (p := ⟨b, o, none⟩) hlt]; exact h o
theorem ins_drewN {W : World} {b : Nat} {op rd rn rm ra imm cond : Int} {wide : Bool} (h : InsAt W b op rd rn rm ra imm cond wide) (n : Nat) : InsAt (W.drewN n) b op rd rn rm ra imm cond wide := h
theorem Open8.drewN {W : World} {b : Nat} (h : Open8 W b) (n : Nat) : Open8 (W.drewN n) b := h
theorem size_int (s : ByteArray) (Z : Int) (w : World) (hz : Hid ((De.size s : Int) = Z)) (hm : s.size ≤ maxLen) :
  Calls Tryz.prog 107 #[.string s] w fun e w' => e = .returned (.int .i64 Z) ∧ ∃ n, w' = w.drewN n := by
 have := hz.out
 subst this
 exact size_s s w hm
theorem byt_ext (s : ByteArray) (k : Nat) (h : k + 2 < s.size) : De.byt (s.extract 2 s.size) k = De.byt s (k + 2) := by
 have h' : k < (s.extract 2 s.size).size := by simp [ByteArray.size_extract]; omega
 rw [← De.byt_eq _ k h', ← De.byt_eq s (k + 2) h, ByteArray.getElem_extract]
 simp [Nat.add_comm]
theorem half_ext (s : ByteArray) (w : World) (hs : 4 ≤ s.size) (hm : s.size ≤ maxLen) :
  Calls Tryz.prog 108 #[.string (s.extract 2 s.size)] w fun e w' => e = .returned (.int .u32 (De.half s 1 : Int)) ∧ ∃ n, w' = w.drewN n := by
 have e : De.half (s.extract 2 s.size) 0 = De.half s 1 := by unfold De.half; rw [byt_ext s (2 * 0) (by omega), byt_ext s (2 * 0 + 1) (by omega)]
 have := half_any (s.extract 2 s.size) w (by simp [ByteArray.size_extract]; omega) (by simp only [ByteArray.size_extract]; unfold maxLen at *; omega)
 rw [e] at this
 exact this
theorem word_or (a b : Nat) (ha : a < 65536) (hb : b < 65536) : bits .or .u32 ((a : Int) * 65536 % 4294967296) (b : Int) = ((a * 65536 + b : Nat) : Int) := by
 have e : (a : Int) * 65536 % 4294967296 = ((a * 65536 : Nat) : Int) := by omega
 rw [e, De.or_u32 _ _ (by omega) (by omega)]
 have := Th.or_add (a * 65536) b 0 16 hb (by simp)
 simp at this
 rw [this]
theorem dec_short (s : ByteArray) (w : World) (hm : s.size ≤ maxLen) (h : De.size s = 0 ∨ s.size < De.size s) :
  Calls Tryz.prog 84 #[.string s] w fun e w' => e = .returned (.tuple #[.agg #[.int .i64 0, .int .i64 0, .int .i64 0, .int .i64 0, .int .i64 0, .int .i64 0, .int .i64 0, .bool false], .int .i64 0, .int .i64 3]) ∧ Below w.heap.size w w' := by
 have hm' := Lib.hid hm
 unfold maxLen at hm
 by_cases h0 : De.size s = 0
 ·have HZ : Hid ((De.size s : Int) = 0) := Lib.hid (by rw [h0]; rfl)
  clear h0 h
  go_enter Tryz.func84, Tryz.ntmps84
  go_wp2_with (go_at_call 107; refine (size_int _ _ _ HZ hm'.out).mono ?_; rintro e w' ⟨rfl, n, rfl⟩)
  exact bodyPost_ret (v := .tuple #[.agg #[.int .i64 0, .int .i64 0, .int .i64 0, .int .i64 0, .int .i64 0, .int .i64 0, .int .i64 0, .bool false], .int .i64 0, .int .i64 3]) (by simp [results, Tryz.results84, go_sem]) rfl ⟨rfl, by (go_grown; (try (refine below_drewN ?_ _; go_grown)))⟩
 ·have hlt : s.size < De.size s := by omega
  obtain ⟨Z, hZ⟩ : ∃ Z : Int, (De.size s : Int) = Z := ⟨_, rfl⟩
  have q : (Z == 0) = false := by simp; omega
  have q2 : (s.size : Int) < Z := by omega
  have HZ := Lib.hid hZ
  clear h0 h hlt hZ
  go_enter Tryz.func84, Tryz.ntmps84
  go_wp2_with (go_at_call 107; refine (size_int _ _ _ HZ hm'.out).mono ?_; rintro e w' ⟨rfl, n, rfl⟩)
  exact bodyPost_ret (v := .tuple #[.agg #[.int .i64 0, .int .i64 0, .int .i64 0, .int .i64 0, .int .i64 0, .int .i64 0, .int .i64 0, .bool false], .int .i64 0, .int .i64 3]) (by simp [results, Tryz.results84, go_sem]) rfl ⟨rfl, by (go_grown; (try (refine below_drewN ?_ _; go_grown)))⟩
theorem there_lit (op rd rn rm ra imm cond : Int) (wide b : Bool) (w : World) (h : Hid (De.there ⟨op, rd, rn, rm, ra, imm, cond, wide⟩ = b)) :
  Calls Tryz.prog 111 #[.agg #[.int .i64 op, .int .i64 rd, .int .i64 rn, .int .i64 rm, .int .i64 ra, .int .i64 imm, .int .i64 cond, .bool wide]] w fun e w' => e = .returned (.bool b) ∧ Below w.heap.size w w' := by
 have := h.out
 subst this
 exact there_any op rd rn rm ra imm cond wide w
theorem read_lit (O op rd rn rm ra imm cond : Int) (wide : Bool) (x : Nat) (w : World) (hx : x < 4294967296) (h0 : 0 ≤ O) (h1 : O ≤ 25) (h : Hid (De.read O x = ⟨op, rd, rn, rm, ra, imm, cond, wide⟩)) :
  Calls Tryz.prog 109 #[.int .i64 O, .int .u32 (x : Int)] w fun e w' => e = .returned (.agg #[.int .i64 op, .int .i64 rd, .int .i64 rn, .int .i64 rm, .int .i64 ra, .int .i64 imm, .int .i64 cond, .bool wide]) ∧ Below w.heap.size w w' := by
 have := read_any O x w hx h0 h1
 rw [h.out] at this
 exact this
theorem find_lit (x : Nat) (O : Int) (w : World) (hx : x < 4294967296) (h : Hid (De.find x = O)) :
  Calls Tryz.prog 110 #[.int .u32 (x : Int)] w fun e w' => e = .returned (.int .i64 O) ∧ Below w.heap.size w w' := by
 have := h.out
 subst this
 exact find_any x w hx
theorem dec_2y (s : ByteArray) (O op rd rn rm ra imm cond : Int) (wide : Bool) (x : Nat) (w : World) (hm : s.size ≤ maxLen) (hs : 2 ≤ s.size) (hZ : De.size s = 2) (hX : De.half s 0 = x) (hO : De.find x = O) (hR : De.read O x = ⟨op, rd, rn, rm, ra, imm, cond, wide⟩) (hT : De.there ⟨op, rd, rn, rm, ra, imm, cond, wide⟩ = true) :
  Calls Tryz.prog 84 #[.string s] w fun e w' => e = .returned (.tuple #[.agg #[.int .i64 op, .int .i64 rd, .int .i64 rn, .int .i64 rm, .int .i64 ra, .int .i64 imm, .int .i64 cond, .bool wide], .int .i64 2, .int .i64 0]) ∧ Below w.heap.size w w' := by
 have hm' := Lib.hid hm
 unfold maxLen at hm
 have HZ : Hid ((De.size s : Int) = 2) := Lib.hid (by rw [hZ]; rfl)
 have q2 : (2 : Int) ≤ (s.size : Int) := by omega
 have ha := De.half_lt s 0
 have hb := De.half_lt s 1
 have hx : x < 4294967296 := by omega
 have hf := find_bd x
 rw [hO] at hf
 obtain ⟨h0, h1⟩ := hf
 subst hX
 have HO := Lib.hid hO
 have HR := Lib.hid hR
 have HT := Lib.hid hT
 clear hZ hO hR hT ha hb
 go_enter Tryz.func84, Tryz.ntmps84
 go_wp2_with (first | (go_at_call 107; refine (size_int _ _ _ HZ hm'.out).mono ?_; rintro e w' ⟨rfl, n, rfl⟩) | (go_at_call 108; (with_reducible refine (half_any s _ (by omega) hm'.out).mono ?_); rintro e w' ⟨rfl, n, rfl⟩) | (go_at_call 110; refine (find_lit _ _ _ hx HO).mono ?_; rintro e w1 ⟨rfl, hb1⟩; have hz1 := hb1.size; simp at hz1; have HI1 := Lib.hid (InsAt.below (ins_drewN (ins_alloc w 123 0 0 0 0 0 0 0 false) _) hb1 (by simp)); have HF1 := Lib.hid (Open8.below (Open8.drewN (open_alloc w _ _) _) hb1 (by simp)); have HB1 : Hid (Below w.heap.size w w1) := (below_drewN ((Below.refl _ _).alloc (Nat.le_refl _) _) _).trans (hb1.mono (by simp)); clear hb1) | (go_at_call 109; refine (read_lit _ _ _ _ _ _ _ _ _ _ _ hx h0 h1 HR).mono ?_; rintro e w2 ⟨rfl, hb2⟩; have hz2 := hb2.size; have HI2 := Lib.hid (InsAt.below HI1.out hb2 (by omega)); have HF2 := Lib.hid (Open8.below HF1.out hb2 (by omega)); have HB2 : Hid (Below w.heap.size w w2) := HB1.out.trans (hb2.mono (by omega)); clear hb2) | (go_at_call 111; refine (there_lit _ _ _ _ _ _ _ _ _ _ HT).mono ?_; rintro e w3 ⟨rfl, hb3⟩; have hz3 := hb3.size; simp at hz3; obtain ⟨c0, c1, c2, c3, c4, c5, c6, c7⟩ := (HI2.out.alloc (by omega) _).below hb3 (by simp; omega); obtain ⟨i0, i1, i2, i3, i4, i5, i6, i7⟩ := (ins_alloc w2 123 op rd rn rm ra imm cond wide).below hb3 (by simp); have hf : ∀ o, w3.frozen? ⟨w.heap.size, o, none⟩ = false := Open8.below (Open8.below HF2.out ((Below.refl _ _).alloc (Nat.le_refl _) _) (by omega)) hb3 (by simp; omega); have HB3 : Hid (Below w.heap.size w w3) := (HB2.out.alloc (by omega) _).trans (hb3.mono (by simp; omega)); clear hb3))
 exact bodyPost_ret (v := .tuple #[.agg #[.int .i64 op, .int .i64 rd, .int .i64 rn, .int .i64 rm, .int .i64 ra, .int .i64 imm, .int .i64 cond, .bool wide], .int .i64 2, .int .i64 0]) (by simp [results, Tryz.results84, go_sem, c0, c1, c2, c3, c4, c5, c6, c7]) rfl ⟨rfl, by (iterate 8 (refine Below.setCell ?_ (by simp) _)); exact HB3.out⟩
theorem dec_2n (s : ByteArray) (O op rd rn rm ra imm cond : Int) (wide : Bool) (x : Nat) (w : World) (hm : s.size ≤ maxLen) (hs : 2 ≤ s.size) (hZ : De.size s = 2) (hX : De.half s 0 = x) (hO : De.find x = O) (hR : De.read O x = ⟨op, rd, rn, rm, ra, imm, cond, wide⟩) (hT : De.there ⟨op, rd, rn, rm, ra, imm, cond, wide⟩ = false) :
  Calls Tryz.prog 84 #[.string s] w fun e w' => e = .returned (.tuple #[.agg #[.int .i64 0, .int .i64 0, .int .i64 0, .int .i64 0, .int .i64 0, .int .i64 0, .int .i64 0, .bool false], .int .i64 0, .int .i64 7]) ∧ Below w.heap.size w w' := by
 have hm' := Lib.hid hm
 unfold maxLen at hm
 have HZ : Hid ((De.size s : Int) = 2) := Lib.hid (by rw [hZ]; rfl)
 have q2 : (2 : Int) ≤ (s.size : Int) := by omega
 have ha := De.half_lt s 0
 have hb := De.half_lt s 1
 have hx : x < 4294967296 := by omega
 have hf := find_bd x
 rw [hO] at hf
 obtain ⟨h0, h1⟩ := hf
 subst hX
 have HO := Lib.hid hO
 have HR := Lib.hid hR
 have HT := Lib.hid hT
 clear hZ hO hR hT ha hb
 go_enter Tryz.func84, Tryz.ntmps84
 go_wp2_with (first | (go_at_call 107; refine (size_int _ _ _ HZ hm'.out).mono ?_; rintro e w' ⟨rfl, n, rfl⟩) | (go_at_call 108; (with_reducible refine (half_any s _ (by omega) hm'.out).mono ?_); rintro e w' ⟨rfl, n, rfl⟩) | (go_at_call 110; refine (find_lit _ _ _ hx HO).mono ?_; rintro e w1 ⟨rfl, hb1⟩; have hz1 := hb1.size; simp at hz1; have HI1 := Lib.hid (InsAt.below (ins_drewN (ins_alloc w 123 0 0 0 0 0 0 0 false) _) hb1 (by simp)); have HF1 := Lib.hid (Open8.below (Open8.drewN (open_alloc w _ _) _) hb1 (by simp)); have HB1 : Hid (Below w.heap.size w w1) := (below_drewN ((Below.refl _ _).alloc (Nat.le_refl _) _) _).trans (hb1.mono (by simp)); clear hb1) | (go_at_call 109; refine (read_lit _ _ _ _ _ _ _ _ _ _ _ hx h0 h1 HR).mono ?_; rintro e w2 ⟨rfl, hb2⟩; have hz2 := hb2.size; have HI2 := Lib.hid (InsAt.below HI1.out hb2 (by omega)); have HF2 := Lib.hid (Open8.below HF1.out hb2 (by omega)); have HB2 : Hid (Below w.heap.size w w2) := HB1.out.trans (hb2.mono (by omega)); clear hb2) | (go_at_call 111; refine (there_lit _ _ _ _ _ _ _ _ _ _ HT).mono ?_; rintro e w3 ⟨rfl, hb3⟩; have hz3 := hb3.size; simp at hz3; obtain ⟨c0, c1, c2, c3, c4, c5, c6, c7⟩ := (HI2.out.alloc (by omega) _).below hb3 (by simp; omega); obtain ⟨i0, i1, i2, i3, i4, i5, i6, i7⟩ := (ins_alloc w2 123 op rd rn rm ra imm cond wide).below hb3 (by simp); have hf : ∀ o, w3.frozen? ⟨w.heap.size, o, none⟩ = false := Open8.below (Open8.below HF2.out ((Below.refl _ _).alloc (Nat.le_refl _) _) (by omega)) hb3 (by simp; omega); have HB3 : Hid (Below w.heap.size w w3) := (HB2.out.alloc (by omega) _).trans (hb3.mono (by simp; omega)); clear hb3))
 exact bodyPost_ret (v := .tuple #[.agg #[.int .i64 0, .int .i64 0, .int .i64 0, .int .i64 0, .int .i64 0, .int .i64 0, .int .i64 0, .bool false], .int .i64 0, .int .i64 7]) (by simp [results, Tryz.results84, go_sem, c0, c1, c2, c3, c4, c5, c6, c7]) rfl ⟨rfl, by (iterate 8 (refine Below.setCell ?_ (by simp) _)); exact HB3.out⟩
theorem dec_4y (s : ByteArray) (O op rd rn rm ra imm cond : Int) (wide : Bool) (x : Nat) (w : World) (hm : s.size ≤ maxLen) (hs : 4 ≤ s.size) (hZ : De.size s = 4) (hX : De.half s 0 * 65536 + De.half s 1 = x) (hO : De.find x = O) (hR : De.read O x = ⟨op, rd, rn, rm, ra, imm, cond, wide⟩) (hT : De.there ⟨op, rd, rn, rm, ra, imm, cond, wide⟩ = true) :
  Calls Tryz.prog 84 #[.string s] w fun e w' => e = .returned (.tuple #[.agg #[.int .i64 op, .int .i64 rd, .int .i64 rn, .int .i64 rm, .int .i64 ra, .int .i64 imm, .int .i64 cond, .bool wide], .int .i64 4, .int .i64 0]) ∧ Below w.heap.size w w' := by
 have hm' := Lib.hid hm
 unfold maxLen at hm
 have HZ : Hid ((De.size s : Int) = 4) := Lib.hid (by rw [hZ]; rfl)
 have q2 : (4 : Int) ≤ (s.size : Int) := by omega
 have ha := De.half_lt s 0
 have hb := De.half_lt s 1
 have hx : x < 4294967296 := by omega
 have hf := find_bd x
 rw [hO] at hf
 obtain ⟨h0, h1⟩ := hf
 have hI : bits .or .u32 ((De.half s 0 : Int) * 65536 % 4294967296) (De.half s 1 : Int) = (x : Int) := by rw [word_or _ _ ha hb, hX]
 have HO := Lib.hid hO
 have HR := Lib.hid hR
 have HT := Lib.hid hT
 clear hZ hO hR hT ha hb hX
 go_enter Tryz.func84, Tryz.ntmps84
 go_wp2_with (first | (go_at_call 107; refine (size_int _ _ _ HZ hm'.out).mono ?_; rintro e w' ⟨rfl, n, rfl⟩) | (go_at_call 108; first | ((with_reducible refine (half_any s _ (by omega) hm'.out).mono ?_); rintro e w' ⟨rfl, n, rfl⟩) | ((with_reducible refine (half_ext s _ hs hm'.out).mono ?_); rintro e w' ⟨rfl, n, rfl⟩)) | (go_at_call 110; refine (find_lit _ _ _ hx HO).mono ?_; rintro e w1 ⟨rfl, hb1⟩; have hz1 := hb1.size; simp at hz1; have HI1 := Lib.hid (InsAt.below (ins_drewN (ins_alloc w 123 0 0 0 0 0 0 0 false) _) hb1 (by simp)); have HF1 := Lib.hid (Open8.below (Open8.drewN (open_alloc w _ _) _) hb1 (by simp)); have HB1 : Hid (Below w.heap.size w w1) := (below_drewN ((Below.refl _ _).alloc (Nat.le_refl _) _) _).trans (hb1.mono (by simp)); clear hb1) | (go_at_call 109; refine (read_lit _ _ _ _ _ _ _ _ _ _ _ hx h0 h1 HR).mono ?_; rintro e w2 ⟨rfl, hb2⟩; have hz2 := hb2.size; have HI2 := Lib.hid (InsAt.below HI1.out hb2 (by omega)); have HF2 := Lib.hid (Open8.below HF1.out hb2 (by omega)); have HB2 : Hid (Below w.heap.size w w2) := HB1.out.trans (hb2.mono (by omega)); clear hb2) | (go_at_call 111; refine (there_lit _ _ _ _ _ _ _ _ _ _ HT).mono ?_; rintro e w3 ⟨rfl, hb3⟩; have hz3 := hb3.size; simp at hz3; obtain ⟨c0, c1, c2, c3, c4, c5, c6, c7⟩ := (HI2.out.alloc (by omega) _).below hb3 (by simp; omega); obtain ⟨i0, i1, i2, i3, i4, i5, i6, i7⟩ := (ins_alloc w2 123 op rd rn rm ra imm cond wide).below hb3 (by simp); have hf : ∀ o, w3.frozen? ⟨w.heap.size, o, none⟩ = false := Open8.below (Open8.below HF2.out ((Below.refl _ _).alloc (Nat.le_refl _) _) (by omega)) hb3 (by simp; omega); have HB3 : Hid (Below w.heap.size w w3) := (HB2.out.alloc (by omega) _).trans (hb3.mono (by simp; omega)); clear hb3))
 exact bodyPost_ret (v := .tuple #[.agg #[.int .i64 op, .int .i64 rd, .int .i64 rn, .int .i64 rm, .int .i64 ra, .int .i64 imm, .int .i64 cond, .bool wide], .int .i64 4, .int .i64 0]) (by simp [results, Tryz.results84, go_sem, c0, c1, c2, c3, c4, c5, c6, c7]) rfl ⟨rfl, by (iterate 8 (refine Below.setCell ?_ (by simp) _)); exact HB3.out⟩
theorem dec_4n (s : ByteArray) (O op rd rn rm ra imm cond : Int) (wide : Bool) (x : Nat) (w : World) (hm : s.size ≤ maxLen) (hs : 4 ≤ s.size) (hZ : De.size s = 4) (hX : De.half s 0 * 65536 + De.half s 1 = x) (hO : De.find x = O) (hR : De.read O x = ⟨op, rd, rn, rm, ra, imm, cond, wide⟩) (hT : De.there ⟨op, rd, rn, rm, ra, imm, cond, wide⟩ = false) :
  Calls Tryz.prog 84 #[.string s] w fun e w' => e = .returned (.tuple #[.agg #[.int .i64 0, .int .i64 0, .int .i64 0, .int .i64 0, .int .i64 0, .int .i64 0, .int .i64 0, .bool false], .int .i64 0, .int .i64 7]) ∧ Below w.heap.size w w' := by
 have hm' := Lib.hid hm
 unfold maxLen at hm
 have HZ : Hid ((De.size s : Int) = 4) := Lib.hid (by rw [hZ]; rfl)
 have q2 : (4 : Int) ≤ (s.size : Int) := by omega
 have ha := De.half_lt s 0
 have hb := De.half_lt s 1
 have hx : x < 4294967296 := by omega
 have hf := find_bd x
 rw [hO] at hf
 obtain ⟨h0, h1⟩ := hf
 have hI : bits .or .u32 ((De.half s 0 : Int) * 65536 % 4294967296) (De.half s 1 : Int) = (x : Int) := by rw [word_or _ _ ha hb, hX]
 have HO := Lib.hid hO
 have HR := Lib.hid hR
 have HT := Lib.hid hT
 clear hZ hO hR hT ha hb hX
 go_enter Tryz.func84, Tryz.ntmps84
 go_wp2_with (first | (go_at_call 107; refine (size_int _ _ _ HZ hm'.out).mono ?_; rintro e w' ⟨rfl, n, rfl⟩) | (go_at_call 108; first | ((with_reducible refine (half_any s _ (by omega) hm'.out).mono ?_); rintro e w' ⟨rfl, n, rfl⟩) | ((with_reducible refine (half_ext s _ hs hm'.out).mono ?_); rintro e w' ⟨rfl, n, rfl⟩)) | (go_at_call 110; refine (find_lit _ _ _ hx HO).mono ?_; rintro e w1 ⟨rfl, hb1⟩; have hz1 := hb1.size; simp at hz1; have HI1 := Lib.hid (InsAt.below (ins_drewN (ins_alloc w 123 0 0 0 0 0 0 0 false) _) hb1 (by simp)); have HF1 := Lib.hid (Open8.below (Open8.drewN (open_alloc w _ _) _) hb1 (by simp)); have HB1 : Hid (Below w.heap.size w w1) := (below_drewN ((Below.refl _ _).alloc (Nat.le_refl _) _) _).trans (hb1.mono (by simp)); clear hb1) | (go_at_call 109; refine (read_lit _ _ _ _ _ _ _ _ _ _ _ hx h0 h1 HR).mono ?_; rintro e w2 ⟨rfl, hb2⟩; have hz2 := hb2.size; have HI2 := Lib.hid (InsAt.below HI1.out hb2 (by omega)); have HF2 := Lib.hid (Open8.below HF1.out hb2 (by omega)); have HB2 : Hid (Below w.heap.size w w2) := HB1.out.trans (hb2.mono (by omega)); clear hb2) | (go_at_call 111; refine (there_lit _ _ _ _ _ _ _ _ _ _ HT).mono ?_; rintro e w3 ⟨rfl, hb3⟩; have hz3 := hb3.size; simp at hz3; obtain ⟨c0, c1, c2, c3, c4, c5, c6, c7⟩ := (HI2.out.alloc (by omega) _).below hb3 (by simp; omega); obtain ⟨i0, i1, i2, i3, i4, i5, i6, i7⟩ := (ins_alloc w2 123 op rd rn rm ra imm cond wide).below hb3 (by simp); have hf : ∀ o, w3.frozen? ⟨w.heap.size, o, none⟩ = false := Open8.below (Open8.below HF2.out ((Below.refl _ _).alloc (Nat.le_refl _) _) (by omega)) hb3 (by simp; omega); have HB3 : Hid (Below w.heap.size w w3) := (HB2.out.alloc (by omega) _).trans (hb3.mono (by simp; omega)); clear hb3))
 exact bodyPost_ret (v := .tuple #[.agg #[.int .i64 0, .int .i64 0, .int .i64 0, .int .i64 0, .int .i64 0, .int .i64 0, .int .i64 0, .bool false], .int .i64 0, .int .i64 7]) (by simp [results, Tryz.results84, go_sem, c0, c1, c2, c3, c4, c5, c6, c7]) rfl ⟨rfl, by (iterate 8 (refine Below.setCell ?_ (by simp) _)); exact HB3.out⟩
end Go.Proofs.YthciobjklhkkcaaGreat
