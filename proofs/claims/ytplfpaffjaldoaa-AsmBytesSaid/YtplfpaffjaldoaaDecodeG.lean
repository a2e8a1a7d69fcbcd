/-
What package decode's read and Decode return.
What package decode's Decode returns.
What package decode's Decode returns, as one; and that the document's examples are told.
-/
import Derived.Test.YtplfpaffjaldoaaDecodeR0
import Derived.Test.YtplfpaffjaldoaaDecodeR1
import Derived.Test.YtplfpaffjaldoaaDecodeR2
import Derived.Test.YtplfpaffjaldoaaDecodeC
import Derived.Test.YtplfpaffjaldoaaDecodeF
import Derived.Test.YtplfpaffjaldoaaDecodeM
section
namespace Go.Proofs.Ytplfpaffjaldoaa
open Go.ChangeShapes Go.WideShapes Go.ChangeAt Go.RowKit
set_option linter.unusedVariables false

theorem find_bd (x : Nat) : 0 ≤ De.find x ∧ De.find x ≤ 25 := by
  have h : ∀ l : List (Int × Nat × Nat), (∀ r ∈ l, 0 ≤ r.1 ∧ r.1 ≤ 25) → 0 ≤ De.findIn x l ∧ De.findIn x l ≤ 25 := by
    intro l
    induction l with
    | nil => intro _; exact ⟨Int.le_refl 0, (by decide : (0 : Int) ≤ 25)⟩
    | cons r l ih =>
      intro h
      rw [De.findIn]
      split
      · exact h r (by simp)
      · exact ih fun q hq => h q (by simp [hq])
  exact h De.rows (by decide)
theorem read_any (op : Int) (x : Nat) (w : World) (hx : x < 4294967296) (h0 : 0 ≤ op) (h1 : op ≤ 25) :
    Calls Try.prog 69 #[.int .i64 op, .int .u32 (x : Int)] w fun e w' => e = .returned (insV (De.read op x)) ∧ Below w.heap.size w w' := by
  rcases (by omega : op = 0 ∨ op = 1 ∨ op = 2 ∨ op = 3 ∨ op = 4 ∨ op = 5 ∨ op = 6 ∨ op = 7 ∨ op = 8 ∨ op = 9 ∨ op = 10 ∨ op = 11 ∨ op = 12 ∨ op = 13 ∨ op = 14 ∨ op = 15 ∨ op = 16 ∨ op = 17 ∨ op = 18 ∨ op = 19 ∨ op = 20 ∨ op = 21 ∨ op = 22 ∨ op = 23 ∨ op = 24 ∨ op = 25) with rfl | rfl | rfl | rfl | rfl | rfl | rfl | rfl | rfl | rfl | rfl | rfl | rfl | rfl | rfl | rfl | rfl | rfl | rfl | rfl | rfl | rfl | rfl | rfl | rfl | rfl
  · exact read0 x w hx
  · exact read1 x w hx
  · exact read2 x w hx
  · exact read3 x w hx
  · exact read4 x w hx
  · exact read5 x w hx
  · exact read6 x w hx
  · exact read7 x w hx
  · exact read8 x w hx
  · exact read9 x w hx
  · exact read10 x w hx
  · exact read11 x w hx
  · exact read12 x w hx
  · exact read13 x w hx
  · exact read14 x w hx
  · exact read15 x w hx
  · exact read16 x w hx
  · exact read17 x w hx
  · exact read18 x w hx
  · exact read19 x w hx
  · exact read20 x w hx
  · exact read21 x w hx
  · exact read22 x w hx
  · exact read23 x w hx
  · by_cases hw : 65536 ≤ x
    · have e : De.read 24 x = ⟨24, 0, 0, 0, 0, De.signed (De.b24w x) 25, 0, true⟩ := by
        show De.readB 24 x = _
        unfold De.readB; rw [if_pos hw]; rfl
      rw [e]; exact read24w x w hx hw
    · have e : De.read 24 x = ⟨24, 0, 0, 0, 0, De.signed (De.b24n x) 12, 0, false⟩ := by
        show De.readB 24 x = _
        unfold De.readB; rw [if_neg hw]; rfl
      rw [e]; exact read24n x w hx (by omega)
  · by_cases hw : 65536 ≤ x
    · have e : De.read 25 x = ⟨25, 0, 0, 0, 0, De.signed (De.b25w x) 21, (De.pt x 22 4 : Int), true⟩ := by
        show De.readB 25 x = _
        unfold De.readB; rw [if_pos hw, if_pos hw]; rfl
      rw [e]; exact read25w x w hx hw
    · have e : De.read 25 x = ⟨25, 0, 0, 0, 0, De.signed (De.b25n x) 9, (De.pt x 8 4 : Int), false⟩ := by
        show De.readB 25 x = _
        unfold De.readB; rw [if_neg hw, if_neg hw]; rfl
      rw [e]; exact read25n x w hx (by omega)
end Go.Proofs.Ytplfpaffjaldoaa
end
section
namespace Go.Proofs.Ytplfpaffjaldoaa
open Go.ChangeShapes Go.WideShapes Go.ChangeAt Go.RowKit
set_option linter.unusedVariables false

/-- the cells of an instruction that may be written -/
def Open8 (W : World) (b : Nat) : Prop := ∀ o, W.frozen? ⟨b, o, none⟩ = false
theorem open_alloc (w : World) (cs : Array Value) (t : TypeId) : Open8 (w.alloc (.cells cs t)) w.heap.size := fun o => by simp [go_sem]
theorem Open8.below {W w' : World} {b : Nat} (h : Open8 W b) (hb : Below W.heap.size W w') (hlt : b < W.heap.size) : Open8 w' b := fun o => by
  rw [hb.frozen (p := ⟨b, o, none⟩) hlt]; exact h o
theorem ins_drewN {W : World} {b : Nat} {op rd rn rm ra imm cond : Int} {wide : Bool} (h : InsAt W b op rd rn rm ra imm cond wide) (n : Nat) : InsAt (W.drewN n) b op rd rn rm ra imm cond wide := h
theorem Open8.drewN {W : World} {b : Nat} (h : Open8 W b) (n : Nat) : Open8 (W.drewN n) b := h
theorem size_int (s : ByteArray) (Z : Int) (w : World) (hz : Hid ((De.size s : Int) = Z)) (hm : s.size ≤ maxLen) :
    Calls Try.prog 67 #[.string s] w fun e w' => e = .returned (.int .i64 Z) ∧ ∃ n, w' = w.drewN n := by
  have := hz.out
  subst this
  exact size_s s w hm
theorem byt_ext (s : ByteArray) (k : Nat) (h : k + 2 < s.size) : De.byt (s.extract 2 s.size) k = De.byt s (k + 2) := by
  have h' : k < (s.extract 2 s.size).size := by simp [ByteArray.size_extract]; omega
  rw [← De.byt_eq _ k h', ← De.byt_eq s (k + 2) h, ByteArray.getElem_extract]
  simp [Nat.add_comm]
theorem half_ext (s : ByteArray) (w : World) (hs : 4 ≤ s.size) (hm : s.size ≤ maxLen) :
    Calls Try.prog 68 #[.string (s.extract 2 s.size)] w fun e w' => e = .returned (.int .u32 (De.half s 1 : Int)) ∧ ∃ n, w' = w.drewN n := by
  have e : De.half (s.extract 2 s.size) 0 = De.half s 1 := by unfold De.half; rw [byt_ext s (2 * 0) (by omega), byt_ext s (2 * 0 + 1) (by omega)]
  have := half_any (s.extract 2 s.size) w (by simp [ByteArray.size_extract]; omega) (by simp only [ByteArray.size_extract]; unfold maxLen at *; omega)
  rw [e] at this
  exact this
theorem word_or (a b : Nat) (ha : a < 65536) (hb : b < 65536) : bits .or .u32 ((a : Int) * 65536 % 4294967296) (b : Int) = ((a * 65536 + b : Nat) : Int) := by
  have e : (a : Int) * 65536 % 4294967296 = ((a * 65536 : Nat) : Int) := by omega
  rw [e, De.or_u32 _ _ (by omega) (by omega)]
  have := Th.or_add (a * 65536) b 0 16 hb (by simp)
  simp at this
  rw [this]
set_option maxHeartbeats 4000000 in
set_option maxRecDepth 100000 in
theorem dec_short (s : ByteArray) (w : World) (hm : s.size ≤ maxLen) (h : De.size s = 0 ∨ s.size < De.size s) :
    Calls Try.prog 48 #[.string s] w fun e w' => e = .returned (.tuple #[.agg #[.int .i64 0, .int .i64 0, .int .i64 0, .int .i64 0, .int .i64 0, .int .i64 0, .int .i64 0, .bool false], .int .i64 0, .int .i64 3]) ∧ Below w.heap.size w w' := by
  have hm' := Lib.hid hm
  unfold maxLen at hm
  by_cases h0 : De.size s = 0
  · have HZ : Hid ((De.size s : Int) = 0) := Lib.hid (by rw [h0]; rfl)
    clear h0 h
    go_enter Try.func48, Try.ntmps48
    go_wp2_with (go_at_call 67; refine (size_int _ _ _ HZ hm'.out).mono ?_; rintro e w' ⟨rfl, n, rfl⟩)
    exact bodyPost_ret (v := .tuple #[.agg #[.int .i64 0, .int .i64 0, .int .i64 0, .int .i64 0, .int .i64 0, .int .i64 0, .int .i64 0, .bool false], .int .i64 0, .int .i64 3]) (by simp [results, Try.results48, go_sem]) rfl ⟨rfl, by (go_grown; (try (refine below_drewN ?_ _; go_grown)))⟩
  · have hlt : s.size < De.size s := by omega
    obtain ⟨Z, hZ⟩ : ∃ Z : Int, (De.size s : Int) = Z := ⟨_, rfl⟩
    have q : (Z == 0) = false := by simp; omega
    have q2 : (s.size : Int) < Z := by omega
    have HZ := Lib.hid hZ
    clear h0 h hlt hZ
    go_enter Try.func48, Try.ntmps48
    go_wp2_with (go_at_call 67; refine (size_int _ _ _ HZ hm'.out).mono ?_; rintro e w' ⟨rfl, n, rfl⟩)
    exact bodyPost_ret (v := .tuple #[.agg #[.int .i64 0, .int .i64 0, .int .i64 0, .int .i64 0, .int .i64 0, .int .i64 0, .int .i64 0, .bool false], .int .i64 0, .int .i64 3]) (by simp [results, Try.results48, go_sem]) rfl ⟨rfl, by (go_grown; (try (refine below_drewN ?_ _; go_grown)))⟩
theorem there_lit (op rd rn rm ra imm cond : Int) (wide b : Bool) (w : World) (h : Hid (De.there ⟨op, rd, rn, rm, ra, imm, cond, wide⟩ = b)) :
    Calls Try.prog 71 #[.agg #[.int .i64 op, .int .i64 rd, .int .i64 rn, .int .i64 rm, .int .i64 ra, .int .i64 imm, .int .i64 cond, .bool wide]] w fun e w' => e = .returned (.bool b) ∧ Below w.heap.size w w' := by
  have := h.out
  subst this
  exact there_any op rd rn rm ra imm cond wide w
theorem read_lit (O op rd rn rm ra imm cond : Int) (wide : Bool) (x : Nat) (w : World) (hx : x < 4294967296) (h0 : 0 ≤ O) (h1 : O ≤ 25) (h : Hid (De.read O x = ⟨op, rd, rn, rm, ra, imm, cond, wide⟩)) :
    Calls Try.prog 69 #[.int .i64 O, .int .u32 (x : Int)] w fun e w' => e = .returned (.agg #[.int .i64 op, .int .i64 rd, .int .i64 rn, .int .i64 rm, .int .i64 ra, .int .i64 imm, .int .i64 cond, .bool wide]) ∧ Below w.heap.size w w' := by
  have := read_any O x w hx h0 h1
  rw [h.out] at this
  exact this
theorem find_lit (x : Nat) (O : Int) (w : World) (hx : x < 4294967296) (h : Hid (De.find x = O)) :
    Calls Try.prog 70 #[.int .u32 (x : Int)] w fun e w' => e = .returned (.int .i64 O) ∧ Below w.heap.size w w' := by
  have := h.out
  subst this
  exact find_any x w hx
set_option maxHeartbeats 8000000 in
set_option maxRecDepth 100000 in
theorem dec_2y (s : ByteArray) (O op rd rn rm ra imm cond : Int) (wide : Bool) (x : Nat) (w : World) (hm : s.size ≤ maxLen) (hs : 2 ≤ s.size) (hZ : De.size s = 2) (hX : De.half s 0 = x) (hO : De.find x = O) (hR : De.read O x = ⟨op, rd, rn, rm, ra, imm, cond, wide⟩) (hT : De.there ⟨op, rd, rn, rm, ra, imm, cond, wide⟩ = true) :
    Calls Try.prog 48 #[.string s] w fun e w' => e = .returned (.tuple #[.agg #[.int .i64 op, .int .i64 rd, .int .i64 rn, .int .i64 rm, .int .i64 ra, .int .i64 imm, .int .i64 cond, .bool wide], .int .i64 2, .int .i64 0]) ∧ Below w.heap.size w w' := by
  have hm' := Lib.hid hm
  unfold maxLen at hm
  have HZ : Hid ((De.size s : Int) = 2) := Lib.hid (by rw [hZ]; rfl)
  have q2 : (2 : Int) ≤ (s.size : Int) := by omega
  have ha := De.half_lt s 0
  have hb := De.half_lt s 1
  have hx : x < 4294967296 := by omega
  have hf := find_bd x
  rw [hO] at hf
  obtain ⟨h0, h1⟩ := hf
  subst hX
  have HO := Lib.hid hO
  have HR := Lib.hid hR
  have HT := Lib.hid hT
  clear hZ hO hR hT ha hb
  go_enter Try.func48, Try.ntmps48
  go_wp2_with (first | (go_at_call 67; refine (size_int _ _ _ HZ hm'.out).mono ?_; rintro e w' ⟨rfl, n, rfl⟩) | (go_at_call 68; (with_reducible refine (half_any s _ (by omega) hm'.out).mono ?_); rintro e w' ⟨rfl, n, rfl⟩) | (go_at_call 70; refine (find_lit _ _ _ hx HO).mono ?_; rintro e w1 ⟨rfl, hb1⟩; have hz1 := hb1.size; simp at hz1; have HI1 := Lib.hid (InsAt.below (ins_drewN (ins_alloc w 39 0 0 0 0 0 0 0 false) _) hb1 (by simp)); have HF1 := Lib.hid (Open8.below (Open8.drewN (open_alloc w _ _) _) hb1 (by simp)); have HB1 : Hid (Below w.heap.size w w1) := (below_drewN ((Below.refl _ _).alloc (Nat.le_refl _) _) _).trans (hb1.mono (by simp)); clear hb1) | (go_at_call 69; refine (read_lit _ _ _ _ _ _ _ _ _ _ _ hx h0 h1 HR).mono ?_; rintro e w2 ⟨rfl, hb2⟩; have hz2 := hb2.size; have HI2 := Lib.hid (InsAt.below HI1.out hb2 (by omega)); have HF2 := Lib.hid (Open8.below HF1.out hb2 (by omega)); have HB2 : Hid (Below w.heap.size w w2) := HB1.out.trans (hb2.mono (by omega)); clear hb2) | (go_at_call 71; refine (there_lit _ _ _ _ _ _ _ _ _ _ HT).mono ?_; rintro e w3 ⟨rfl, hb3⟩; have hz3 := hb3.size; simp at hz3; obtain ⟨c0, c1, c2, c3, c4, c5, c6, c7⟩ := (HI2.out.alloc (by omega) _).below hb3 (by simp; omega); obtain ⟨i0, i1, i2, i3, i4, i5, i6, i7⟩ := (ins_alloc w2 39 op rd rn rm ra imm cond wide).below hb3 (by simp); have hf : ∀ o, w3.frozen? ⟨w.heap.size, o, none⟩ = false := Open8.below (Open8.below HF2.out ((Below.refl _ _).alloc (Nat.le_refl _) _) (by omega)) hb3 (by simp; omega); have HB3 : Hid (Below w.heap.size w w3) := (HB2.out.alloc (by omega) _).trans (hb3.mono (by simp; omega)); clear hb3))
  exact bodyPost_ret (v := .tuple #[.agg #[.int .i64 op, .int .i64 rd, .int .i64 rn, .int .i64 rm, .int .i64 ra, .int .i64 imm, .int .i64 cond, .bool wide], .int .i64 2, .int .i64 0]) (by simp [results, Try.results48, go_sem, c0, c1, c2, c3, c4, c5, c6, c7]) rfl ⟨rfl, by (iterate 8 (refine Below.setCell ?_ (by simp) _)); exact HB3.out⟩
set_option maxHeartbeats 8000000 in
set_option maxRecDepth 100000 in
theorem dec_2n (s : ByteArray) (O op rd rn rm ra imm cond : Int) (wide : Bool) (x : Nat) (w : World) (hm : s.size ≤ maxLen) (hs : 2 ≤ s.size) (hZ : De.size s = 2) (hX : De.half s 0 = x) (hO : De.find x = O) (hR : De.read O x = ⟨op, rd, rn, rm, ra, imm, cond, wide⟩) (hT : De.there ⟨op, rd, rn, rm, ra, imm, cond, wide⟩ = false) :
    Calls Try.prog 48 #[.string s] w fun e w' => e = .returned (.tuple #[.agg #[.int .i64 0, .int .i64 0, .int .i64 0, .int .i64 0, .int .i64 0, .int .i64 0, .int .i64 0, .bool false], .int .i64 0, .int .i64 7]) ∧ Below w.heap.size w w' := by
  have hm' := Lib.hid hm
  unfold maxLen at hm
  have HZ : Hid ((De.size s : Int) = 2) := Lib.hid (by rw [hZ]; rfl)
  have q2 : (2 : Int) ≤ (s.size : Int) := by omega
  have ha := De.half_lt s 0
  have hb := De.half_lt s 1
  have hx : x < 4294967296 := by omega
  have hf := find_bd x
  rw [hO] at hf
  obtain ⟨h0, h1⟩ := hf
  subst hX
  have HO := Lib.hid hO
  have HR := Lib.hid hR
  have HT := Lib.hid hT
  clear hZ hO hR hT ha hb
  go_enter Try.func48, Try.ntmps48
  go_wp2_with (first | (go_at_call 67; refine (size_int _ _ _ HZ hm'.out).mono ?_; rintro e w' ⟨rfl, n, rfl⟩) | (go_at_call 68; (with_reducible refine (half_any s _ (by omega) hm'.out).mono ?_); rintro e w' ⟨rfl, n, rfl⟩) | (go_at_call 70; refine (find_lit _ _ _ hx HO).mono ?_; rintro e w1 ⟨rfl, hb1⟩; have hz1 := hb1.size; simp at hz1; have HI1 := Lib.hid (InsAt.below (ins_drewN (ins_alloc w 39 0 0 0 0 0 0 0 false) _) hb1 (by simp)); have HF1 := Lib.hid (Open8.below (Open8.drewN (open_alloc w _ _) _) hb1 (by simp)); have HB1 : Hid (Below w.heap.size w w1) := (below_drewN ((Below.refl _ _).alloc (Nat.le_refl _) _) _).trans (hb1.mono (by simp)); clear hb1) | (go_at_call 69; refine (read_lit _ _ _ _ _ _ _ _ _ _ _ hx h0 h1 HR).mono ?_; rintro e w2 ⟨rfl, hb2⟩; have hz2 := hb2.size; have HI2 := Lib.hid (InsAt.below HI1.out hb2 (by omega)); have HF2 := Lib.hid (Open8.below HF1.out hb2 (by omega)); have HB2 : Hid (Below w.heap.size w w2) := HB1.out.trans (hb2.mono (by omega)); clear hb2) | (go_at_call 71; refine (there_lit _ _ _ _ _ _ _ _ _ _ HT).mono ?_; rintro e w3 ⟨rfl, hb3⟩; have hz3 := hb3.size; simp at hz3; obtain ⟨c0, c1, c2, c3, c4, c5, c6, c7⟩ := (HI2.out.alloc (by omega) _).below hb3 (by simp; omega); obtain ⟨i0, i1, i2, i3, i4, i5, i6, i7⟩ := (ins_alloc w2 39 op rd rn rm ra imm cond wide).below hb3 (by simp); have hf : ∀ o, w3.frozen? ⟨w.heap.size, o, none⟩ = false := Open8.below (Open8.below HF2.out ((Below.refl _ _).alloc (Nat.le_refl _) _) (by omega)) hb3 (by simp; omega); have HB3 : Hid (Below w.heap.size w w3) := (HB2.out.alloc (by omega) _).trans (hb3.mono (by simp; omega)); clear hb3))
  exact bodyPost_ret (v := .tuple #[.agg #[.int .i64 0, .int .i64 0, .int .i64 0, .int .i64 0, .int .i64 0, .int .i64 0, .int .i64 0, .bool false], .int .i64 0, .int .i64 7]) (by simp [results, Try.results48, go_sem, c0, c1, c2, c3, c4, c5, c6, c7]) rfl ⟨rfl, by (iterate 8 (refine Below.setCell ?_ (by simp) _)); exact HB3.out⟩
set_option maxHeartbeats 8000000 in
set_option maxRecDepth 100000 in
theorem dec_4y (s : ByteArray) (O op rd rn rm ra imm cond : Int) (wide : Bool) (x : Nat) (w : World) (hm : s.size ≤ maxLen) (hs : 4 ≤ s.size) (hZ : De.size s = 4) (hX : De.half s 0 * 65536 + De.half s 1 = x) (hO : De.find x = O) (hR : De.read O x = ⟨op, rd, rn, rm, ra, imm, cond, wide⟩) (hT : De.there ⟨op, rd, rn, rm, ra, imm, cond, wide⟩ = true) :
    Calls Try.prog 48 #[.string s] w fun e w' => e = .returned (.tuple #[.agg #[.int .i64 op, .int .i64 rd, .int .i64 rn, .int .i64 rm, .int .i64 ra, .int .i64 imm, .int .i64 cond, .bool wide], .int .i64 4, .int .i64 0]) ∧ Below w.heap.size w w' := by
  have hm' := Lib.hid hm
  unfold maxLen at hm
  have HZ : Hid ((De.size s : Int) = 4) := Lib.hid (by rw [hZ]; rfl)
  have q2 : (4 : Int) ≤ (s.size : Int) := by omega
  have ha := De.half_lt s 0
  have hb := De.half_lt s 1
  have hx : x < 4294967296 := by omega
  have hf := find_bd x
  rw [hO] at hf
  obtain ⟨h0, h1⟩ := hf
  have hI : bits .or .u32 ((De.half s 0 : Int) * 65536 % 4294967296) (De.half s 1 : Int) = (x : Int) := by rw [word_or _ _ ha hb, hX]
  have HO := Lib.hid hO
  have HR := Lib.hid hR
  have HT := Lib.hid hT
  clear hZ hO hR hT ha hb hX
  go_enter Try.func48, Try.ntmps48
  go_wp2_with (first | (go_at_call 67; refine (size_int _ _ _ HZ hm'.out).mono ?_; rintro e w' ⟨rfl, n, rfl⟩) | (go_at_call 68; first | ((with_reducible refine (half_any s _ (by omega) hm'.out).mono ?_); rintro e w' ⟨rfl, n, rfl⟩) | ((with_reducible refine (half_ext s _ hs hm'.out).mono ?_); rintro e w' ⟨rfl, n, rfl⟩)) | (go_at_call 70; refine (find_lit _ _ _ hx HO).mono ?_; rintro e w1 ⟨rfl, hb1⟩; have hz1 := hb1.size; simp at hz1; have HI1 := Lib.hid (InsAt.below (ins_drewN (ins_alloc w 39 0 0 0 0 0 0 0 false) _) hb1 (by simp)); have HF1 := Lib.hid (Open8.below (Open8.drewN (open_alloc w _ _) _) hb1 (by simp)); have HB1 : Hid (Below w.heap.size w w1) := (below_drewN ((Below.refl _ _).alloc (Nat.le_refl _) _) _).trans (hb1.mono (by simp)); clear hb1) | (go_at_call 69; refine (read_lit _ _ _ _ _ _ _ _ _ _ _ hx h0 h1 HR).mono ?_; rintro e w2 ⟨rfl, hb2⟩; have hz2 := hb2.size; have HI2 := Lib.hid (InsAt.below HI1.out hb2 (by omega)); have HF2 := Lib.hid (Open8.below HF1.out hb2 (by omega)); have HB2 : Hid (Below w.heap.size w w2) := HB1.out.trans (hb2.mono (by omega)); clear hb2) | (go_at_call 71; refine (there_lit _ _ _ _ _ _ _ _ _ _ HT).mono ?_; rintro e w3 ⟨rfl, hb3⟩; have hz3 := hb3.size; simp at hz3; obtain ⟨c0, c1, c2, c3, c4, c5, c6, c7⟩ := (HI2.out.alloc (by omega) _).below hb3 (by simp; omega); obtain ⟨i0, i1, i2, i3, i4, i5, i6, i7⟩ := (ins_alloc w2 39 op rd rn rm ra imm cond wide).below hb3 (by simp); have hf : ∀ o, w3.frozen? ⟨w.heap.size, o, none⟩ = false := Open8.below (Open8.below HF2.out ((Below.refl _ _).alloc (Nat.le_refl _) _) (by omega)) hb3 (by simp; omega); have HB3 : Hid (Below w.heap.size w w3) := (HB2.out.alloc (by omega) _).trans (hb3.mono (by simp; omega)); clear hb3))
  exact bodyPost_ret (v := .tuple #[.agg #[.int .i64 op, .int .i64 rd, .int .i64 rn, .int .i64 rm, .int .i64 ra, .int .i64 imm, .int .i64 cond, .bool wide], .int .i64 4, .int .i64 0]) (by simp [results, Try.results48, go_sem, c0, c1, c2, c3, c4, c5, c6, c7]) rfl ⟨rfl, by (iterate 8 (refine Below.setCell ?_ (by simp) _)); exact HB3.out⟩
set_option maxHeartbeats 8000000 in
set_option maxRecDepth 100000 in
theorem dec_4n (s : ByteArray) (O op rd rn rm ra imm cond : Int) (wide : Bool) (x : Nat) (w : World) (hm : s.size ≤ maxLen) (hs : 4 ≤ s.size) (hZ : De.size s = 4) (hX : De.half s 0 * 65536 + De.half s 1 = x) (hO : De.find x = O) (hR : De.read O x = ⟨op, rd, rn, rm, ra, imm, cond, wide⟩) (hT : De.there ⟨op, rd, rn, rm, ra, imm, cond, wide⟩ = false) :
    Calls Try.prog 48 #[.string s] w fun e w' => e = .returned (.tuple #[.agg #[.int .i64 0, .int .i64 0, .int .i64 0, .int .i64 0, .int .i64 0, .int .i64 0, .int .i64 0, .bool false], .int .i64 0, .int .i64 7]) ∧ Below w.heap.size w w' := by
  have hm' := Lib.hid hm
  unfold maxLen at hm
  have HZ : Hid ((De.size s : Int) = 4) := Lib.hid (by rw [hZ]; rfl)
  have q2 : (4 : Int) ≤ (s.size : Int) := by omega
  have ha := De.half_lt s 0
  have hb := De.half_lt s 1
  have hx : x < 4294967296 := by omega
  have hf := find_bd x
  rw [hO] at hf
  obtain ⟨h0, h1⟩ := hf
  have hI : bits .or .u32 ((De.half s 0 : Int) * 65536 % 4294967296) (De.half s 1 : Int) = (x : Int) := by rw [word_or _ _ ha hb, hX]
  have HO := Lib.hid hO
  have HR := Lib.hid hR
  have HT := Lib.hid hT
  clear hZ hO hR hT ha hb hX
  go_enter Try.func48, Try.ntmps48
  go_wp2_with (first | (go_at_call 67; refine (size_int _ _ _ HZ hm'.out).mono ?_; rintro e w' ⟨rfl, n, rfl⟩) | (go_at_call 68; first | ((with_reducible refine (half_any s _ (by omega) hm'.out).mono ?_); rintro e w' ⟨rfl, n, rfl⟩) | ((with_reducible refine (half_ext s _ hs hm'.out).mono ?_); rintro e w' ⟨rfl, n, rfl⟩)) | (go_at_call 70; refine (find_lit _ _ _ hx HO).mono ?_; rintro e w1 ⟨rfl, hb1⟩; have hz1 := hb1.size; simp at hz1; have HI1 := Lib.hid (InsAt.below (ins_drewN (ins_alloc w 39 0 0 0 0 0 0 0 false) _) hb1 (by simp)); have HF1 := Lib.hid (Open8.below (Open8.drewN (open_alloc w _ _) _) hb1 (by simp)); have HB1 : Hid (Below w.heap.size w w1) := (below_drewN ((Below.refl _ _).alloc (Nat.le_refl _) _) _).trans (hb1.mono (by simp)); clear hb1) | (go_at_call 69; refine (read_lit _ _ _ _ _ _ _ _ _ _ _ hx h0 h1 HR).mono ?_; rintro e w2 ⟨rfl, hb2⟩; have hz2 := hb2.size; have HI2 := Lib.hid (InsAt.below HI1.out hb2 (by omega)); have HF2 := Lib.hid (Open8.below HF1.out hb2 (by omega)); have HB2 : Hid (Below w.heap.size w w2) := HB1.out.trans (hb2.mono (by omega)); clear hb2) | (go_at_call 71; refine (there_lit _ _ _ _ _ _ _ _ _ _ HT).mono ?_; rintro e w3 ⟨rfl, hb3⟩; have hz3 := hb3.size; simp at hz3; obtain ⟨c0, c1, c2, c3, c4, c5, c6, c7⟩ := (HI2.out.alloc (by omega) _).below hb3 (by simp; omega); obtain ⟨i0, i1, i2, i3, i4, i5, i6, i7⟩ := (ins_alloc w2 39 op rd rn rm ra imm cond wide).below hb3 (by simp); have hf : ∀ o, w3.frozen? ⟨w.heap.size, o, none⟩ = false := Open8.below (Open8.below HF2.out ((Below.refl _ _).alloc (Nat.le_refl _) _) (by omega)) hb3 (by simp; omega); have HB3 : Hid (Below w.heap.size w w3) := (HB2.out.alloc (by omega) _).trans (hb3.mono (by simp; omega)); clear hb3))
  exact bodyPost_ret (v := .tuple #[.agg #[.int .i64 0, .int .i64 0, .int .i64 0, .int .i64 0, .int .i64 0, .int .i64 0, .int .i64 0, .bool false], .int .i64 0, .int .i64 7]) (by simp [results, Try.results48, go_sem, c0, c1, c2, c3, c4, c5, c6, c7]) rfl ⟨rfl, by (iterate 8 (refine Below.setCell ?_ (by simp) _)); exact HB3.out⟩
end Go.Proofs.Ytplfpaffjaldoaa
end
section
namespace Go.Proofs.Ytplfpaffjaldoaa
open Go.ChangeShapes Go.WideShapes Go.ChangeAt Go.RowKit
set_option linter.unusedVariables false

theorem decode_any (s : ByteArray) (w : World) (hm : s.size ≤ maxLen) :
    Calls Try.prog 48 #[.string s] w fun e w' => e = .returned (.tuple #[insV (De.ins s), .int .i64 (De.len s : Int), .int .i64 (De.err s)]) ∧ Below w.heap.size w w' := by
  by_cases h : De.size s = 0 ∨ s.size < De.size s
  · have he : De.err s = 3 := by unfold De.err; rw [if_pos h]
    have hi : De.ins s = Th.none0 := by unfold De.ins; rw [he, if_neg (by decide)]
    have hl : De.len s = 0 := by unfold De.len; rw [he, if_neg (by decide)]
    rw [he, hi, hl]
    exact dec_short s w hm h
  · have hA : ∀ b, De.there (De.told s) = b → De.err s = if b then 0 else 7 := fun b hb => by
      unfold De.err; rw [if_neg h, hb]
    obtain ⟨x, hx⟩ : ∃ x, De.word s (De.size s) = x := ⟨_, rfl⟩
    obtain ⟨O, hO⟩ : ∃ O, De.find x = O := ⟨_, rfl⟩
    obtain ⟨⟨op, rd, rn, rm, ra, imm, cond, wide⟩, hR⟩ : ∃ i, De.read O x = i := ⟨_, rfl⟩
    have ht : De.told s = ⟨op, rd, rn, rm, ra, imm, cond, wide⟩ := by unfold De.told; rw [hx, hO, hR]
    rcases De.size_cases s with g | ⟨g, g2, g3⟩ | ⟨g, g2⟩
    · exact absurd (Or.inl g) h
    · have hX : De.half s 0 = x := by rw [← hx, g]; rfl
      cases hT : De.there ⟨op, rd, rn, rm, ra, imm, cond, wide⟩ with
      | true =>
        have he : De.err s = 0 := hA true (by rw [ht, hT])
        have hi : De.ins s = ⟨op, rd, rn, rm, ra, imm, cond, wide⟩ := by unfold De.ins; rw [if_pos he, ht]
        have hl : De.len s = 2 := by unfold De.len; rw [if_pos he, g]
        rw [he, hi, hl]
        exact dec_2y s O op rd rn rm ra imm cond wide x w hm g3 g hX hO hR hT
      | false =>
        have he : De.err s = 7 := hA false (by rw [ht, hT])
        have hi : De.ins s = Th.none0 := by unfold De.ins; rw [he, if_neg (by decide)]
        have hl : De.len s = 0 := by unfold De.len; rw [he, if_neg (by decide)]
        rw [he, hi, hl]
        exact dec_2n s O op rd rn rm ra imm cond wide x w hm g3 g hX hO hR hT
    · have hX : De.half s 0 * 65536 + De.half s 1 = x := by rw [← hx, g]; rfl
      have g4 : 4 ≤ s.size := by omega
      cases hT : De.there ⟨op, rd, rn, rm, ra, imm, cond, wide⟩ with
      | true =>
        have he : De.err s = 0 := hA true (by rw [ht, hT])
        have hi : De.ins s = ⟨op, rd, rn, rm, ra, imm, cond, wide⟩ := by unfold De.ins; rw [if_pos he, ht]
        have hl : De.len s = 4 := by unfold De.len; rw [if_pos he, g]
        rw [he, hi, hl]
        exact dec_4y s O op rd rn rm ra imm cond wide x w hm g4 g hX hO hR hT
      | false =>
        have he : De.err s = 7 := hA false (by rw [ht, hT])
        have hi : De.ins s = Th.none0 := by unfold De.ins; rw [he, if_neg (by decide)]
        have hl : De.len s = 0 := by unfold De.len; rw [he, if_neg (by decide)]
        rw [he, hi, hl]
        exact dec_4n s O op rd rn rm ra imm cond wide x w hm g4 g hX hO hR hT
/-- what bytes are told as -/
def Told (s : ByteArray) (i : Th.Ins) (n e : Int) : Prop := De.ins s = i ∧ (De.len s : Int) = n ∧ De.err s = e
theorem decode_lit (s : ByteArray) (op rd rn rm ra imm cond : Int) (wide : Bool) (n e : Int) (w : World) (hm : s.size ≤ maxLen) (h : Told s ⟨op, rd, rn, rm, ra, imm, cond, wide⟩ n e) :
    Calls Try.prog 48 #[.string s] w fun r w' => r = .returned (.tuple #[.agg #[.int .i64 op, .int .i64 rd, .int .i64 rn, .int .i64 rm, .int .i64 ra, .int .i64 imm, .int .i64 cond, .bool wide], .int .i64 n, .int .i64 e]) ∧ Below w.heap.size w w' := by
  have := decode_any s w hm
  rw [h.1, h.2.1, h.2.2] at this
  exact this
theorem told_a : Told ⟨#[254, 231]⟩ ⟨24, 0, 0, 0, 0, -4, 0, false⟩ 2 0 := by
  refine ⟨?_, ?_, ?_⟩ <;> kernel_rfl
theorem told_b : Told ⟨#[224, 0]⟩ ⟨0, 0, 0, 0, 0, 0, 0, false⟩ 0 7 := by
  refine ⟨?_, ?_, ?_⟩ <;> kernel_rfl
theorem decode_a (w : World) : Calls Try.prog 48 #[.string ⟨#[254, 231]⟩] w fun r w' => r = .returned (.tuple #[.agg #[.int .i64 24, .int .i64 0, .int .i64 0, .int .i64 0, .int .i64 0, .int .i64 (-4), .int .i64 0, .bool false], .int .i64 2, .int .i64 0]) ∧ Below w.heap.size w w' :=
  decode_lit _ _ _ _ _ _ _ _ _ _ _ w (by show 2 ≤ maxLen; unfold maxLen; omega) told_a
theorem decode_b (w : World) : Calls Try.prog 48 #[.string ⟨#[224, 0]⟩] w fun r w' => r = .returned (.tuple #[.agg #[.int .i64 0, .int .i64 0, .int .i64 0, .int .i64 0, .int .i64 0, .int .i64 0, .int .i64 0, .bool false], .int .i64 0, .int .i64 7]) ∧ Below w.heap.size w w' :=
  decode_lit _ _ _ _ _ _ _ _ _ _ _ w (by show 2 ≤ maxLen; unfold maxLen; omega) told_b
end Go.Proofs.Ytplfpaffjaldoaa
end
