/-
  Stage 6's example is told; a head among a law's arguments.
-/
import Derived.Test.YtncbgfcmekaniaaImageG
import Derived.Lib.SmallJoins
namespace Go.Proofs.Ytncbgfcmekaniaa
open Go.Joins Go.ChangeShapes Go.WideShapes Go.ChangeAt Go.RowKit Go.Deep
set_option linter.unusedVariables false
set_option linter.unusedSimpArgs false

set_option maxRecDepth 100000 in
theorem open_head {H : Type} {enc : TypeId × Value → H} {w : World} {base : Nat} {spare : Nat → Bool} {held : Bool} {r : Reach} {b0 : Nat} {v : Value} {d : DataW H} {p : List MemPlace}
    (hv : Value.okWide Try.prog w r b0 25 v) (h : DataW.Trod enc Try.prog w base spare held 25 v d p) :
    ∃ (r h i o l m : Int), v = .agg #[.int .i64 r, .int .i64 h, .int .i64 i, .int .i64 o, .int .i64 l, .int .i64 m] ∧ (Lit.int .i64 l).wf = true := by
  obtain ⟨cs, rfl, hsz⟩ := okWide_struct Try.underlying25 hv
  have hC : Try.prog.cellsOf 25 = 6 := by kernel_rfl
  obtain ⟨l⟩ := cs
  match l, hsz.trans hC with
  | [c0, c1, c2, c3, c4, c5], _ =>
    obtain ⟨fuel, hf⟩ := h
    obtain ⟨xs, n, _, hx, _, hlen, hg⟩ := DataW.trod_struct Try.underlying25 hf
    have k1 : Try.prog.cellsOf 3 = 1 := by kernel_rfl
    have k3 : Try.prog.cellsOf 23 = 3 := by kernel_rfl
    match xs, hlen with
    | [y0, y1, y2, y3], _ =>
      have g0 := hg 0 _ rfl
      have g1 := hg 1 _ rfl
      have g2 := hg 2 _ rfl
      have g3 := hg 3 _ rfl
      simp [Value.cells, k1, k3] at g0 g1 g2 g3
      obtain ⟨n0, e0, _, f0⟩ := DataW.trod_int Try.underlying3 g0
      obtain ⟨n1, e1, _, f1⟩ := DataW.trod_int Try.underlying3 g1
      obtain ⟨n5, e5, _, f5⟩ := DataW.trod_int Try.underlying3 g3
      obtain ⟨zs, n', _, hz, _, hzl, hzg⟩ := DataW.trod_struct Try.underlying23 g2
      match zs, hzl with
      | [z0, z1, z2], _ =>
        have q0 := hzg 0 _ rfl
        have q1 := hzg 1 _ rfl
        have q2 := hzg 2 _ rfl
        simp [k1] at q0 q1 q2
        obtain ⟨n2, e2, _, f2⟩ := DataW.trod_int Try.underlying3 q0
        obtain ⟨n3, e3, _, f3⟩ := DataW.trod_int Try.underlying3 q1
        obtain ⟨n4, e4, _, f4⟩ := DataW.trod_int Try.underlying3 q2
        simp at e0 e1 e2 e3 e4 e5
        exact ⟨n0, n1, n2, n3, n4, n5, by rw [e0, e1, e2, e3, e4, e5], f4⟩
theorem Im.ex_err : Im.err ⟨64, 66, 0, 0, 4, 0⟩ (64 + (⟨#[254, 231, 254, 231]⟩ : ByteArray).size : Nat) = 0 := by decide +kernel
theorem Im.ex_F : Im.build ⟨64, 66, 0, 0, 4, 0⟩ ⟨#[254, 231, 254, 231]⟩ = (Im.F ⟨64, 66, 0, 0, 4, 0⟩ ++ ⟨#[254, 231, 254, 231]⟩, 0) := by
  unfold Im.build; rw [if_pos Im.ex_err]
theorem Im.ex_4 : (Im.F ⟨64, 66, 0, 0, 4, 0⟩ ++ ⟨#[254, 231, 254, 231]⟩).data.toList[4]? = some 65 := by decide +kernel
theorem build_lit (r h i o l m : Int) (c T : ByteArray) (E : Int) (w : World) (hc : c.size ≤ 600000) (hB : Hid (Im.build ⟨r, h, i, o, l, m⟩ c = (T, E))) :
    Calls Try.prog 7 #[.agg #[.int .i64 r, .int .i64 h, .int .i64 i, .int .i64 o, .int .i64 l, .int .i64 m], .string c] w fun e w' => e = .returned (.tuple #[.string T, .int .i64 E]) ∧ Below w.heap.size w w' := by
  have := build_any r h i o l m c w hc
  rw [hB.out] at this
  exact this
theorem parse_lit (s : ByteArray) (r h i o l m E : Int) (w : World) (hm : s.size ≤ 600000) (hP : Hid (Im.parse s = (⟨r, h, i, o, l, m⟩, E))) :
    Calls Try.prog 10 #[.string s] w fun e w' => e = .returned (.tuple #[.agg #[.int .i64 r, .int .i64 h, .int .i64 i, .int .i64 o, .int .i64 l, .int .i64 m], .int .i64 E]) ∧ Below w.heap.size w w' := by
  have := parse_any s w hm
  rw [hP.out] at this
  exact this
theorem rparse_lit (s : ByteArray) (r h i o l m E : Int) (w : World) (hm : s.size ≤ 600000) (hP : Hid (Im.parse s = (⟨r, h, i, o, l, m⟩, E))) :
    Calls Try.prog 11 #[.string s] w fun e w' => e = .returned (.tuple #[.agg #[.int .i64 r, .int .i64 h, .int .i64 i, .int .i64 o, .int .i64 l, .int .i64 m], .int .i64 E]) ∧ Below w.heap.size w w' := by
  have := rparse_any s w hm
  rw [hP.out] at this
  exact this
theorem hd2_step {W wx w' : World} {b b' : Nat} {r h i o l m r' h' i' o' l' m' : Int} (hc : Below W.heap.size W wx ∧ Im.HdAt wx b r h i o l m ∧ Im.HdAt wx b' r' h' i' o' l' m') (hb : Below wx.heap.size wx w') : Below W.heap.size W w' ∧ Im.HdAt w' b r h i o l m ∧ Im.HdAt w' b' r' h' i' o' l' m' :=
  ⟨hc.1.trans (hb.mono hc.1.size), hc.2.1.kept hb, hc.2.2.kept hb⟩
/-- a byte of a string -/
theorem run_byte {P : Program} (w : World) (t : TypeId) (s : ByteArray) (i : Int) (k : Nat) (b : UInt8) (h : P.underlying t = some .string) (hk : (k : Int) = i) (hb : s.data.toList[k]? = some b) :
    (Instr.index t (.string s) (.int .i64 i)).run P w = .ok (.int .u8 b.toNat) w := by
  subst hk
  have hl : k < s.data.toList.length := (List.getElem?_eq_some_iff.1 hb).1
  have hl2 : k < s.size := by rw [Array.length_toList] at hl; exact hl
  rw [run_index_string w t s .i64 k h, dif_pos ⟨by omega, by omega⟩]
  have e : s.data.toList[k] = b := by rw [List.getElem?_eq_getElem hl] at hb; exact Option.some.inj hb
  have e2 : s[(k : Int).toNat]'(by rw [Int.toNat_natCast]; exact hl2) = b := by
    simp only [Int.toNat_natCast]
    exact e
  rw [e2]
set_option maxHeartbeats 8000000 in
set_option maxRecDepth 100000 in
theorem lives_any (w : World) : Calls Try.prog 6 #[] w fun e w' => e = .returned (.bool true) ∧ Below w.heap.size w w' := by
  obtain ⟨T, hT⟩ : ∃ T, Im.F ⟨64, 66, 0, 0, 4, 0⟩ ++ (⟨#[254, 231, 254, 231]⟩ : ByteArray) = T := ⟨_, rfl⟩
  have hB := Im.ex_F
  have hP := Im.back Im.ex_err
  have h4 := Im.ex_4
  have hz : T.size = 68 := by rw [← hT, ByteArray.size_append, Im.F_size]; rfl
  rw [hT] at hB hP h4
  have HB := Lib.hid hB
  have HP := Lib.hid hP
  have HZ := Lib.hid hz
  have hi := fun w : World => run_byte (P := Try.prog) w 9 T 4 4 65 Try.underlying9 rfl h4
  clear hT hB hP h4
  go_enter Try.func6, Try.ntmps6
  go_wp2_with (first
    | (go_at_call 7; refine (build_lit _ _ _ _ _ _ _ T 0 _ (by decide) HB).mono ?_; rintro e w1 ⟨rfl, hb1⟩; have HB1 := Lib.hid hb1; clear hb1)
    | (go_at_call 10; refine (parse_lit T _ _ _ _ _ _ _ _ (by rw [HZ.out]; decide) HP).mono ?_; rintro e w2 ⟨rfl, hb2⟩; have HB2 := Lib.hid (below_on HB1.out hb2 HB1.out.size); clear hb2))
  go_ret
  exact ⟨rfl, HB2.out.alloc HB2.out.size _⟩
end Go.Proofs.Ytncbgfcmekaniaa
