/-
  What the document's own Encode of thumb returns is what the program's does.
-/
import Derived.Test.YtcajllbhgfaofaaThumbV
import Derived.Test.YtcajllbhgfaofaaThumbM7
namespace Go.Proofs.Ytcajllbhgfaofaa
open Go.ChangeShapes Go.WideShapes Go.ChangeAt Go.RowKit
set_option linter.unusedVariables false

theorem lett (B : ByteArray) (imm ra : Int) (h : ∀ c ∈ B.data.toList, Letter c) (h' : (∀ c ∈ B.data.toList, ¬ c = 119) ∨ 1 ≤ imm + ra) : ∀ k (hk : k < B.size), Letter B[k] ∧ (B[k] = 119 → 1 ≤ imm + ra) := by
  intro k hk
  have hm : B[k] ∈ B.data.toList := by
    have : B.data.toList[k]? = some B[k] := has_take B k hk
    exact List.mem_of_getElem? this
  refine ⟨h _ hm, fun e => ?_⟩
  rcases h' with h' | h'
  · exact absurd e (h' _ hm)
  · exact h'
theorem out1 (i : Th.Ins) (B : ByteArray) (l : List UInt8) (h : lets B 0 16 = l) (hn : Th.rhalf i 0 l = Th.num i) (hc : Th.check i = 0) (hs : Th.size i = 2) : outS i B 1 = Th.encS i := by
  rw [Th.encS2 i hc hs]
  show (⟨#[]⟩ : ByteArray) ++ Th.str2 (Th.rhalf i 0 (lets B 0 16)) = _
  rw [h, hn, Th.str2_is]
  rfl
theorem out2 (i : Th.Ins) (B : ByteArray) (l m : List UInt8) (h : lets B 0 16 = l) (h' : lets B 16 32 = m) (hn : Th.rhalf i 0 l = Th.num i / 65536 ∧ Th.rhalf i 0 m = Th.num i % 65536) (hc : Th.check i = 0) (hs : Th.size i = 4) : outS i B 2 = Th.encS i := by
  have hb := Th.num4_bd i hc hs
  rw [Th.encS4 i hc hs]
  show ((⟨#[]⟩ : ByteArray) ++ Th.str2 (Th.rhalf i 0 (lets B 0 16))) ++ Th.str2 (Th.rhalf i 0 (lets B 16 32)) = _
  rw [h, h', hn.1, hn.2, Th.str2_is, Th.str2_is]
  have e0 : Th.by0 (Th.num i / 65536) = Th.b40 (Th.num i) := by unfold Th.by0 Th.b40; congr 1
  have e1 : Th.by1 (Th.num i / 65536) = Th.b41 (Th.num i) := by unfold Th.by1 Th.b41; congr 1; omega
  have e2 : Th.by0 (Th.num i % 65536) = Th.b42 (Th.num i) := by unfold Th.by0 Th.b42; congr 1; omega
  have e3 : Th.by1 (Th.num i % 65536) = Th.b43 (Th.num i) := by unfold Th.by1 Th.b43; congr 1; omega
  rw [e0, e1, e2, e3]
  rfl
theorem letter_of (c : UInt8) (h : (c == 48 || c == 49 || c == 100 || c == 110 || c == 109 || c == 97 || c == 99 || c == 119 || c == 120 || c == 121 || (decide (65 ≤ c.toNat) && decide (c.toNat ≤ 90))) = true) : Letter c := by
  unfold Letter
  simp only [Bool.or_eq_true, Bool.and_eq_true, beq_iff_eq, decide_eq_true_eq, or_assoc] at h
  exact h
def letterB (c : UInt8) : Bool := c == 48 || c == 49 || c == 100 || c == 110 || c == 109 || c == 97 || c == 99 || c == 119 || c == 120 || c == 121 || (decide (65 ≤ c.toNat) && decide (c.toNat ≤ 90))
theorem letters (l : List UInt8) (h : l.all letterB = true) : ∀ c ∈ l, Letter c := fun c hc => letter_of c (by rw [List.all_eq_true] at h; exact h c hc)
theorem no119 (l : List UInt8) (h : l.all (fun c => c != 119) = true) : ∀ c ∈ l, ¬ c = 119 := fun c hc => by
  rw [List.all_eq_true] at h
  have := h c hc
  simpa using this
set_option maxHeartbeats 4000000 in
theorem renc_bad (op rd rn rm ra imm cond : Int) (wide : Bool) (w : World) (h0 : (Th.check ⟨op, rd, rn, rm, ra, imm, cond, wide⟩ != 0) = true) :
    Calls Try.prog 20 #[.agg #[.int .i64 op, .int .i64 rd, .int .i64 rn, .int .i64 rm, .int .i64 ra, .int .i64 imm, .int .i64 cond, .bool wide]] w fun e w' => e = .returned (.tuple #[.string ⟨#[]⟩, .int .i64 (Th.check ⟨op, rd, rn, rm, ra, imm, cond, wide⟩)]) ∧ Below w.heap.size w w' := by
  go_enter Try.func20, Try.ntmps20
  go_wp2_with (go_at_call 15; refine (rcheck_any _ _ _ _ _ _ _ _ _).mono ?_; rintro e w1 ⟨rfl, hb1⟩)
  go_ret2
  exact ⟨rfl, ((Below.refl _ _).alloc (Nat.le_refl _) _).trans (hb1.mono (by simp))⟩
theorem renc_ok (op rd rn rm ra imm cond : Int) (wide : Bool) (w : World) (h : Th.check ⟨op, rd, rn, rm, ra, imm, cond, wide⟩ = 0) (h1 : 0 ≤ rd ∧ rd ≤ 12) (h2 : 0 ≤ rn ∧ rn ≤ 12) (h3 : 0 ≤ rm ∧ rm ≤ 12) (h4 : 0 ≤ ra ∧ ra ≤ 32) (h5 : -16777216 ≤ imm ∧ imm ≤ 16777214) (h6 : 0 ≤ cond ∧ cond ≤ 13) (H : Nat) (hB : (Th.rbits op wide).size = 16 * H) (hH : H ≤ 2) (hL : ∀ c ∈ (Th.rbits op wide).data.toList, Letter c) (hL' : (∀ c ∈ (Th.rbits op wide).data.toList, ¬ c = 119) ∨ 1 ≤ imm + ra) (ho : outS ⟨op, rd, rn, rm, ra, imm, cond, wide⟩ (Th.rbits op wide) H = Th.encS ⟨op, rd, rn, rm, ra, imm, cond, wide⟩) :
    Calls Try.prog 20 #[.agg #[.int .i64 op, .int .i64 rd, .int .i64 rn, .int .i64 rm, .int .i64 ra, .int .i64 imm, .int .i64 cond, .bool wide]] w fun e w' => e = .returned (.tuple #[.string (Th.encS ⟨op, rd, rn, rm, ra, imm, cond, wide⟩), .int .i64 (Th.check ⟨op, rd, rn, rm, ra, imm, cond, wide⟩)]) ∧ Below w.heap.size w w' := by
  have := renc op rd rn rm ra imm cond wide w (by rw [h]; rfl) h1 h2 h3 h4 h5 h6 (Th.rbits op wide) H (Lib.hid rfl) (by omega) (by omega) hH (Lib.hid (lett _ imm ra hL hL'))
  rw [ho] at this
  rw [h]
  exact this
set_option maxRecDepth 100000 in
theorem rencode_any (op rd rn rm ra imm cond : Int) (wide : Bool) (w : World) :
    Calls Try.prog 20 #[.agg #[.int .i64 op, .int .i64 rd, .int .i64 rn, .int .i64 rm, .int .i64 ra, .int .i64 imm, .int .i64 cond, .bool wide]] w fun e w' => e = .returned (.tuple #[.string (Th.encS ⟨op, rd, rn, rm, ra, imm, cond, wide⟩), .int .i64 (Th.check ⟨op, rd, rn, rm, ra, imm, cond, wide⟩)]) ∧ Below w.heap.size w w' := by
  by_cases h : Th.check ⟨op, rd, rn, rm, ra, imm, cond, wide⟩ = 0
  · rcases Th.op_cases (Th.op_range h) with rfl | rfl | rfl | rfl | rfl | rfl | rfl | rfl | rfl | rfl | rfl | rfl | rfl | rfl | rfl | rfl | rfl | rfl | rfl | rfl | rfl | rfl | rfl | rfl | rfl
    · have h' := h
      rw [Th.ok1] at h'
      obtain ⟨g1, g2, g3, g4, g5, g6, rfl⟩ := h'
      exact renc_ok _ _ _ _ _ _ _ _ w h (by omega) (by omega) (by omega) (by omega) (by omega) (by omega) 1 rfl (by decide) (letters _ (by decide)) (Or.inl (no119 _ (by decide))) (out1 _ _ _ rfl (Th.half1 _ _ _ _ _ _ (by omega)) h (Th.size1 _ _ _ _ _ _ _ h))
    · have h' := h
      rw [Th.ok2] at h'
      obtain ⟨g1, g2, g3, g4, g5, g6, rfl⟩ := h'
      exact renc_ok _ _ _ _ _ _ _ _ w h (by omega) (by omega) (by omega) (by omega) (by omega) (by omega) 1 rfl (by decide) (letters _ (by decide)) (Or.inl (no119 _ (by decide))) (out1 _ _ _ rfl (Th.half2 _ _ _ _ _ _ (by omega)) h (Th.size2 _ _ _ _ _ _ _ h))
    · have h' := h
      rw [Th.ok3] at h'
      obtain ⟨g1, g2, g3, g4, g5, g6, rfl⟩ := h'
      exact renc_ok _ _ _ _ _ _ _ _ w h (by omega) (by omega) (by omega) (by omega) (by omega) (by omega) 2 rfl (by decide) (letters _ (by decide)) (Or.inl (no119 _ (by decide))) (out2 _ _ _ _ rfl rfl (Th.half3 _ _ _ _ _ _ (by omega)) h (Th.size3 _ _ _ _ _ _ _ h))
    · have h' := h
      rw [Th.ok4] at h'
      obtain ⟨g1, g2, g3, g4, g5, g6, rfl⟩ := h'
      exact renc_ok _ _ _ _ _ _ _ _ w h (by omega) (by omega) (by omega) (by omega) (by omega) (by omega) 2 rfl (by decide) (letters _ (by decide)) (Or.inl (no119 _ (by decide))) (out2 _ _ _ _ rfl rfl (Th.half4 _ _ _ _ _ _ (by omega)) h (Th.size4 _ _ _ _ _ _ _ h))
    · have h' := h
      rw [Th.ok5] at h'
      obtain ⟨g1, g2, g3, g4, g5, g6, rfl⟩ := h'
      exact renc_ok _ _ _ _ _ _ _ _ w h (by omega) (by omega) (by omega) (by omega) (by omega) (by omega) 2 rfl (by decide) (letters _ (by decide)) (Or.inl (no119 _ (by decide))) (out2 _ _ _ _ rfl rfl (Th.half5 _ _ _ _ _ _ (by omega)) h (Th.size5 _ _ _ _ _ _ _ h))
    · have h' := h
      rw [Th.ok6] at h'
      obtain ⟨g1, g2, g3, g4, g5, g6, rfl⟩ := h'
      exact renc_ok _ _ _ _ _ _ _ _ w h (by omega) (by omega) (by omega) (by omega) (by omega) (by omega) 2 rfl (by decide) (letters _ (by decide)) (Or.inl (no119 _ (by decide))) (out2 _ _ _ _ rfl rfl (Th.half6 _ _ _ _ _ _ (by omega)) h (Th.size6 _ _ _ _ _ _ _ h))
    · have h' := h
      rw [Th.ok7] at h'
      obtain ⟨g1, g2, g3, g4, g5, g6, rfl⟩ := h'
      exact renc_ok _ _ _ _ _ _ _ _ w h (by omega) (by omega) (by omega) (by omega) (by omega) (by omega) 2 rfl (by decide) (letters _ (by decide)) (Or.inl (no119 _ (by decide))) (out2 _ _ _ _ rfl rfl (Th.half7 _ _ _ _ _ _ (by omega)) h (Th.size7 _ _ _ _ _ _ _ h))
    · have h' := h
      rw [Th.ok8] at h'
      obtain ⟨g1, g2, g3, g4, g5, g6, rfl⟩ := h'
      exact renc_ok _ _ _ _ _ _ _ _ w h (by omega) (by omega) (by omega) (by omega) (by omega) (by omega) 2 rfl (by decide) (letters _ (by decide)) (Or.inl (no119 _ (by decide))) (out2 _ _ _ _ rfl rfl (Th.half8 _ _ _ _ _ _ (by omega)) h (Th.size8 _ _ _ _ _ _ _ h))
    · have h' := h
      rw [Th.ok9] at h'
      obtain ⟨g1, g2, g3, g4, g5, g6, rfl⟩ := h'
      exact renc_ok _ _ _ _ _ _ _ _ w h (by omega) (by omega) (by omega) (by omega) (by omega) (by omega) 2 rfl (by decide) (letters _ (by decide)) (Or.inl (no119 _ (by decide))) (out2 _ _ _ _ rfl rfl (Th.half9 _ _ _ _ _ _ (by omega)) h (Th.size9 _ _ _ _ _ _ _ h))
    · have h' := h
      rw [Th.ok10] at h'
      obtain ⟨g1, g2, g3, g4, g5, g6, rfl⟩ := h'
      exact renc_ok _ _ _ _ _ _ _ _ w h (by omega) (by omega) (by omega) (by omega) (by omega) (by omega) 2 rfl (by decide) (letters _ (by decide)) (Or.inl (no119 _ (by decide))) (out2 _ _ _ _ rfl rfl (Th.half10 _ _ _ _ _ _ (by omega)) h (Th.size10 _ _ _ _ _ _ _ h))
    · have h' := h
      rw [Th.ok11] at h'
      obtain ⟨g1, g2, g3, g4, g5, g6, rfl⟩ := h'
      exact renc_ok _ _ _ _ _ _ _ _ w h (by omega) (by omega) (by omega) (by omega) (by omega) (by omega) 2 rfl (by decide) (letters _ (by decide)) (Or.inl (no119 _ (by decide))) (out2 _ _ _ _ rfl rfl (Th.half11 _ _ _ _ _ _ (by omega)) h (Th.size11 _ _ _ _ _ _ _ h))
    · have h' := h
      rw [Th.ok12] at h'
      obtain ⟨g1, g2, g3, g4, g5, g6, rfl⟩ := h'
      exact renc_ok _ _ _ _ _ _ _ _ w h (by omega) (by omega) (by omega) (by omega) (by omega) (by omega) 2 rfl (by decide) (letters _ (by decide)) (Or.inl (no119 _ (by decide))) (out2 _ _ _ _ rfl rfl (Th.half12 _ _ _ _ _ _ (by omega)) h (Th.size12 _ _ _ _ _ _ _ h))
    · have h' := h
      rw [Th.ok13] at h'
      obtain ⟨g1, g2, g3, g4, g5, g6, rfl⟩ := h'
      exact renc_ok _ _ _ _ _ _ _ _ w h (by omega) (by omega) (by omega) (by omega) (by omega) (by omega) 2 rfl (by decide) (letters _ (by decide)) (Or.inl (no119 _ (by decide))) (out2 _ _ _ _ rfl rfl (Th.half13 _ _ _ _ _ _ (by omega)) h (Th.size13 _ _ _ _ _ _ _ h))
    · have h' := h
      rw [Th.ok14] at h'
      obtain ⟨g1, g2, g3, g4, g5, g6, rfl⟩ := h'
      exact renc_ok _ _ _ _ _ _ _ _ w h (by omega) (by omega) (by omega) (by omega) (by omega) (by omega) 2 rfl (by decide) (letters _ (by decide)) (Or.inl (no119 _ (by decide))) (out2 _ _ _ _ rfl rfl (Th.half14 _ _ _ _ _ _ (by omega)) h (Th.size14 _ _ _ _ _ _ _ h))
    · have h' := h
      rw [Th.ok15] at h'
      obtain ⟨g1, g2, g3, g4, g5, g6, rfl⟩ := h'
      exact renc_ok _ _ _ _ _ _ _ _ w h (by omega) (by omega) (by omega) (by omega) (by omega) (by omega) 2 rfl (by decide) (letters _ (by decide)) (Or.inl (no119 _ (by decide))) (out2 _ _ _ _ rfl rfl (Th.half15 _ _ _ _ _ _ (by omega)) h (Th.size15 _ _ _ _ _ _ _ h))
    · have h' := h
      rw [Th.ok16] at h'
      obtain ⟨g1, g2, g3, g4, g5, g6, rfl⟩ := h'
      exact renc_ok _ _ _ _ _ _ _ _ w h (by omega) (by omega) (by omega) (by omega) (by omega) (by omega) 2 rfl (by decide) (letters _ (by decide)) (Or.inl (no119 _ (by decide))) (out2 _ _ _ _ rfl rfl (Th.half16 _ _ _ _ _ _ (by omega)) h (Th.size16 _ _ _ _ _ _ _ h))
    · have h' := h
      rw [Th.ok17] at h'
      obtain ⟨g1, g2, g3, g4, g5, g6, rfl⟩ := h'
      exact renc_ok _ _ _ _ _ _ _ _ w h (by omega) (by omega) (by omega) (by omega) (by omega) (by omega) 2 rfl (by decide) (letters _ (by decide)) (Or.inl (no119 _ (by decide))) (out2 _ _ _ _ rfl rfl (Th.half17 _ _ _ _ _ _ (by omega)) h (Th.size17 _ _ _ _ _ _ _ h))
    · have h' := h
      rw [Th.ok18] at h'
      obtain ⟨g1, g2, g3, g4, g5, g6, rfl⟩ := h'
      exact renc_ok _ _ _ _ _ _ _ _ w h (by omega) (by omega) (by omega) (by omega) (by omega) (by omega) 2 rfl (by decide) (letters _ (by decide)) (Or.inr (by omega)) (out2 _ _ _ _ rfl rfl (Th.half18 _ _ _ _ _ _ (by omega)) h (Th.size18 _ _ _ _ _ _ _ h))
    · have h' := h
      rw [Th.ok19] at h'
      obtain ⟨g1, g2, g3, g4, g5, g6, rfl⟩ := h'
      exact renc_ok _ _ _ _ _ _ _ _ w h (by omega) (by omega) (by omega) (by omega) (by omega) (by omega) 1 rfl (by decide) (letters _ (by decide)) (Or.inl (no119 _ (by decide))) (out1 _ _ _ rfl (Th.half19 _ _ _ _ _ _ (by omega)) h (Th.size19 _ _ _ _ _ _ _ h))
    · have h' := h
      rw [Th.ok20] at h'
      obtain ⟨g1, g2, g3, g4, g5, g6, rfl⟩ := h'
      exact renc_ok _ _ _ _ _ _ _ _ w h (by omega) (by omega) (by omega) (by omega) (by omega) (by omega) 1 rfl (by decide) (letters _ (by decide)) (Or.inl (no119 _ (by decide))) (out1 _ _ _ rfl (Th.half20 _ _ _ _ _ _ (by omega)) h (Th.size20 _ _ _ _ _ _ _ h))
    · have h' := h
      rw [Th.ok21] at h'
      obtain ⟨g1, g2, g3, g4, g5, g6, rfl⟩ := h'
      exact renc_ok _ _ _ _ _ _ _ _ w h (by omega) (by omega) (by omega) (by omega) (by omega) (by omega) 1 rfl (by decide) (letters _ (by decide)) (Or.inl (no119 _ (by decide))) (out1 _ _ _ rfl (Th.half21 _ _ _ _ _ _ (by omega)) h (Th.size21 _ _ _ _ _ _ _ h))
    · have h' := h
      rw [Th.ok22] at h'
      obtain ⟨g1, g2, g3, g4, g5, g6, rfl⟩ := h'
      exact renc_ok _ _ _ _ _ _ _ _ w h (by omega) (by omega) (by omega) (by omega) (by omega) (by omega) 1 rfl (by decide) (letters _ (by decide)) (Or.inl (no119 _ (by decide))) (out1 _ _ _ rfl (Th.half22 _ _ _ _ _ _ (by omega)) h (Th.size22 _ _ _ _ _ _ _ h))
    · have h' := h
      rw [Th.ok23] at h'
      obtain ⟨g1, g2, g3, g4, g5, g6, rfl⟩ := h'
      exact renc_ok _ _ _ _ _ _ _ _ w h (by omega) (by omega) (by omega) (by omega) (by omega) (by omega) 1 rfl (by decide) (letters _ (by decide)) (Or.inl (no119 _ (by decide))) (out1 _ _ _ rfl (Th.half23 _ _ _ _ _ _ (by omega)) h (Th.size23 _ _ _ _ _ _ _ h))
    · cases wide
      · have h' := h
        rw [Th.ok24] at h'
        simp at h'
        exact renc_ok _ _ _ _ _ _ _ _ w h (by omega) (by omega) (by omega) (by omega) (by omega) (by omega) 1 rfl (by decide) (letters _ (by decide)) (Or.inl (no119 _ (by decide))) (out1 _ _ _ rfl (Th.half24n _ _ _ _ _ _) h (Th.size24n _ _ _ _ _ _ h))
      · have h' := h
        rw [Th.ok24] at h'
        simp at h'
        exact renc_ok _ _ _ _ _ _ _ _ w h (by omega) (by omega) (by omega) (by omega) (by omega) (by omega) 2 rfl (by decide) (letters _ (by decide)) (Or.inl (no119 _ (by decide))) (out2 _ _ _ _ rfl rfl (Th.half24w _ _ _ _ _ _ (Th.off_bd imm (by omega)).1) h (Th.size24w _ _ _ _ _ _ h))
    · cases wide
      · have h' := h
        rw [Th.ok25] at h'
        simp at h'
        exact renc_ok _ _ _ _ _ _ _ _ w h (by omega) (by omega) (by omega) (by omega) (by omega) (by omega) 1 rfl (by decide) (letters _ (by decide)) (Or.inl (no119 _ (by decide))) (out1 _ _ _ rfl (Th.half25n _ _ _ _ _ _) h (Th.size25n _ _ _ _ _ _ h))
      · have h' := h
        rw [Th.ok25] at h'
        simp at h'
        exact renc_ok _ _ _ _ _ _ _ _ w h (by omega) (by omega) (by omega) (by omega) (by omega) (by omega) 2 rfl (by decide) (letters _ (by decide)) (Or.inl (no119 _ (by decide))) (out2 _ _ _ _ rfl rfl (Th.half25w _ _ _ _ _ _) h (Th.size25w _ _ _ _ _ _ h))
  · have e : Th.encS ⟨op, rd, rn, rm, ra, imm, cond, wide⟩ = ⟨#[]⟩ := by unfold Th.encS; rw [if_neg h]
    rw [e]
    exact renc_bad op rd rn rm ra imm cond wide w (by simpa using h)
end Go.Proofs.Ytcajllbhgfaofaa
