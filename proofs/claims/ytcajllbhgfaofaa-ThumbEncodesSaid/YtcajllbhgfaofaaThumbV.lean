/-
  What the document's own Encode of thumb returns.
-/
import Derived.Test.YtcajllbhgfaofaaThumbU
import Derived.Test.YtcajllbhgfaofaaThumbE
import Derived.LoopN
import Derived.IntWalk
import Derived.LoopTactic
import Derived.Deep.LoopGhost
import Derived.Deep.RegionHeld3
namespace Go.Proofs.Ytcajllbhgfaofaa
open Go.ChangeShapes Go.WideShapes Go.ChangeAt Go.RowKit
set_option linter.unusedVariables false

/-- the letters from j on, up to e -/
def lets (B : ByteArray) (j e : Nat) : List UInt8 := (B.data.toList.take e).drop j
/-- behind the letters up to k the number is N: what the letters left, up to e, make of it is what all make of 0 -/
def KRel (i : Th.Ins) (B : ByteArray) (A k N : Nat) : Prop := Th.rhalf i N (lets B k (A + 16)) = Th.rhalf i 0 (lets B A (A + 16))
/-- the F letters behind letter j are like it -/
def Same (B : ByteArray) (j F : Nat) : Prop := ∀ m, m < F → (B.data.toList)[j + 1 + m]? = (B.data.toList)[j]?
theorem Same.start (B : ByteArray) (j : Nat) : Same B j 0 := fun m h => absurd h (Nat.not_lt_zero m)
theorem Same.more {B : ByteArray} {j F : Nat} (h : Same B j F) (e : (B.data.toList)[j + 1 + F]? = (B.data.toList)[j]?) : Same B j (F + 1) := fun m hm => by
  by_cases hq : m = F
  · subst hq; exact e
  · exact h m (by omega)
theorem same_get {B : ByteArray} {a b : Nat} (ha : a < B.size) (hb : b < B.size) (h : Hid (B[a] = B[b])) : (B.data.toList)[a]? = (B.data.toList)[b]? := by
  rw [has_take B a ha, has_take B b hb, h.out]
theorem KRel.start (i : Th.Ins) (B : ByteArray) (A : Nat) : KRel i B A A 0 := rfl
theorem lets_cons (B : ByteArray) (j e : Nat) (hj : j < e) (he : e ≤ B.size) : lets B j e = B[j] :: lets B (j + 1) e := by
  unfold lets
  have hl : j < (B.data.toList.take e).length := by
    rw [List.length_take]
    have : B.data.toList.length = B.size := by simp
    omega
  rw [List.drop_eq_getElem_cons hl, List.getElem_take]
  congr 1
theorem lets_get (B : ByteArray) (j e m : Nat) : (lets B j e)[m]? = if j + m < e then B.data.toList[j + m]? else none := by
  unfold lets
  rw [List.getElem?_drop, List.getElem?_take]
theorem lets_end (B : ByteArray) (e : Nat) : lets B e e = [] := by
  unfold lets
  exact List.drop_eq_nil_of_le (by rw [List.length_take]; omega)
theorem run_is (c : UInt8) : ∀ (F : Nat) (R : List UInt8), (∀ m, m < F → R[m]? = some c) → ¬ R[F]? = some c → Th.rrun c R = F := by
  intro F
  induction F with
  | zero =>
    intro R _ h
    cases R with
    | nil => rfl
    | cons x R =>
      have : ¬ x = c := fun e => h (by rw [e]; rfl)
      rw [Th.rrun, if_neg (by simpa using this)]
  | succ F ih =>
    intro R h0 h
    cases R with
    | nil => have := h0 0 (by omega); cases this
    | cons x R =>
      have hx : x = c := by have := h0 0 (by omega); simpa using this
      rw [Th.rrun, if_pos (by simpa using hx), ih R (fun m hm => by have := h0 (m + 1) (by omega); simpa using this) (by simpa using h)]
theorem same_run {B : ByteArray} {j F e : Nat} (hj : j < B.size) (he : e ≤ B.size) (h : Same B j F) (hF : j + 1 + F ≤ e) (hend : j + 1 + F = e ∨ ¬ (B.data.toList)[j + 1 + F]? = (B.data.toList)[j]?) : Th.rrun B[j] (lets B (j + 1) e) = F := by
  apply run_is
  · intro m hm
    rw [lets_get, if_pos (by omega), h m hm, has_take B j hj]
  · rw [lets_get]
    split
    · rcases hend with g | g
      · omega
      · rw [has_take B j hj] at g; exact g
    · intro c; cases c
theorem rbit_le (x : Int) (n : Nat) : Th.rbit x n < 2 := Nat.mod_lt _ (by decide)
theorem rfield_lt (i : Th.Ins) (c : UInt8) (f : Nat) : Th.rfield i c f < 2 := by
  unfold Th.rfield
  repeat' split
  all_goals first | exact rbit_le _ _ | omega
theorem KRel.step {i : Th.Ins} {B : ByteArray} {A j N F : Nat} (h : KRel i B A j N) (hj : j < A + 16) (he : A + 16 ≤ B.size) (hr : Th.rrun (B[j]'(by omega)) (lets B (j + 1) (A + 16)) = F) : KRel i B A (j + 1) (2 * N + Th.rfield i (B[j]'(by omega)) F) := by
  unfold KRel at *
  rw [lets_cons B j (A + 16) hj he, Th.rhalf, hr] at h
  exact h
/-- the bytes of the first h halves -/
def outS (i : Th.Ins) (B : ByteArray) : Nat → ByteArray
  | 0 => ⟨#[]⟩
  | h + 1 => outS i B h ++ Th.str2 (Th.rhalf i 0 (lets B (16 * h) (16 * h + 16)))
theorem outS_size (i : Th.Ins) (B : ByteArray) (h : Nat) : (outS i B h).size = 2 * h := by
  induction h with
  | zero => rfl
  | succ h ih =>
    rw [outS, ByteArray.size_append, ih]
    have : (Th.str2 (Th.rhalf i 0 (lets B (16 * h) (16 * h + 16)))).size = 2 := rfl
    omega
theorem KRel.done {i : Th.Ins} {B : ByteArray} {h N : Nat} (k : KRel i B (16 * h) (16 * h + 16) N) : outS i B h ++ Th.str2 N = outS i B (h + 1) := by
  unfold KRel at k
  rw [lets_end, Th.rhalf] at k
  rw [outS, ← k]
theorem pow_step (a b N f : Nat) (h : N < 2 ^ a) (hf : f < 2) (e : b = a + 1) : 2 * N + f < 2 ^ b := by
  rw [e, Nat.pow_succ]; omega
set_option maxHeartbeats 8000000 in
set_option maxRecDepth 100000 in
theorem renc (op rd rn rm ra imm cond : Int) (wide : Bool) (w : World) (h0 : (Th.check ⟨op, rd, rn, rm, ra, imm, cond, wide⟩ != 0) = false) (h1 : 0 ≤ rd ∧ rd ≤ 12) (h2 : 0 ≤ rn ∧ rn ≤ 12) (h3 : 0 ≤ rm ∧ rm ≤ 12) (h4 : 0 ≤ ra ∧ ra ≤ 32) (h5 : -16777216 ≤ imm ∧ imm ≤ 16777214) (h6 : 0 ≤ cond ∧ cond ≤ 13) (B : ByteArray) (H : Nat) (HB : Hid (Th.rbits op wide = B)) (hB : 16 * H ≤ B.size) (hB' : B.size ≤ 16 * H) (hH : H ≤ 2) (hL : Hid (∀ k (hk : k < B.size), Letter B[k] ∧ (B[k] = 119 → 1 ≤ imm + ra))) :
    Calls Try.prog 20 #[.agg #[.int .i64 op, .int .i64 rd, .int .i64 rn, .int .i64 rm, .int .i64 ra, .int .i64 imm, .int .i64 cond, .bool wide]] w fun e w' => e = .returned (.tuple #[.string (outS ⟨op, rd, rn, rm, ra, imm, cond, wide⟩ B H), .int .i64 0]) ∧ Below w.heap.size w w' := by
  go_enter Try.func20, Try.ntmps20
  go_wp2_with (first | (go_at_call 15; refine (rcheck_any _ _ _ _ _ _ _ _ _).mono ?_; rintro e w1 ⟨rfl, hb1⟩; obtain ⟨hc, hf⟩ := bcell hb1) | (go_at_call 34; refine (rbits_any _ _ _).mono ?_; rintro e w' ⟨rfl, rfl⟩; rw [HB.out]))
  have hz := hb1.size
  simp at hz
  have HC := (ins_alloc w 23 op rd rn rm ra imm cond wide).below hb1 (by simp)
  have HW : Hid (Below w.heap.size w w1) := ((Below.refl _ _).alloc (Nat.le_refl _) _).trans (hb1.mono (by simp))
  have hs1 : w.heap.size < w1.heap.size := by omega
  clear hb1 hz hc hf
  generalize Value.agg #[.int .i64 op, _, _, _, _, _, _, _] = u0
  go_loopw [6, 7] (fun o a wr => Below w1.heap.size w1 wr ∧ InsAt wr w.heap.size op rd rn rm ra imm cond wide ∧ ∃ h : Nat, h ≤ H ∧ o = .string (outS ⟨op, rd, rn, rm, ra, imm, cond, wide⟩ B h) ∧ a = .int .i64 ((16 * h : Nat) : Int)) (fun _ a _ => 32 - (intOf a).toNat)
  case atStart => exact ⟨Below.refl _ _, HC, 0, by omega, rfl, rfl⟩
  case round =>
    obtain ⟨hbo, hio, h, hh, rfl, rfl⟩ := hrel
    clear HC
    generalize hO : outS ⟨op, rd, rn, rm, ra, imm, cond, wide⟩ B h = O
    have hOs : O.size = 2 * h := by rw [← hO]; exact outS_size _ _ _
    have hOs' : O.size ≤ 4 := by omega
    have HO := Lib.hid hO
    clear hO hOs
    generalize hA : 16 * h = A at *
    have HA := Lib.hid hA
    by_cases hlo : h < H
    · have hAB : A + 16 ≤ B.size := by omega
      have hAt : (A : Int) < (B.size : Int) := by omega
      have hA32 : A ≤ 16 := by omega
      clear hA
      go_wp2
      go_loopw [8, 9] (fun n k wr => Below w1.heap.size w1 wr ∧ InsAt wr w.heap.size op rd rn rm ra imm cond wide ∧ ∃ j N : Nat, A ≤ j ∧ j ≤ A + 16 ∧ N < 2 ^ (j - A) ∧ k = .int .i64 (j : Int) ∧ n = .int .i64 (N : Int) ∧ KRel ⟨op, rd, rn, rm, ra, imm, cond, wide⟩ B A j N) (fun _ k _ => A + 16 - (intOf k).toNat)
      case atStart => exact ⟨hbo, hio, A, 0, by omega, by omega, Nat.two_pow_pos _, rfl, rfl, KRel.start _ _ _⟩
      case round =>
        obtain ⟨hbr, hir, j, N, hjA, hj, hN, rfl, rfl, hK⟩ := hrel
        have HK := Lib.hid hK
        have HN := Lib.hid hN
        clear hK
        have hN16 : N < 65536 := by
          have : 2 ^ (j - A) ≤ 2 ^ 16 := Nat.pow_le_pow_right (by decide) (by omega)
          omega
        clear hN
        by_cases hlt : j < A + 16
        · have hjB : j < B.size := by omega
          have hlt' : (j : Int) < (A : Int) + 16 := by omega
          go_wp2
          go_loopw [10] (fun f wr' => Below w1.heap.size w1 wr' ∧ InsAt wr' w.heap.size op rd rn rm ra imm cond wide ∧ ∃ F : Nat, j + 1 + F ≤ A + 16 ∧ f = .int .i64 (F : Int) ∧ Same B j F) (fun f _ => 32 - (intOf f).toNat)
          case atStart => exact ⟨hbr, hir, 0, by omega, rfl, Same.start _ _⟩
          case round =>
            obtain ⟨hb2, hi2, F, hF, rfl, hS⟩ := hrel
            have HS := Lib.hid hS
            clear hS
            have q1 : IntKind.i64.wrap ((j : Int) + 1) = (j : Int) + 1 := IntWalk.i64_in _ (by omega)
            have q2 : IntKind.i64.wrap ((j : Int) + 1 + (F : Int)) = (j : Int) + 1 + (F : Int) := IntWalk.i64_in _ (by omega)
            have q8 : IntKind.i64.wrap ((A : Int) + 16) = (A : Int) + 16 := IntWalk.i64_in _ (by omega)
            by_cases g1 : j + 1 + F < A + 16
            · have hF2 : j + 1 + F < B.size := by omega
              have q3 : decide ((j : Int) + 1 + (F : Int) < (A : Int) + 16) = true := by simp; omega
              have q4 : (0 : Int) ≤ (j : Int) + 1 + (F : Int) := by omega
              have q5 : ((j : Int) + 1 + (F : Int)).toNat = j + 1 + F := by omega
              have q6 : (j : Int) + 1 + (F : Int) < (B.size : Int) := by omega
              by_cases g2 : B[j + 1 + F] = B[j]
              · have q7 : ((B[j + 1 + F].toNat : Int) == (B[j].toNat : Int)) = true := by rw [g2]; simp
                have g2' := Lib.hid g2
                clear g2
                go_wp2
                go_quiet (fail)
                go_wp2
                have HS' := Same.more HS.out (same_get hF2 hjB g2')
                refine ⟨⟨?_, ?_, F + 1, by omega, by go_num, HS'⟩, by simp [intOf]; omega⟩
                · exact below_drewN hb2 _
                · exact hi2
              · have q7 : ((B[j + 1 + F].toNat : Int) == (B[j].toNat : Int)) = false := by
                  rw [beq_eq_false_iff_ne]; intro e; exact g2 (UInt8.toNat_inj.1 (Int.ofNat_inj.1 e))
                have HR := Lib.hid (same_run hjB hAB HS.out (by omega) (Or.inr (by rw [has_take B _ hF2, has_take B _ hjB]; intro e; exact g2 (Option.some.inj e))))
                have HF := Lib.hid (rfield_lt ⟨op, rd, rn, rm, ra, imm, cond, wide⟩ B[j] F)
                clear g2
                go_wp2
                go_quiet (fail)
                go_wp2
                generalize hG : World.drewN _ _ = wg
                have hbg : Below w1.heap.size w1 wg := by rw [← hG]; exact below_drewN hb2 _
                have hig : InsAt wg w.heap.size op rd rn rm ra imm cond wide := by rw [← hG]; exact hi2
                clear hG
                have HF := Lib.hid (rfield_lt ⟨op, rd, rn, rm, ra, imm, cond, wide⟩ B[j] F)
                have HL' := Lib.hid (hL.out j hjB)
                have y1 : (0 : Int) ≤ (j : Int) := by omega
                have y2 : (j : Int).toNat = j := by omega
                have y3 : (j : Int) < (B.size : Int) := by omega
                have hg : w.heap.size < wg.heap.size := by have := hbg.size; omega
                have hfl := HF.out
                have z1 : IntKind.i64.wrap (2 * (N : Int)) = 2 * (N : Int) := IntWalk.i64_in _ (by omega)
                have z2 : IntKind.i64.wrap (2 * (N : Int) + ((Th.rfield ⟨op, rd, rn, rm, ra, imm, cond, wide⟩ B[j] F : Nat) : Int)) = 2 * (N : Int) + ((Th.rfield ⟨op, rd, rn, rm, ra, imm, cond, wide⟩ B[j] F : Nat) : Int) := IntWalk.i64_in _ (by omega)
                clear hfl
                go_region_held3 (fun wx => Below wg.heap.size wg wx ∧ InsAt wx w.heap.size op rd rn rm ra imm cond wide)
                  (first | exact ⟨(Below.refl _ _).drew, hig⟩ | exact sy_step (by assumption) (by assumption) hg)
                  (first | (go_at_call 41; refine (rfield_any _ _ _ _ _ _ _ _ B[j] F _ (by omega) h1 h2 h3 h4 h5 h6 HL'.out.2 HL'.out.1).mono ?_; rintro e w5 ⟨rfl, hb5⟩))
                rename_i hH
                clear z1 z2
                go_wp2
                have HK' := HK.out.step hlt hAB HR.out
                refine ⟨⟨hbg.trans (hH.1.mono hbg.size), hH.2, j + 1, 2 * N + Th.rfield ⟨op, rd, rn, rm, ra, imm, cond, wide⟩ B[j] F, by omega, by omega, pow_step (j - A) (j + 1 - A) N _ HN.out HF.out (by omega), by go_num, by go_num, HK'⟩, by simp [intOf]; omega⟩
            · have q3 : decide ((j : Int) + 1 + (F : Int) < (A : Int) + 16) = false := by simp; omega
              have HR := Lib.hid (same_run hjB hAB HS.out (by omega) (Or.inl (by omega)))
              go_wp2
              go_quiet (fail)
              go_wp2
              generalize hG : World.drewN _ _ = wg
              have hbg : Below w1.heap.size w1 wg := by rw [← hG]; exact below_drewN hb2 _
              have hig : InsAt wg w.heap.size op rd rn rm ra imm cond wide := by rw [← hG]; exact hi2
              clear hG
              have HF := Lib.hid (rfield_lt ⟨op, rd, rn, rm, ra, imm, cond, wide⟩ B[j] F)
              have HL' := Lib.hid (hL.out j hjB)
              have y1 : (0 : Int) ≤ (j : Int) := by omega
              have y2 : (j : Int).toNat = j := by omega
              have y3 : (j : Int) < (B.size : Int) := by omega
              have hg : w.heap.size < wg.heap.size := by have := hbg.size; omega
              have hfl := HF.out
              have z1 : IntKind.i64.wrap (2 * (N : Int)) = 2 * (N : Int) := IntWalk.i64_in _ (by omega)
              have z2 : IntKind.i64.wrap (2 * (N : Int) + ((Th.rfield ⟨op, rd, rn, rm, ra, imm, cond, wide⟩ B[j] F : Nat) : Int)) = 2 * (N : Int) + ((Th.rfield ⟨op, rd, rn, rm, ra, imm, cond, wide⟩ B[j] F : Nat) : Int) := IntWalk.i64_in _ (by omega)
              clear hfl
              go_region_held3 (fun wx => Below wg.heap.size wg wx ∧ InsAt wx w.heap.size op rd rn rm ra imm cond wide)
                (first | exact ⟨(Below.refl _ _).drew, hig⟩ | exact sy_step (by assumption) (by assumption) hg)
                (first | (go_at_call 41; refine (rfield_any _ _ _ _ _ _ _ _ B[j] F _ (by omega) h1 h2 h3 h4 h5 h6 HL'.out.2 HL'.out.1).mono ?_; rintro e w5 ⟨rfl, hb5⟩))
              rename_i hH
              clear z1 z2
              go_wp2
              have HK' := HK.out.step hlt hAB HR.out
              refine ⟨⟨hbg.trans (hH.1.mono hbg.size), hH.2, j + 1, 2 * N + Th.rfield ⟨op, rd, rn, rm, ra, imm, cond, wide⟩ B[j] F, by omega, by omega, pow_step (j - A) (j + 1 - A) N _ HN.out HF.out (by omega), by go_num, by go_num, HK'⟩, by simp [intOf]; omega⟩
        · have hge : ¬ (j : Int) < (A : Int) + 16 := by omega
          have hcat : ¬ 9223372036854775807 < O.size + (strOfNums [(N : Int) % 256, (N : Int) / 256]).size := by
            have : (strOfNums [(N : Int) % 256, (N : Int) / 256]).size = 2 := rfl
            omega
          have hr := run_str2
          go_wp2
          refine ⟨⟨hbr.alloc hbr.size _, InsAt.alloc hir (by have := hbr.size; omega) _, h + 1, by omega, ?_, ?_⟩, ?_⟩
          · have k := HK.out
            rw [show j = A + 16 by omega, ← HA.out] at k
            rw [← HO.out]
            exact congrArg Value.string k.done
          · exact congrArg (Value.int .i64) (by have := HA.out; omega)
          · simp [intOf]; omega
    · have hge : ¬ (A : Int) < (B.size : Int) := by omega
      have hge' : ¬ A < B.size := by omega
      have eh := Lib.hid (show h = H by omega)
      clear hA
      go_wp2
      go_ret2
      refine ⟨?_, HW.out.trans (hbo.mono (by omega))⟩
      rw [← HO.out, eh.out]
      rfl
end Go.Proofs.Ytcajllbhgfaofaa
