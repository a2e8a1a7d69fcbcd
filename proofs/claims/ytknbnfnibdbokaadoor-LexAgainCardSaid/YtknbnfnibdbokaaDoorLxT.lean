/-
  What the document's Text returns (layer 11).
-/
import Derived.Laws.BytesArg
import Derived.Test.YtknbnfnibdbokaaDoorLxS
namespace Go.Proofs.YtknbnfnibdbokaaDoor
open Go.ChangeShapes Go.WideShapes Go.ChangeAt Go.RowKit
set_option linter.unusedVariables false
set_option linter.unusedSimpArgs false

theorem text_conv (wr : World) (m : Nat) (c : UInt8) (hc : UInt8.ofNat (48 + m % 10) = c) :
    (convert 49 9 (.slice (some ⟨wr.heap.size, 0, none⟩) 1 1)).run Tryd.prog (wr.alloc (.cells #[.int .u8 (48 + (m : Int) % 10)] 5)) = .ok (.string (Lx.S [c])) (wr.alloc (.cells #[.int .u8 (48 + (m : Int) % 10)] 5)) := by
  have h := run_convert_bytes_arg (P := Tryd.prog) (wr.alloc (.cells #[.int .u8 (48 + (m : Int) % 10)] 5)) 49 5 Tryd.underlying49 Tryd.underlying5 wr.heap.size 0 1 1 [48 + (m : Int) % 10] rfl (fun i hi => by
    obtain rfl : i = 0 := by omega
    simp [go_sem]) 9 Tryd.underlying9
  rw [h]
  have he : strOfNums [48 + (m : Int) % 10] = Lx.S [c] := by
    unfold strOfNums Lx.S
    rw [← hc, List.map_cons, List.map_nil, show ((48 + (m : Int) % 10).toNat) = 48 + m % 10 from by omega]
  rw [he]
theorem text_push (c : UInt8) (acc : List UInt8) : Lx.S [c] ++ Lx.S acc = Lx.S (c :: acc) := by
  rw [← Lx.S_of (Lx.S [c] ++ Lx.S acc)]
  congr 1
/-- what Text's loop keeps -/
def Lx.Tx (R : List UInt8) (f m : Nat) (acc : List UInt8) : Prop := acc.length + f = 10 ∧ m < 10 ^ f ∧ m < 4294967296 ∧ Lx.dec f m acc = R
theorem Lx.Tx_start (n : Int) (h0 : 0 < n) (hn : n < 4294967296) : Lx.Tx (Lx.dec 10 n.toNat []) 10 n.toNat [] := ⟨rfl, by omega, by omega, rfl⟩
theorem Lx.Tx_le {R : List UInt8} {f m : Nat} {acc : List UInt8} (h : Lx.Tx R f m acc) : acc.length ≤ 10 ∧ (m : Int) / 10 ≤ 429496729 := by
  obtain ⟨h1, _, h3, _⟩ := h
  constructor <;> omega
theorem Lx.Tx_step {R : List UInt8} {f m : Nat} {acc : List UInt8} {c : UInt8} (h : Lx.Tx R f m acc) (hm : 0 < m) (hc : UInt8.ofNat (48 + m % 10) = c) : ∃ g, Lx.Tx R g (m / 10) (c :: acc) := by
  obtain ⟨h1, h2, h3, h4⟩ := h
  cases f with
  | zero => exfalso; simp at h2; omega
  | succ g =>
    rw [Nat.pow_succ] at h2
    rw [Lx.dec, if_neg (by omega), hc] at h4
    exact ⟨g, by rw [List.length_cons]; omega, by omega, by omega, h4⟩
theorem Lx.Tx_end {R : List UInt8} {f : Nat} {acc : List UInt8} (h : Lx.Tx R f 0 acc) : R = acc := by
  obtain ⟨_, _, _, h4⟩ := h
  cases f with
  | zero => rw [← h4]; rfl
  | succ g => rw [← h4, Lx.dec, if_pos rfl]
set_option maxHeartbeats 8000000 in
set_option maxRecDepth 100000 in
theorem rtext_any (k p n : Int) (t : ByteArray) (hn : n < 4294967296) (w : World) :
    Calls Tryd.prog 10 #[.agg (tkA k p n t)] w fun e w' => e = .returned (.string (if k ≠ 2 then t else if n ≤ 0 then ⟨#[48]⟩ else Lx.S (Lx.dec 10 n.toNat []))) ∧ Below w.heap.size w w' := by
  by_cases h2 : k = 2
  · subst h2
    by_cases h0 : n ≤ 0
    · rw [if_neg (by decide), if_pos h0]
      go_enter Tryd.func10, Tryd.ntmps10
      go_wp2
      go_ret
      exact ⟨rfl, by go_grown⟩
    · rw [if_neg (by decide), if_neg h0]
      obtain ⟨R, hR⟩ : ∃ R, Lx.dec 10 n.toNat [] = R := ⟨_, rfl⟩
      rw [hR]
      have HR := Lib.hid hR
      have h0I : 0 < n := by omega
      have HS : Hid (Lx.Tx R 10 n.toNat []) := Lib.hid (by rw [← hR]; exact Lx.Tx_start n h0I hn)
      clear hR hn h0
      go_enter Tryd.func10, Tryd.ntmps10
      go_wp2
      obtain ⟨w1, hw1⟩ : ∃ w1, (w.alloc (Obj.cells #[Value.int IntKind.i64 2, Value.int IntKind.i64 p, Value.int IntKind.i64 n, Value.string t] 37)) = w1 := ⟨_, rfl⟩
      have HB1 : Hid (Below w.heap.size w w1) := Lib.hid (by rw [← hw1]; exact (Below.refl _ _).alloc (Nat.le_refl _) _)
      rw [hw1]
      clear hw1
      go_loopw [3, 4] (fun T M wr => ∃ (f m : Nat) (acc : List UInt8), M = .int .i64 (m : Int) ∧ T = .string (Lx.S acc) ∧ Hid (Lx.Tx R f m acc) ∧ Below w1.heap.size w1 wr) (fun _ M _ => (intOf M).toNat)
      case atStart => exact ⟨10, n.toNat, [], by rw [Int.toNat_of_nonneg (Int.le_of_lt h0I)], rfl, HS, Below.refl _ _⟩
      case round =>
        obtain ⟨f, m, acc, rfl, rfl, HF, hB⟩ := hrel
        have hle := Lx.Tx_le HF.out
        have hm10 := hle.2
        have hacl := hle.1
        clear hle
        by_cases hm0 : 0 < m
        · have hmI : (0 : Int) < (m : Int) := by omega
          have hacc : (Lx.S acc).size ≤ 10 := by rw [Lx.S_size]; exact hacl
          obtain ⟨T, hT⟩ : ∃ T, Lx.S acc = T := ⟨_, rfl⟩
          rw [hT] at hacc ⊢
          have HT := Lib.hid hT
          clear hT
          obtain ⟨c, hc⟩ : ∃ c : UInt8, UInt8.ofNat (48 + m % 10) = c := ⟨_, rfl⟩
          have E := text_conv wr m c hc
          have HC := Lib.hid hc
          clear hc
          obtain ⟨U, hU⟩ : ∃ U, Lx.S [c] = U := ⟨_, rfl⟩
          rw [hU] at E
          have hUs : U.size = 1 := by rw [← hU]; rfl
          have HU := Lib.hid hU
          clear hU
          go_wp2
          obtain ⟨g, hg⟩ := Lx.Tx_step HF.out hm0 HC.out
          refine ⟨⟨g, m / 10, c :: acc, by simp, ?_, Lib.hid hg, hB.alloc hB.size _⟩, by simp [intOf]; omega⟩
          rw [← HU.out, ← HT.out, text_push]
        · have hmI : ¬ (0 : Int) < (m : Int) := by omega
          obtain rfl : m = 0 := by omega
          have hRR := Lib.hid (Lx.Tx_end HF.out)
          go_wp2
          go_ret
          exact ⟨by rw [hRR.out]; rfl, HB1.out.trans (hB.mono HB1.out.size)⟩
  · rw [if_pos h2]
    go_enter Tryd.func10, Tryd.ntmps10
    go_wp2
    go_ret
    exact ⟨rfl, by go_grown⟩
end Go.Proofs.YtknbnfnibdbokaaDoor
