/-
What the document's own read of decode returns, of any row.
What the document's own Size of decode returns.
What the document's own Decode returns.
-/
import Derived.Test.YtdefgliogmlghaaDecodeM
import Derived.Test.YtdefgliogmlghaaDecodeVo
import Derived.Test.YtdefgliogmlghaaDecodeV18
import Derived.Test.YtdefgliogmlghaaDecodeV24n
import Derived.Test.YtdefgliogmlghaaDecodeV24w
import Derived.Test.YtdefgliogmlghaaDecodeV25n
import Derived.Test.YtdefgliogmlghaaDecodeV25w
import Derived.Test.YtdefgliogmlghaaDecodeO
import Derived.Lib.Strings
import Derived.Test.YtdefgliogmlghaaDecodeG
section
namespace Go.Proofs.Ytdefgliogmlghaa
open Go.ChangeShapes Go.WideShapes Go.ChangeAt Go.RowKit
set_option linter.unusedVariables false

theorem rletters (op : Int) (wide : Bool) : ∀ c ∈ (Th.rbits op wide).data.toList, Letter c := by
  by_cases h : 1 ≤ op ∧ op ≤ 25
  · cases wide with
    | true =>
      by_cases h24 : op = 24
      · subst h24; exact letters _ (by decide)
      · by_cases h25 : op = 25
        · subst h25; exact letters _ (by decide)
        · rw [De.size_wide op ⟨h24, h25⟩]
          intro c hc
          exact absurd hc (by simp)
    | false =>
      rcases Th.op_cases h with rfl | rfl | rfl | rfl | rfl | rfl | rfl | rfl | rfl | rfl | rfl | rfl | rfl | rfl | rfl | rfl | rfl | rfl | rfl | rfl | rfl | rfl | rfl | rfl | rfl <;> exact letters _ (by decide)
  · rw [Th.rbits_no op wide h]
    intro c hc
    exact absurd hc (by simp)
theorem letters_at (B : ByteArray) (h : ∀ c ∈ B.data.toList, Letter c) : ∀ k (hk : k < B.size), Letter B[k] := fun k hk => by
  apply h
  rw [Array.mem_toList_iff]
  exact Array.getElem_mem hk
theorem txt_at (x n : Nat) : ∀ k (hk : k < (De.txt x n).size), (De.txt x n)[k].toNat = 48 + x / 2 ^ (n - 1 - k) % 2 := fun k hk => by
  have hk' : k < n := by rw [De.txt_size] at hk; exact hk
  have h1 := De.txt_get x n k hk'
  have hl : k < (De.txt x n).data.toList.length := by simpa using hk
  rw [List.getElem?_eq_getElem hl] at h1
  have h2 : (De.txt x n)[k] = UInt8.ofNat (48 + x / 2 ^ (n - 1 - k) % 2) := Option.some.inj h1
  rw [h2, De.u8n]
  omega
namespace De
def rI (op : Int) (wide : Bool) (x n : Nat) : Th.Ins := if (Th.rbits op wide).size = n then rins op wide x (Th.rbits op wide).data.toList else Th.none0
def rK (op : Int) (wide : Bool) (x n : Nat) : Bool := if (Th.rbits op wide).size = n then rok op wide x (Th.rbits op wide).data.toList else false
end De
theorem rread_any (op : Int) (wide : Bool) (x n : Nat) (w : World) (h0 : 1 ≤ n) (hn : n ≤ 32) :
    Calls Try.prog 33 #[.int .i64 op, .bool wide, .string (De.txt x n)] w fun e w' => e = .returned (.tuple #[insV (De.rI op wide x n), .bool (De.rK op wide x n)]) ∧ Below w.heap.size w w' := by
  by_cases hs : (Th.rbits op wide).size = n
  · have e1 : De.rI op wide x n = De.rins op wide x (Th.rbits op wide).data.toList := if_pos hs
    have e2 : De.rK op wide x n = De.rok op wide x (Th.rbits op wide).data.toList := if_pos hs
    rw [e1, e2]
    have hL := Lib.hid (letters_at _ (rletters op wide))
    have hS := Lib.hid (txt_at x n)
    have hz := De.txt_size x n
    by_cases c18 : op = 18
    · subst c18
      exact rread_18 wide x n _ _ w (Lib.hid rfl) hn h0 hs hz hL hS
    · by_cases c24 : op = 24
      · subst c24
        cases wide with
        | true => exact rread_24w x n _ _ w (Lib.hid rfl) hn h0 hs hz hL hS
        | false => exact rread_24n x n _ _ w (Lib.hid rfl) hn h0 hs hz hL hS
      · by_cases c25 : op = 25
        · subst c25
          cases wide with
          | true => exact rread_25w x n _ _ w (Lib.hid rfl) hn h0 hs hz hL hS
          | false => exact rread_25n x n _ _ w (Lib.hid rfl) hn h0 hs hz hL hS
        · exact rread_o op wide x n _ _ w (Lib.hid rfl) hn h0 hs hz hL hS ⟨c18, c24, c25⟩
  · have e1 : De.rI op wide x n = Th.none0 := if_neg hs
    have e2 : De.rK op wide x n = false := if_neg hs
    rw [e1, e2]
    exact rread_len op wide _ w (by rw [De.txt_size]; exact hs)
theorem rread_lit (k : Int) (wide : Bool) (x n : Nat) (S : ByteArray) (op rd rn rm ra imm cond : Int) (wd b : Bool) (w : World) (h0 : 1 ≤ n) (hn : n ≤ 32) (HS : Hid (De.txt x n = S)) (HI : Hid (De.rI k wide x n = ⟨op, rd, rn, rm, ra, imm, cond, wd⟩)) (HK : Hid (De.rK k wide x n = b)) :
    Calls Try.prog 33 #[.int .i64 k, .bool wide, .string S] w fun e w' => e = .returned (.tuple #[.agg #[.int .i64 op, .int .i64 rd, .int .i64 rn, .int .i64 rm, .int .i64 ra, .int .i64 imm, .int .i64 cond, .bool wd], .bool b]) ∧ Below w.heap.size w w' := by
  have := rread_any k wide x n w h0 hn
  rw [HS.out, HI.out, HK.out] at this
  exact this
/-- no operation below k has such bits -/
def NoFit (x n k : Nat) : Prop := ∀ j : Nat, 1 ≤ j → j < k → ∀ wide, De.rK j wide x n = false
theorem NoFit.start (x n : Nat) : NoFit x n 1 := fun j h1 h2 => by omega
theorem NoFit.next {x n k : Nat} (h : NoFit x n k) (h1 : De.rK k false x n = false) (h2 : De.rK k true x n = false) : NoFit x n (k + 1) := fun j a b wide => by
  by_cases e : j = k
  · subst e; cases wide <;> assumption
  · exact h j a (by omega) wide
theorem word_bits (s : ByteArray) (n x : Nat) (hz : De.size s = n) (hn : n = 2 ∨ n = 4) (hx : De.word s n = x) : x < 4294967296 ∧ x < 2 ^ (8 * n) ∧ ((8 * n = 16 ∧ x < 65536) ∨ (8 * n = 32 ∧ 65536 ≤ x)) := by
  have hlt := De.word_lt s n
  have h0 := De.half_lt s 0
  have h1 := De.half_lt s 1
  rcases De.size_cases s with h | ⟨h, ha, hb⟩ | ⟨h, ha⟩
  · omega
  · obtain rfl : n = 2 := by omega
    have e : De.word s 2 = De.half s 0 := by unfold De.word; rw [if_neg (by decide)]
    rw [e] at hx
    exact ⟨by omega, by omega, .inl ⟨rfl, by omega⟩⟩
  · obtain rfl : n = 4 := by omega
    have e : De.word s 4 = De.half s 0 * 65536 + De.half s 1 := by unfold De.word; rw [if_pos rfl]
    rw [e] at hx
    exact ⟨by omega, by omega, .inr ⟨rfl, by omega⟩⟩
theorem fit_told (s : ByteArray) (n x : Nat) (hz : De.size s = n) (hn : n = 2 ∨ n = 4) (hs : n ≤ s.size) (hx : De.word s n = x) (k : Int) (wide : Bool) (hK : De.rK k wide x (8 * n) = true) : De.ins s = De.rI k wide x (8 * n) ∧ De.len s = n ∧ De.err s = 0 := by
  obtain ⟨b1, b2, b3⟩ := word_bits s n x hz hn hx
  unfold De.rK at hK
  by_cases hb : (Th.rbits k wide).size = 8 * n
  · rw [if_pos hb] at hK
    have hr := De.rsure k wide x (8 * n) hb (by omega) b2 hK
    have ht : De.told s = De.rI k wide x (8 * n) := by
      unfold De.told De.rI
      rw [hz, hx, if_pos hb]
      exact hr.1
    have ht' : De.there (De.told s) = true := by
      unfold De.told
      rw [hz, hx]
      exact hr.2
    have he : De.err s = 0 := by
      unfold De.err
      rw [if_neg (by omega), if_pos ht']
    refine ⟨?_, ?_, he⟩
    · unfold De.ins; rw [if_pos he, ht]
    · unfold De.len; rw [if_pos he, hz]
  · rw [if_neg hb] at hK
    exact Bool.noConfusion hK
theorem nofit_told (s : ByteArray) (n x : Nat) (hz : De.size s = n) (hn : n = 2 ∨ n = 4) (hs : n ≤ s.size) (hx : De.word s n = x) (h : NoFit x (8 * n) 26) : De.ins s = Th.none0 ∧ De.len s = 0 ∧ De.err s = 7 := by
  obtain ⟨b1, b2, b3⟩ := word_bits s n x hz hn hx
  have ht : ¬ De.there (De.told s) = true := by
    intro ht
    unfold De.told at ht
    rw [hz, hx] at ht
    obtain ⟨op, wide, o1, o2, o3, o4⟩ := De.rsome x (8 * n) b1 b3 ht
    have := h op o1 (by omega) wide
    unfold De.rK at this
    rw [if_pos o3, o4] at this
    exact Bool.noConfusion this
  have he : De.err s = 7 := by
    unfold De.err
    rw [if_neg (by omega), if_neg ht]
  refine ⟨?_, ?_, he⟩
  · unfold De.ins; rw [he, if_neg (by decide)]
  · unfold De.len; rw [he, if_neg (by decide)]
end Go.Proofs.Ytdefgliogmlghaa
end
section
namespace Go.Proofs.Ytdefgliogmlghaa
open Go.ChangeShapes Go.WideShapes Go.ChangeAt Go.RowKit
set_option linter.unusedVariables false

theorem txt5 (x v : Nat) (hv : x / 2048 = v) : (De.txt x 16).extract 0 5 = De.txt v 5 := by
  have e : De.txt x 16 = De.txt v 5 ++ De.txt (x % 2048) 11 := by
    have := De.txt_join v (x % 2048) 11 (by omega) 5
    rw [← this]
    congr 1
    omega
  have hl : (De.txt v 5).data.toList.length = 5 := by
    have := De.txt_size v 5
    simpa using this
  apply ByteArray.ext
  apply Array.ext'
  rw [Lib.extract_data, e, De.app_list, List.drop_zero, List.take_append_of_le_length (by omega), List.take_of_length_le (by omega)]
set_option maxHeartbeats 4000000 in
set_option maxRecDepth 100000 in
theorem rsize3_any (s : ByteArray) (w : World) (hm : s.size ≤ maxLen) :
    Calls Try.prog 14 #[.string s] w fun e w' => e = .returned (.int .i64 (De.size s : Int)) ∧ Below w.heap.size w w' := by
  by_cases hs : s.size < 2
  · have e : De.size s = 0 := if_pos hs
    rw [e]
    unfold maxLen at hm
    go_enter Try.func14, Try.ntmps14
    go_wp2
    go_ret
    exact ⟨rfl, Below.refl _ _⟩
  · have hm' := Lib.hid hm
    unfold maxLen at hm
    have hx := De.half_lt s 0
    have hsz : De.size s = if De.half s 0 < 59392 then 2 else 4 := by unfold De.size; rw [if_neg hs]
    have hR := fun w => rhalf_any s 0 w (by omega) (by omega) hm'.out
    obtain ⟨v, hv⟩ : ∃ v, De.half s 0 / 2048 = v := ⟨_, rfl⟩
    have hE := txt5 (De.half s 0) v hv
    have hT := De.txt_size (De.half s 0) 16
    generalize De.txt (De.half s 0) 16 = T at *
    have hT5 : (5 : Int) ≤ (T.size : Int) := by omega
    have hT5' : 5 ≤ T.size := by omega
    have HR := Lib.hid hR
    clear hT hR
    rcases (by omega : v = 0 ∨ v = 1 ∨ v = 2 ∨ v = 3 ∨ v = 4 ∨ v = 5 ∨ v = 6 ∨ v = 7 ∨ v = 8 ∨ v = 9 ∨ v = 10 ∨ v = 11 ∨ v = 12 ∨ v = 13 ∨ v = 14 ∨ v = 15 ∨ v = 16 ∨ v = 17 ∨ v = 18 ∨ v = 19 ∨ v = 20 ∨ v = 21 ∨ v = 22 ∨ v = 23 ∨ v = 24 ∨ v = 25 ∨ v = 26 ∨ v = 27 ∨ v = 28 ∨ v = 29 ∨ v = 30 ∨ v = 31) with rfl | rfl | rfl | rfl | rfl | rfl | rfl | rfl | rfl | rfl | rfl | rfl | rfl | rfl | rfl | rfl | rfl | rfl | rfl | rfl | rfl | rfl | rfl | rfl | rfl | rfl | rfl | rfl | rfl | rfl | rfl | rfl
    · have hE' : T.extract 0 5 = ⟨#[48, 48, 48, 48, 48]⟩ := hE.trans rfl
      rw [hsz, if_pos (by omega)]
      clear hE hsz hv hx
      go_enter Try.func14, Try.ntmps14
      go_wp2_with (go_at_call 32; refine (HR.out _).mono ?_; rintro e w1 ⟨rfl, hb1⟩)
      go_ret
      exact ⟨rfl, hb1⟩
    · have hE' : T.extract 0 5 = ⟨#[48, 48, 48, 48, 49]⟩ := hE.trans rfl
      rw [hsz, if_pos (by omega)]
      clear hE hsz hv hx
      go_enter Try.func14, Try.ntmps14
      go_wp2_with (go_at_call 32; refine (HR.out _).mono ?_; rintro e w1 ⟨rfl, hb1⟩)
      go_ret
      exact ⟨rfl, hb1⟩
    · have hE' : T.extract 0 5 = ⟨#[48, 48, 48, 49, 48]⟩ := hE.trans rfl
      rw [hsz, if_pos (by omega)]
      clear hE hsz hv hx
      go_enter Try.func14, Try.ntmps14
      go_wp2_with (go_at_call 32; refine (HR.out _).mono ?_; rintro e w1 ⟨rfl, hb1⟩)
      go_ret
      exact ⟨rfl, hb1⟩
    · have hE' : T.extract 0 5 = ⟨#[48, 48, 48, 49, 49]⟩ := hE.trans rfl
      rw [hsz, if_pos (by omega)]
      clear hE hsz hv hx
      go_enter Try.func14, Try.ntmps14
      go_wp2_with (go_at_call 32; refine (HR.out _).mono ?_; rintro e w1 ⟨rfl, hb1⟩)
      go_ret
      exact ⟨rfl, hb1⟩
    · have hE' : T.extract 0 5 = ⟨#[48, 48, 49, 48, 48]⟩ := hE.trans rfl
      rw [hsz, if_pos (by omega)]
      clear hE hsz hv hx
      go_enter Try.func14, Try.ntmps14
      go_wp2_with (go_at_call 32; refine (HR.out _).mono ?_; rintro e w1 ⟨rfl, hb1⟩)
      go_ret
      exact ⟨rfl, hb1⟩
    · have hE' : T.extract 0 5 = ⟨#[48, 48, 49, 48, 49]⟩ := hE.trans rfl
      rw [hsz, if_pos (by omega)]
      clear hE hsz hv hx
      go_enter Try.func14, Try.ntmps14
      go_wp2_with (go_at_call 32; refine (HR.out _).mono ?_; rintro e w1 ⟨rfl, hb1⟩)
      go_ret
      exact ⟨rfl, hb1⟩
    · have hE' : T.extract 0 5 = ⟨#[48, 48, 49, 49, 48]⟩ := hE.trans rfl
      rw [hsz, if_pos (by omega)]
      clear hE hsz hv hx
      go_enter Try.func14, Try.ntmps14
      go_wp2_with (go_at_call 32; refine (HR.out _).mono ?_; rintro e w1 ⟨rfl, hb1⟩)
      go_ret
      exact ⟨rfl, hb1⟩
    · have hE' : T.extract 0 5 = ⟨#[48, 48, 49, 49, 49]⟩ := hE.trans rfl
      rw [hsz, if_pos (by omega)]
      clear hE hsz hv hx
      go_enter Try.func14, Try.ntmps14
      go_wp2_with (go_at_call 32; refine (HR.out _).mono ?_; rintro e w1 ⟨rfl, hb1⟩)
      go_ret
      exact ⟨rfl, hb1⟩
    · have hE' : T.extract 0 5 = ⟨#[48, 49, 48, 48, 48]⟩ := hE.trans rfl
      rw [hsz, if_pos (by omega)]
      clear hE hsz hv hx
      go_enter Try.func14, Try.ntmps14
      go_wp2_with (go_at_call 32; refine (HR.out _).mono ?_; rintro e w1 ⟨rfl, hb1⟩)
      go_ret
      exact ⟨rfl, hb1⟩
    · have hE' : T.extract 0 5 = ⟨#[48, 49, 48, 48, 49]⟩ := hE.trans rfl
      rw [hsz, if_pos (by omega)]
      clear hE hsz hv hx
      go_enter Try.func14, Try.ntmps14
      go_wp2_with (go_at_call 32; refine (HR.out _).mono ?_; rintro e w1 ⟨rfl, hb1⟩)
      go_ret
      exact ⟨rfl, hb1⟩
    · have hE' : T.extract 0 5 = ⟨#[48, 49, 48, 49, 48]⟩ := hE.trans rfl
      rw [hsz, if_pos (by omega)]
      clear hE hsz hv hx
      go_enter Try.func14, Try.ntmps14
      go_wp2_with (go_at_call 32; refine (HR.out _).mono ?_; rintro e w1 ⟨rfl, hb1⟩)
      go_ret
      exact ⟨rfl, hb1⟩
    · have hE' : T.extract 0 5 = ⟨#[48, 49, 48, 49, 49]⟩ := hE.trans rfl
      rw [hsz, if_pos (by omega)]
      clear hE hsz hv hx
      go_enter Try.func14, Try.ntmps14
      go_wp2_with (go_at_call 32; refine (HR.out _).mono ?_; rintro e w1 ⟨rfl, hb1⟩)
      go_ret
      exact ⟨rfl, hb1⟩
    · have hE' : T.extract 0 5 = ⟨#[48, 49, 49, 48, 48]⟩ := hE.trans rfl
      rw [hsz, if_pos (by omega)]
      clear hE hsz hv hx
      go_enter Try.func14, Try.ntmps14
      go_wp2_with (go_at_call 32; refine (HR.out _).mono ?_; rintro e w1 ⟨rfl, hb1⟩)
      go_ret
      exact ⟨rfl, hb1⟩
    · have hE' : T.extract 0 5 = ⟨#[48, 49, 49, 48, 49]⟩ := hE.trans rfl
      rw [hsz, if_pos (by omega)]
      clear hE hsz hv hx
      go_enter Try.func14, Try.ntmps14
      go_wp2_with (go_at_call 32; refine (HR.out _).mono ?_; rintro e w1 ⟨rfl, hb1⟩)
      go_ret
      exact ⟨rfl, hb1⟩
    · have hE' : T.extract 0 5 = ⟨#[48, 49, 49, 49, 48]⟩ := hE.trans rfl
      rw [hsz, if_pos (by omega)]
      clear hE hsz hv hx
      go_enter Try.func14, Try.ntmps14
      go_wp2_with (go_at_call 32; refine (HR.out _).mono ?_; rintro e w1 ⟨rfl, hb1⟩)
      go_ret
      exact ⟨rfl, hb1⟩
    · have hE' : T.extract 0 5 = ⟨#[48, 49, 49, 49, 49]⟩ := hE.trans rfl
      rw [hsz, if_pos (by omega)]
      clear hE hsz hv hx
      go_enter Try.func14, Try.ntmps14
      go_wp2_with (go_at_call 32; refine (HR.out _).mono ?_; rintro e w1 ⟨rfl, hb1⟩)
      go_ret
      exact ⟨rfl, hb1⟩
    · have hE' : T.extract 0 5 = ⟨#[49, 48, 48, 48, 48]⟩ := hE.trans rfl
      rw [hsz, if_pos (by omega)]
      clear hE hsz hv hx
      go_enter Try.func14, Try.ntmps14
      go_wp2_with (go_at_call 32; refine (HR.out _).mono ?_; rintro e w1 ⟨rfl, hb1⟩)
      go_ret
      exact ⟨rfl, hb1⟩
    · have hE' : T.extract 0 5 = ⟨#[49, 48, 48, 48, 49]⟩ := hE.trans rfl
      rw [hsz, if_pos (by omega)]
      clear hE hsz hv hx
      go_enter Try.func14, Try.ntmps14
      go_wp2_with (go_at_call 32; refine (HR.out _).mono ?_; rintro e w1 ⟨rfl, hb1⟩)
      go_ret
      exact ⟨rfl, hb1⟩
    · have hE' : T.extract 0 5 = ⟨#[49, 48, 48, 49, 48]⟩ := hE.trans rfl
      rw [hsz, if_pos (by omega)]
      clear hE hsz hv hx
      go_enter Try.func14, Try.ntmps14
      go_wp2_with (go_at_call 32; refine (HR.out _).mono ?_; rintro e w1 ⟨rfl, hb1⟩)
      go_ret
      exact ⟨rfl, hb1⟩
    · have hE' : T.extract 0 5 = ⟨#[49, 48, 48, 49, 49]⟩ := hE.trans rfl
      rw [hsz, if_pos (by omega)]
      clear hE hsz hv hx
      go_enter Try.func14, Try.ntmps14
      go_wp2_with (go_at_call 32; refine (HR.out _).mono ?_; rintro e w1 ⟨rfl, hb1⟩)
      go_ret
      exact ⟨rfl, hb1⟩
    · have hE' : T.extract 0 5 = ⟨#[49, 48, 49, 48, 48]⟩ := hE.trans rfl
      rw [hsz, if_pos (by omega)]
      clear hE hsz hv hx
      go_enter Try.func14, Try.ntmps14
      go_wp2_with (go_at_call 32; refine (HR.out _).mono ?_; rintro e w1 ⟨rfl, hb1⟩)
      go_ret
      exact ⟨rfl, hb1⟩
    · have hE' : T.extract 0 5 = ⟨#[49, 48, 49, 48, 49]⟩ := hE.trans rfl
      rw [hsz, if_pos (by omega)]
      clear hE hsz hv hx
      go_enter Try.func14, Try.ntmps14
      go_wp2_with (go_at_call 32; refine (HR.out _).mono ?_; rintro e w1 ⟨rfl, hb1⟩)
      go_ret
      exact ⟨rfl, hb1⟩
    · have hE' : T.extract 0 5 = ⟨#[49, 48, 49, 49, 48]⟩ := hE.trans rfl
      rw [hsz, if_pos (by omega)]
      clear hE hsz hv hx
      go_enter Try.func14, Try.ntmps14
      go_wp2_with (go_at_call 32; refine (HR.out _).mono ?_; rintro e w1 ⟨rfl, hb1⟩)
      go_ret
      exact ⟨rfl, hb1⟩
    · have hE' : T.extract 0 5 = ⟨#[49, 48, 49, 49, 49]⟩ := hE.trans rfl
      rw [hsz, if_pos (by omega)]
      clear hE hsz hv hx
      go_enter Try.func14, Try.ntmps14
      go_wp2_with (go_at_call 32; refine (HR.out _).mono ?_; rintro e w1 ⟨rfl, hb1⟩)
      go_ret
      exact ⟨rfl, hb1⟩
    · have hE' : T.extract 0 5 = ⟨#[49, 49, 48, 48, 48]⟩ := hE.trans rfl
      rw [hsz, if_pos (by omega)]
      clear hE hsz hv hx
      go_enter Try.func14, Try.ntmps14
      go_wp2_with (go_at_call 32; refine (HR.out _).mono ?_; rintro e w1 ⟨rfl, hb1⟩)
      go_ret
      exact ⟨rfl, hb1⟩
    · have hE' : T.extract 0 5 = ⟨#[49, 49, 48, 48, 49]⟩ := hE.trans rfl
      rw [hsz, if_pos (by omega)]
      clear hE hsz hv hx
      go_enter Try.func14, Try.ntmps14
      go_wp2_with (go_at_call 32; refine (HR.out _).mono ?_; rintro e w1 ⟨rfl, hb1⟩)
      go_ret
      exact ⟨rfl, hb1⟩
    · have hE' : T.extract 0 5 = ⟨#[49, 49, 48, 49, 48]⟩ := hE.trans rfl
      rw [hsz, if_pos (by omega)]
      clear hE hsz hv hx
      go_enter Try.func14, Try.ntmps14
      go_wp2_with (go_at_call 32; refine (HR.out _).mono ?_; rintro e w1 ⟨rfl, hb1⟩)
      go_ret
      exact ⟨rfl, hb1⟩
    · have hE' : T.extract 0 5 = ⟨#[49, 49, 48, 49, 49]⟩ := hE.trans rfl
      rw [hsz, if_pos (by omega)]
      clear hE hsz hv hx
      go_enter Try.func14, Try.ntmps14
      go_wp2_with (go_at_call 32; refine (HR.out _).mono ?_; rintro e w1 ⟨rfl, hb1⟩)
      go_ret
      exact ⟨rfl, hb1⟩
    · have hE' : T.extract 0 5 = ⟨#[49, 49, 49, 48, 48]⟩ := hE.trans rfl
      rw [hsz, if_pos (by omega)]
      clear hE hsz hv hx
      go_enter Try.func14, Try.ntmps14
      go_wp2_with (go_at_call 32; refine (HR.out _).mono ?_; rintro e w1 ⟨rfl, hb1⟩)
      go_ret
      exact ⟨rfl, hb1⟩
    · have hE' : T.extract 0 5 = ⟨#[49, 49, 49, 48, 49]⟩ := hE.trans rfl
      rw [hsz, if_neg (by omega)]
      clear hE hsz hv hx
      go_enter Try.func14, Try.ntmps14
      go_wp2_with (go_at_call 32; refine (HR.out _).mono ?_; rintro e w1 ⟨rfl, hb1⟩)
      go_ret
      exact ⟨rfl, hb1⟩
    · have hE' : T.extract 0 5 = ⟨#[49, 49, 49, 49, 48]⟩ := hE.trans rfl
      rw [hsz, if_neg (by omega)]
      clear hE hsz hv hx
      go_enter Try.func14, Try.ntmps14
      go_wp2_with (go_at_call 32; refine (HR.out _).mono ?_; rintro e w1 ⟨rfl, hb1⟩)
      go_ret
      exact ⟨rfl, hb1⟩
    · have hE' : T.extract 0 5 = ⟨#[49, 49, 49, 49, 49]⟩ := hE.trans rfl
      rw [hsz, if_neg (by omega)]
      clear hE hsz hv hx
      go_enter Try.func14, Try.ntmps14
      go_wp2_with (go_at_call 32; refine (HR.out _).mono ?_; rintro e w1 ⟨rfl, hb1⟩)
      go_ret
      exact ⟨rfl, hb1⟩
end Go.Proofs.Ytdefgliogmlghaa
end
section
namespace Go.Proofs.Ytdefgliogmlghaa
open Go.ChangeShapes Go.WideShapes Go.ChangeAt Go.RowKit
set_option linter.unusedVariables false

theorem rsize_lit (s : ByteArray) (Z : Int) (w : World) (hm : s.size ≤ maxLen) (HZ : Hid ((De.size s : Int) = Z)) :
    Calls Try.prog 14 #[.string s] w fun e w' => e = .returned (.int .i64 Z) ∧ Below w.heap.size w w' := by
  have := rsize3_any s w hm
  rw [HZ.out] at this
  exact this
theorem rhalf0 (s T : ByteArray) (w : World) (hs : 2 ≤ s.size) (hm : s.size ≤ maxLen) (HT : Hid (De.txt (De.half s 0) 16 = T)) :
    Calls Try.prog 32 #[.string s, .int .i64 0] w fun e w' => e = .returned (.string T) ∧ Below w.heap.size w w' := by
  have := rhalf_any s 0 w (by decide) hs hm
  rw [HT.out] at this
  exact this
theorem rhalf1 (s T : ByteArray) (w : World) (hs : 4 ≤ s.size) (hm : s.size ≤ maxLen) (HT : Hid (De.txt (De.half s 1) 16 = T)) :
    Calls Try.prog 32 #[.string s, .int .i64 1] w fun e w' => e = .returned (.string T) ∧ Below w.heap.size w w' := by
  have := rhalf_any s 1 w (by decide) hs hm
  rw [HT.out] at this
  exact this
/-- where the answer lies meanwhile -/
def MemD (w : World) (r : Nat) (wr : World) : Prop := Below r w wr ∧ InsAt wr r 0 0 0 0 0 0 0 false ∧ Open8 wr r ∧ r < wr.heap.size
theorem MemD.start (w : World) : MemD w w.heap.size (w.alloc (.cells #[.int .i64 0, .int .i64 0, .int .i64 0, .int .i64 0, .int .i64 0, .int .i64 0, .int .i64 0, .bool false] 23)) :=
  ⟨(Below.refl _ _).alloc (Nat.le_refl _) _, ins_alloc _ _ _ _ _ _ _ _ _ _, open_alloc _ _ _, by simp⟩
theorem MemD.call {w wr w' : World} {r : Nat} (h : MemD w r wr) (hb : Below wr.heap.size wr w') : MemD w r w' := by
  obtain ⟨h1, h2, h3, h4⟩ := h
  exact ⟨h1.trans (hb.mono (by omega)), h2.below hb h4, h3.below hb h4, by have := hb.size; omega⟩
theorem MemD.alloc {w wr : World} {r : Nat} (h : MemD w r wr) (o : Obj) : MemD w r (wr.alloc o) := h.call ((Below.refl _ _).alloc (Nat.le_refl _) _)
theorem MemD.drew {w wr : World} {r : Nat} (h : MemD w r wr) : MemD w r wr.drew := by
  obtain ⟨h1, h2, h3, h4⟩ := h
  exact ⟨h1.drew, h2, h3, h4⟩
theorem MemD.drewN {w wr : World} {r : Nat} (h : MemD w r wr) (n : Nat) : MemD w r (wr.drewN n) := by
  obtain ⟨h1, h2, h3, h4⟩ := h
  exact ⟨below_drewN h1 n, h2, h3, h4⟩
set_option maxHeartbeats 4000000 in
set_option maxRecDepth 100000 in
theorem rdec_short (s : ByteArray) (w : World) (hm : s.size ≤ maxLen) (h : De.size s = 0 ∨ s.size < De.size s) :
    Calls Try.prog 12 #[.string s] w fun e w' => e = .returned (.tuple #[.agg #[.int .i64 0, .int .i64 0, .int .i64 0, .int .i64 0, .int .i64 0, .int .i64 0, .int .i64 0, .bool false], .int .i64 0, .int .i64 3]) ∧ Below w.heap.size w w' := by
  have hm' := Lib.hid hm
  unfold maxLen at hm
  by_cases h0 : De.size s = 0
  · have HZ : Hid ((De.size s : Int) = 0) := Lib.hid (by rw [h0]; rfl)
    clear h0 h
    have HD := Lib.hid (MemD.start w)
    go_enter Try.func12, Try.ntmps12
    go_wp2_with (go_at_call 14; refine (rsize_lit _ _ _ hm'.out HZ).mono ?_; rintro e w1 ⟨rfl, hb1⟩; have HD1 := Lib.hid (HD.out.call hb1); obtain ⟨c0, c1, c2, c3, c4, c5, c6, c7⟩ := HD1.out.2.1; have hf : ∀ o, w1.frozen? ⟨w.heap.size, o, none⟩ = false := HD1.out.2.2.1)
    exact bodyPost_ret (v := .tuple #[.agg #[.int .i64 0, .int .i64 0, .int .i64 0, .int .i64 0, .int .i64 0, .int .i64 0, .int .i64 0, .bool false], .int .i64 0, .int .i64 3]) (by simp [results, Try.results12, go_sem, c0, c1, c2, c3, c4, c5, c6, c7]) rfl ⟨rfl, by (iterate 8 (refine Below.setCell ?_ (by simp) _)); exact HD1.out.1⟩
  · have hlt : s.size < De.size s := by omega
    obtain ⟨Z, hZ⟩ : ∃ Z : Int, (De.size s : Int) = Z := ⟨_, rfl⟩
    have q : (Z == 0) = false := by simp; omega
    have q2 : (s.size : Int) < Z := by omega
    have HZ := Lib.hid hZ
    clear h0 h hlt hZ
    have HD := Lib.hid (MemD.start w)
    go_enter Try.func12, Try.ntmps12
    go_wp2_with (go_at_call 14; refine (rsize_lit _ _ _ hm'.out HZ).mono ?_; rintro e w1 ⟨rfl, hb1⟩; have HD1 := Lib.hid (HD.out.call hb1); obtain ⟨c0, c1, c2, c3, c4, c5, c6, c7⟩ := HD1.out.2.1; have hf : ∀ o, w1.frozen? ⟨w.heap.size, o, none⟩ = false := HD1.out.2.2.1)
    exact bodyPost_ret (v := .tuple #[.agg #[.int .i64 0, .int .i64 0, .int .i64 0, .int .i64 0, .int .i64 0, .int .i64 0, .int .i64 0, .bool false], .int .i64 0, .int .i64 3]) (by simp [results, Try.results12, go_sem, c0, c1, c2, c3, c4, c5, c6, c7]) rfl ⟨rfl, by (iterate 8 (refine Below.setCell ?_ (by simp) _)); exact HD1.out.1⟩
set_option maxHeartbeats 8000000 in
set_option maxRecDepth 100000 in
theorem rdec_2 (s : ByteArray) (x : Nat) (w : World) (hm : s.size ≤ maxLen) (hs : 2 ≤ s.size) (hz : De.size s = 2) (hx : De.word s 2 = x) :
    Calls Try.prog 12 #[.string s] w fun e w' => e = .returned (.tuple #[insV (De.ins s), .int .i64 (De.len s : Int), .int .i64 (De.err s)]) ∧ Below w.heap.size w w' := by
  have hm' := Lib.hid hm
  unfold maxLen at hm
  have HZ : Hid ((De.size s : Int) = 2) := Lib.hid (by rw [hz]; rfl)
  have q2 : (2 : Int) ≤ (s.size : Int) := by omega
  have Hfit := Lib.hid (fit_told s 2 x hz (by decide) hs hx)
  have Hno := Lib.hid (nofit_told s 2 x hz (by decide) hs hx)
  generalize hRI : De.ins s = RI at *
  generalize hRL : De.len s = RL at *
  generalize hRE : De.err s = RE at *
  clear hRI hRL hRE
  obtain ⟨S, hS⟩ : ∃ S, De.txt (De.half s 0) 16 = S := ⟨_, rfl⟩
  have HT0 := Lib.hid hS
  have HS : Hid (De.txt x 16 = S) := Lib.hid (by rw [← hx, ← hS]; unfold De.word; rw [if_neg (by decide)])
  clear hS hz hx
  have HD := Lib.hid (MemD.start w)
  go_enter Try.func12, Try.ntmps12
  go_wp2_with (first | (go_at_call 14; refine (rsize_lit _ _ _ hm'.out HZ).mono ?_; rintro e w1 ⟨rfl, hb1⟩; have HD1 := Lib.hid (HD.out.call hb1)) | (go_at_call 32; refine (rhalf0 _ _ _ (by omega) hm'.out HT0).mono ?_; rintro e w2 ⟨rfl, hb2⟩; have HD2 := Lib.hid (HD1.out.call hb2)))
  go_loopw [7] (fun K wr => ∃ k : Nat, 1 ≤ k ∧ k ≤ 26 ∧ K = .int .i64 (k : Int) ∧ NoFit x 16 k ∧ MemD w w.heap.size wr) (fun K _ => 26 - (intOf K).toNat)
  case atStart => exact ⟨1, by omega, by omega, rfl, NoFit.start _ _, HD2.out⟩
  case round =>
    obtain ⟨k, h1, h2, rfl, hN, hD⟩ := hrel
    have HN := Lib.hid hN
    have HDr := Lib.hid hD
    clear hN hD
    by_cases hle : k ≤ 25
    · have hle' : (k : Int) ≤ 25 := by omega
      rcases hI1 : De.rI k false x 16 with ⟨op1, rd1, rn1, rm1, ra1, imm1, cond1, wd1⟩
      rcases hI2 : De.rI k true x 16 with ⟨op2, rd2, rn2, rm2, ra2, imm2, cond2, wd2⟩
      have HI1 := Lib.hid hI1
      have HI2 := Lib.hid hI2
      clear hI1 hI2
      cases hK1 : De.rK k false x 16 with
      | true =>
        have HK1 := Lib.hid hK1
        clear hK1
        go_wp2_with ((go_at_call 33; (with_reducible refine (rread_lit _ false x 16 S _ _ _ _ _ _ _ _ _ _ (by omega) (by omega) HS HI1 HK1).mono ?_); rintro e w5 ⟨rfl, hb11⟩; have HE1 := Lib.hid (HDr.out.call hb11); obtain ⟨c0, c1, c2, c3, c4, c5, c6, c7⟩ := InsAt.alloc HE1.out.2.1 HE1.out.2.2.2 (.cells #[.int .i64 op1, .int .i64 rd1, .int .i64 rn1, .int .i64 rm1, .int .i64 ra1, .int .i64 imm1, .int .i64 cond1, .bool wd1] 23); obtain ⟨i0, i1, i2, i3, i4, i5, i6, i7⟩ := ins_alloc w5 23 op1 rd1 rn1 rm1 ra1 imm1 cond1 wd1; have hf : ∀ o, (w5.alloc (.cells #[.int .i64 op1, .int .i64 rd1, .int .i64 rn1, .int .i64 rm1, .int .i64 ra1, .int .i64 imm1, .int .i64 cond1, .bool wd1] 23)).frozen? ⟨w.heap.size, o, none⟩ = false := Open8.below HE1.out.2.2.1 ((Below.refl _ _).alloc (Nat.le_refl _) _) HE1.out.2.2.2))
        obtain ⟨f1, f2, f3⟩ := Hfit.out k false HK1.out
        have f1' := f1.trans HI1.out
        exact bodyPost_ret (v := .tuple #[.agg #[.int .i64 op1, .int .i64 rd1, .int .i64 rn1, .int .i64 rm1, .int .i64 ra1, .int .i64 imm1, .int .i64 cond1, .bool wd1], .int .i64 2, .int .i64 0]) (by simp [results, Try.results12, go_sem, c0, c1, c2, c3, c4, c5, c6, c7]) rfl ⟨by rw [f1', f2, f3]; rfl, by (iterate 8 (refine Below.setCell ?_ (by simp) _)); exact (HE1.out.alloc _).1⟩
      | false =>
        have HK1 := Lib.hid hK1
        clear hK1
        cases hK2 : De.rK k true x 16 with
        | true =>
          have HK2 := Lib.hid hK2
          clear hK2
          go_wp2_with (first | (go_at_call 33; (with_reducible refine (rread_lit _ false x 16 S _ _ _ _ _ _ _ _ _ _ (by omega) (by omega) HS HI1 HK1).mono ?_); rintro e w5 ⟨rfl, hb11⟩; have HE1 := Lib.hid (HDr.out.call hb11)) | (go_at_call 33; (with_reducible refine (rread_lit _ true x 16 S _ _ _ _ _ _ _ _ _ _ (by omega) (by omega) HS HI2 HK2).mono ?_); rintro e w6 ⟨rfl, hb12⟩; have HE2 := Lib.hid ((HE1.out.alloc _).call hb12); obtain ⟨c0, c1, c2, c3, c4, c5, c6, c7⟩ := InsAt.alloc HE2.out.2.1 HE2.out.2.2.2 (.cells #[.int .i64 op2, .int .i64 rd2, .int .i64 rn2, .int .i64 rm2, .int .i64 ra2, .int .i64 imm2, .int .i64 cond2, .bool wd2] 23); obtain ⟨i0, i1, i2, i3, i4, i5, i6, i7⟩ := ins_alloc w6 23 op2 rd2 rn2 rm2 ra2 imm2 cond2 wd2; have hf : ∀ o, (w6.alloc (.cells #[.int .i64 op2, .int .i64 rd2, .int .i64 rn2, .int .i64 rm2, .int .i64 ra2, .int .i64 imm2, .int .i64 cond2, .bool wd2] 23)).frozen? ⟨w.heap.size, o, none⟩ = false := Open8.below HE2.out.2.2.1 ((Below.refl _ _).alloc (Nat.le_refl _) _) HE2.out.2.2.2))
          obtain ⟨f1, f2, f3⟩ := Hfit.out k true HK2.out
          have f1' := f1.trans HI2.out
          exact bodyPost_ret (v := .tuple #[.agg #[.int .i64 op2, .int .i64 rd2, .int .i64 rn2, .int .i64 rm2, .int .i64 ra2, .int .i64 imm2, .int .i64 cond2, .bool wd2], .int .i64 2, .int .i64 0]) (by simp [results, Try.results12, go_sem, c0, c1, c2, c3, c4, c5, c6, c7]) rfl ⟨by rw [f1', f2, f3]; rfl, by (iterate 8 (refine Below.setCell ?_ (by simp) _)); exact (HE2.out.alloc _).1⟩
        | false =>
          have HK2 := Lib.hid hK2
          clear hK2
          go_wp2_with (first | (go_at_call 33; (with_reducible refine (rread_lit _ false x 16 S _ _ _ _ _ _ _ _ _ _ (by omega) (by omega) HS HI1 HK1).mono ?_); rintro e w5 ⟨rfl, hb11⟩; have HE1 := Lib.hid (HDr.out.call hb11)) | (go_at_call 33; (with_reducible refine (rread_lit _ true x 16 S _ _ _ _ _ _ _ _ _ _ (by omega) (by omega) HS HI2 HK2).mono ?_); rintro e w6 ⟨rfl, hb12⟩; have HE2 := Lib.hid ((HE1.out.alloc _).call hb12)))
          exact ⟨⟨k + 1, by omega, by omega, by simp, HN.out.next HK1.out HK2.out, HE2.out.alloc _⟩, by simp [intOf]; omega⟩
    · have hgt : ¬ (k : Int) ≤ 25 := by omega
      obtain rfl : k = 26 := by omega
      obtain ⟨c0, c1, c2, c3, c4, c5, c6, c7⟩ := HDr.out.2.1
      have hf : ∀ o, World.frozen? _ ⟨w.heap.size, o, none⟩ = false := HDr.out.2.2.1
      go_wp2
      obtain ⟨f1, f2, f3⟩ := Hno.out HN.out
      exact bodyPost_ret (v := .tuple #[.agg #[.int .i64 0, .int .i64 0, .int .i64 0, .int .i64 0, .int .i64 0, .int .i64 0, .int .i64 0, .bool false], .int .i64 0, .int .i64 7]) (by simp [results, Try.results12, go_sem, c0, c1, c2, c3, c4, c5, c6, c7]) rfl ⟨by rw [f1, f2, f3]; rfl, by (iterate 8 (refine Below.setCell ?_ (by simp) _)); exact HDr.out.1⟩
set_option maxHeartbeats 8000000 in
set_option maxRecDepth 100000 in
theorem rdec_4 (s : ByteArray) (x : Nat) (w : World) (hm : s.size ≤ maxLen) (hs : 4 ≤ s.size) (hz : De.size s = 4) (hx : De.word s 4 = x) :
    Calls Try.prog 12 #[.string s] w fun e w' => e = .returned (.tuple #[insV (De.ins s), .int .i64 (De.len s : Int), .int .i64 (De.err s)]) ∧ Below w.heap.size w w' := by
  have hm' := Lib.hid hm
  unfold maxLen at hm
  have HZ : Hid ((De.size s : Int) = 4) := Lib.hid (by rw [hz]; rfl)
  have q2 : (4 : Int) ≤ (s.size : Int) := by omega
  have Hfit := Lib.hid (fit_told s 4 x hz (by decide) hs hx)
  have Hno := Lib.hid (nofit_told s 4 x hz (by decide) hs hx)
  generalize hRI : De.ins s = RI at *
  generalize hRL : De.len s = RL at *
  generalize hRE : De.err s = RE at *
  clear hRI hRL hRE
  obtain ⟨T0, hT0⟩ : ∃ S, De.txt (De.half s 0) 16 = S := ⟨_, rfl⟩
  obtain ⟨T1, hT1⟩ : ∃ S, De.txt (De.half s 1) 16 = S := ⟨_, rfl⟩
  have HT0 := Lib.hid hT0
  have HT1 := Lib.hid hT1
  have z0 : T0.size = 16 := by rw [← hT0]; exact De.txt_size _ _
  have z1 : T1.size = 16 := by rw [← hT1]; exact De.txt_size _ _
  have q3 : ¬ 9223372036854775807 < T0.size + T1.size := by omega
  have HSS : Hid (De.txt x 32 = T0 ++ T1) := Lib.hid (by
    rw [← hx, ← hT0, ← hT1]
    unfold De.word
    rw [if_pos rfl]
    exact De.txt_join _ _ 16 (De.half_lt s 1) 16)
  clear hT0 hT1 z0 z1 hz hx
  have HD := Lib.hid (MemD.start w)
  go_enter Try.func12, Try.ntmps12
  go_wp2_with (first | (go_at_call 14; refine (rsize_lit _ _ _ hm'.out HZ).mono ?_; rintro e w1 ⟨rfl, hb1⟩; have HD1 := Lib.hid (HD.out.call hb1)) | (go_at_call 32; (with_reducible refine (rhalf0 _ _ _ (by omega) hm'.out HT0).mono ?_); rintro e w2 ⟨rfl, hb2⟩; have HD2 := Lib.hid (HD1.out.call hb2)) | (go_at_call 32; (with_reducible refine (rhalf1 _ _ _ (by omega) hm'.out HT1).mono ?_); rintro e w3 ⟨rfl, hb3⟩; have HD3 := Lib.hid (HD2.out.call hb3)))
  generalize hS : T0 ++ T1 = S at *
  have HS : Hid (De.txt x 32 = S) := HSS
  clear hS
  go_loopw [7] (fun K wr => ∃ k : Nat, 1 ≤ k ∧ k ≤ 26 ∧ K = .int .i64 (k : Int) ∧ NoFit x 32 k ∧ MemD w w.heap.size wr) (fun K _ => 26 - (intOf K).toNat)
  case atStart => exact ⟨1, by omega, by omega, rfl, NoFit.start _ _, HD3.out⟩
  case round =>
    obtain ⟨k, h1, h2, rfl, hN, hD⟩ := hrel
    have HN := Lib.hid hN
    have HDr := Lib.hid hD
    clear hN hD
    by_cases hle : k ≤ 25
    · have hle' : (k : Int) ≤ 25 := by omega
      rcases hI1 : De.rI k false x 32 with ⟨op1, rd1, rn1, rm1, ra1, imm1, cond1, wd1⟩
      rcases hI2 : De.rI k true x 32 with ⟨op2, rd2, rn2, rm2, ra2, imm2, cond2, wd2⟩
      have HI1 := Lib.hid hI1
      have HI2 := Lib.hid hI2
      clear hI1 hI2
      cases hK1 : De.rK k false x 32 with
      | true =>
        have HK1 := Lib.hid hK1
        clear hK1
        go_wp2_with ((go_at_call 33; (with_reducible refine (rread_lit _ false x 32 S _ _ _ _ _ _ _ _ _ _ (by omega) (by omega) HS HI1 HK1).mono ?_); rintro e w5 ⟨rfl, hb11⟩; have HE1 := Lib.hid (HDr.out.call hb11); obtain ⟨c0, c1, c2, c3, c4, c5, c6, c7⟩ := InsAt.alloc HE1.out.2.1 HE1.out.2.2.2 (.cells #[.int .i64 op1, .int .i64 rd1, .int .i64 rn1, .int .i64 rm1, .int .i64 ra1, .int .i64 imm1, .int .i64 cond1, .bool wd1] 23); obtain ⟨i0, i1, i2, i3, i4, i5, i6, i7⟩ := ins_alloc w5 23 op1 rd1 rn1 rm1 ra1 imm1 cond1 wd1; have hf : ∀ o, (w5.alloc (.cells #[.int .i64 op1, .int .i64 rd1, .int .i64 rn1, .int .i64 rm1, .int .i64 ra1, .int .i64 imm1, .int .i64 cond1, .bool wd1] 23)).frozen? ⟨w.heap.size, o, none⟩ = false := Open8.below HE1.out.2.2.1 ((Below.refl _ _).alloc (Nat.le_refl _) _) HE1.out.2.2.2))
        obtain ⟨f1, f2, f3⟩ := Hfit.out k false HK1.out
        have f1' := f1.trans HI1.out
        exact bodyPost_ret (v := .tuple #[.agg #[.int .i64 op1, .int .i64 rd1, .int .i64 rn1, .int .i64 rm1, .int .i64 ra1, .int .i64 imm1, .int .i64 cond1, .bool wd1], .int .i64 4, .int .i64 0]) (by simp [results, Try.results12, go_sem, c0, c1, c2, c3, c4, c5, c6, c7]) rfl ⟨by rw [f1', f2, f3]; rfl, by (iterate 8 (refine Below.setCell ?_ (by simp) _)); exact (HE1.out.alloc _).1⟩
      | false =>
        have HK1 := Lib.hid hK1
        clear hK1
        cases hK2 : De.rK k true x 32 with
        | true =>
          have HK2 := Lib.hid hK2
          clear hK2
          go_wp2_with (first | (go_at_call 33; (with_reducible refine (rread_lit _ false x 32 S _ _ _ _ _ _ _ _ _ _ (by omega) (by omega) HS HI1 HK1).mono ?_); rintro e w5 ⟨rfl, hb11⟩; have HE1 := Lib.hid (HDr.out.call hb11)) | (go_at_call 33; (with_reducible refine (rread_lit _ true x 32 S _ _ _ _ _ _ _ _ _ _ (by omega) (by omega) HS HI2 HK2).mono ?_); rintro e w6 ⟨rfl, hb12⟩; have HE2 := Lib.hid ((HE1.out.alloc _).call hb12); obtain ⟨c0, c1, c2, c3, c4, c5, c6, c7⟩ := InsAt.alloc HE2.out.2.1 HE2.out.2.2.2 (.cells #[.int .i64 op2, .int .i64 rd2, .int .i64 rn2, .int .i64 rm2, .int .i64 ra2, .int .i64 imm2, .int .i64 cond2, .bool wd2] 23); obtain ⟨i0, i1, i2, i3, i4, i5, i6, i7⟩ := ins_alloc w6 23 op2 rd2 rn2 rm2 ra2 imm2 cond2 wd2; have hf : ∀ o, (w6.alloc (.cells #[.int .i64 op2, .int .i64 rd2, .int .i64 rn2, .int .i64 rm2, .int .i64 ra2, .int .i64 imm2, .int .i64 cond2, .bool wd2] 23)).frozen? ⟨w.heap.size, o, none⟩ = false := Open8.below HE2.out.2.2.1 ((Below.refl _ _).alloc (Nat.le_refl _) _) HE2.out.2.2.2))
          obtain ⟨f1, f2, f3⟩ := Hfit.out k true HK2.out
          have f1' := f1.trans HI2.out
          exact bodyPost_ret (v := .tuple #[.agg #[.int .i64 op2, .int .i64 rd2, .int .i64 rn2, .int .i64 rm2, .int .i64 ra2, .int .i64 imm2, .int .i64 cond2, .bool wd2], .int .i64 4, .int .i64 0]) (by simp [results, Try.results12, go_sem, c0, c1, c2, c3, c4, c5, c6, c7]) rfl ⟨by rw [f1', f2, f3]; rfl, by (iterate 8 (refine Below.setCell ?_ (by simp) _)); exact (HE2.out.alloc _).1⟩
        | false =>
          have HK2 := Lib.hid hK2
          clear hK2
          go_wp2_with (first | (go_at_call 33; (with_reducible refine (rread_lit _ false x 32 S _ _ _ _ _ _ _ _ _ _ (by omega) (by omega) HS HI1 HK1).mono ?_); rintro e w5 ⟨rfl, hb11⟩; have HE1 := Lib.hid (HDr.out.call hb11)) | (go_at_call 33; (with_reducible refine (rread_lit _ true x 32 S _ _ _ _ _ _ _ _ _ _ (by omega) (by omega) HS HI2 HK2).mono ?_); rintro e w6 ⟨rfl, hb12⟩; have HE2 := Lib.hid ((HE1.out.alloc _).call hb12)))
          exact ⟨⟨k + 1, by omega, by omega, by simp, HN.out.next HK1.out HK2.out, HE2.out.alloc _⟩, by simp [intOf]; omega⟩
    · have hgt : ¬ (k : Int) ≤ 25 := by omega
      obtain rfl : k = 26 := by omega
      obtain ⟨c0, c1, c2, c3, c4, c5, c6, c7⟩ := HDr.out.2.1
      have hf : ∀ o, World.frozen? _ ⟨w.heap.size, o, none⟩ = false := HDr.out.2.2.1
      go_wp2
      obtain ⟨f1, f2, f3⟩ := Hno.out HN.out
      exact bodyPost_ret (v := .tuple #[.agg #[.int .i64 0, .int .i64 0, .int .i64 0, .int .i64 0, .int .i64 0, .int .i64 0, .int .i64 0, .bool false], .int .i64 0, .int .i64 7]) (by simp [results, Try.results12, go_sem, c0, c1, c2, c3, c4, c5, c6, c7]) rfl ⟨by rw [f1, f2, f3]; rfl, by (iterate 8 (refine Below.setCell ?_ (by simp) _)); exact HDr.out.1⟩
theorem rdecode_any (s : ByteArray) (w : World) (hm : s.size ≤ maxLen) :
    Calls Try.prog 12 #[.string s] w fun e w' => e = .returned (.tuple #[insV (De.ins s), .int .i64 (De.len s : Int), .int .i64 (De.err s)]) ∧ Below w.heap.size w w' := by
  by_cases h : De.size s = 0 ∨ s.size < De.size s
  · have he : De.err s = 3 := by unfold De.err; rw [if_pos h]
    have hi : De.ins s = Th.none0 := by unfold De.ins; rw [he, if_neg (by decide)]
    have hl : De.len s = 0 := by unfold De.len; rw [he, if_neg (by decide)]
    rw [he, hi, hl]
    exact rdec_short s w hm h
  · rcases De.size_cases s with hz | ⟨hz, -, -⟩ | ⟨hz, -⟩
    · exact absurd (.inl hz) h
    · exact rdec_2 s _ w hm (by omega) hz rfl
    · exact rdec_4 s _ w hm (by omega) hz rfl
end Go.Proofs.Ytdefgliogmlghaa
end
