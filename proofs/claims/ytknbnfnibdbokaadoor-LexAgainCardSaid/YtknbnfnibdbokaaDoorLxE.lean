/-
  What lex's reckon and number return.
-/
import Derived.Test.YtknbnfnibdbokaaDoorLxD
namespace Go.Proofs.YtknbnfnibdbokaaDoor
open Go.ChangeShapes Go.WideShapes Go.ChangeAt Go.RowKit
set_option linter.unusedVariables false
set_option linter.unusedSimpArgs false

/-- is it a digit of that base? -/
def Lx.okd (b : Nat) (c : UInt8) : Bool := if b = 16 then Lx.hex c else Lx.digit c
/-- what reckon comes to, from a number on -/
def Lx.rk (b : Nat) : Nat → List UInt8 → Option Nat
  | n, [] => some n
  | n, c :: r => if Lx.okd b c = true ∧ n * b + Lx.hval c ≤ 4294967295 then Lx.rk b (n * b + Lx.hval c) r else none
theorem Lx.ix10 : ∀ n, n < 256 → Lib.indexByte [48, 49, 50, 51, 52, 53, 54, 55, 56, 57] (UInt8.ofNat n) = if Lx.okd 10 (UInt8.ofNat n) then (Lx.hval (UInt8.ofNat n) : Int) else -1 := by decide +kernel
theorem Lx.ix16 : ∀ n, n < 256 → Lib.indexByte [48, 49, 50, 51, 52, 53, 54, 55, 56, 57, 97, 98, 99, 100, 101, 102] (UInt8.ofNat n) = if Lx.okd 16 (UInt8.ofNat n) then (Lx.hval (UInt8.ofNat n) : Int) else -1 := by decide +kernel
theorem Lx.hval_lt : ∀ n, n < 256 → Lx.okd 16 (UInt8.ofNat n) = true → Lx.hval (UInt8.ofNat n) < 16 := by decide +kernel
theorem Lx.hval_lt10 : ∀ n, n < 256 → Lx.okd 10 (UInt8.ofNat n) = true → Lx.hval (UInt8.ofNat n) < 10 := by decide +kernel
theorem Lx.of_byte (c : UInt8) : UInt8.ofNat c.toNat = c := by simp
def Lx.tens : List UInt8 := [48, 49, 50, 51, 52, 53, 54, 55, 56, 57]
def Lx.hexs : List UInt8 := [48, 49, 50, 51, 52, 53, 54, 55, 56, 57, 97, 98, 99, 100, 101, 102]
theorem Lx.notEmpty (s : ByteArray) : (!s.toList.isEmpty) = decide (0 < s.size) := by
  rw [Lib.toList_data, Lib.size_eq]
  cases s.data.toList <;> rfl
set_option maxHeartbeats 8000000 in
theorem reckon_any (s : ByteArray) (hs : s.size ≤ 281474976710656) (b : Nat) (hb : b = 10 ∨ b = 16) (w : World) :
    Calls Tryd.prog 38 #[.string s, .int .i64 (b : Int)] w fun e w' => e = .returned (.tuple #[.int .i64 ((((Lx.rk b 0 s.data.toList).getD 0) : Nat) : Int), .bool ((Lx.rk b 0 s.data.toList).isSome && decide (0 < s.size))]) ∧ Below w.heap.size w w' := by
  obtain ⟨D, hD, hDs⟩ : ∃ D : List UInt8, (⟨#[48, 49, 50, 51, 52, 53, 54, 55, 56, 57, 97, 98, 99, 100, 101, 102]⟩ : ByteArray).extract 0 b = Lx.S D ∧ ∀ c, Lib.indexByte D c = if Lx.okd b c then (Lx.hval c : Int) else -1 := by
    rcases hb with rfl | rfl
    · exact ⟨Lx.tens, by rw [Lx.S_ext]; rfl, fun c => by have := Lx.ix10 c.toNat c.toNat_lt; rw [Lx.of_byte] at this; exact this⟩
    · exact ⟨Lx.hexs, by rw [Lx.S_ext]; rfl, fun c => by have := Lx.ix16 c.toNat c.toNat_lt; rw [Lx.of_byte] at this; exact this⟩
  have hv : ∀ c, Lx.okd b c = true → Lx.hval c < 16 := by
    rcases hb with rfl | rfl
    · intro c h; have := Lx.hval_lt10 c.toNat c.toNat_lt; rw [Lx.of_byte] at this; have := this h; omega
    · intro c h; have := Lx.hval_lt c.toNat c.toNat_lt; rw [Lx.of_byte] at this; exact this h
  have HV := Lib.hid hv
  have HDS := Lib.hid hDs
  have CI := Lib.hid fun c w => ixb_any (Lx.S D) c w
  have hb1 : b ≤ 16 := by omega
  have hb2 : (b : Int) ≤ 16 := by omega
  clear hv hDs hb
  go_enter Tryd.func38, Tryd.ntmps38
  go_wp2
  go_loopw [6, 11] (fun N K wr => ∃ k m : Nat, k ≤ s.size ∧ K = .int .i64 (k : Int) ∧ N = .int .i64 (m : Int) ∧ m ≤ 4294967295 ∧ Hid (Lx.rk b m (s.data.toList.drop k) = Lx.rk b 0 s.data.toList) ∧ Below w.heap.size w wr) (fun _ K _ => s.size - (intOf K).toNat)
  case atStart => exact ⟨0, 0, Nat.zero_le _, rfl, rfl, by omega, Lib.hid rfl, Below.refl _ _⟩
  case round =>
    obtain ⟨k, m, hk, rfl, rfl, hm, HK, hB⟩ := hrel
    by_cases hlt : k < s.size
    · have hlt' : (k : Int) < (s.size : Int) := by omega
      have HG := Lib.hid (Lx.get s k hlt)
      have C1 := Lib.hid fun w => CI.out s[k] w
      rw [Lx.S_list, HDS.out] at C1
      have hq0 : (0 : Int) ≤ (m : Int) * (b : Int) := Int.mul_nonneg (by omega) (by omega)
      have hq1 : (m : Int) * (b : Int) ≤ 68719476720 := by
        have h := Nat.mul_le_mul hm hb1
        have : ((m * b : Nat) : Int) ≤ ((4294967295 * 16 : Nat) : Int) := by exact_mod_cast h
        simpa using this
      cases ho : Lx.okd b s[k]
      · rw [ho] at C1
        simp only [Bool.false_eq_true, if_false] at C1
        have HN : Hid (Lx.rk b 0 s.data.toList = none) := Lib.hid (by rw [← HK.out, HG.out, Lx.rk, if_neg (by rw [ho]; simp)])
        clear ho
        go_wp2
        go_quiet ((go_at_call 45; refine Calls.quiet_of_same (C1.out _)))
        go_wp2
        go_ret2
        exact ⟨by rw [HN.out]; rfl, below_drewN hB _⟩
      · rw [ho] at C1
        simp only [if_true] at C1
        have hvl := HV.out _ ho
        obtain ⟨d, hd⟩ : ∃ d, Lx.hval s[k] = d := ⟨_, rfl⟩
        have HD := Lib.hid hd
        rw [hd] at C1 hvl
        clear hd
        by_cases hle : (m : Int) * (b : Int) + (d : Int) ≤ 4294967295
        · have hle' : m * b + d ≤ 4294967295 := by
            have : ((m * b + d : Nat) : Int) ≤ 4294967295 := by simpa using hle
            omega
          have HN : Hid (Lx.rk b (m * b + d) (s.data.toList.drop (k + 1)) = Lx.rk b 0 s.data.toList) := Lib.hid (by rw [← HK.out, HG.out, Lx.rk, if_pos ⟨ho, by rw [HD.out]; exact hle'⟩, HD.out])
          clear ho
          go_wp2
          go_quiet ((go_at_call 45; refine Calls.quiet_of_same (C1.out _)))
          go_wp2
          exact ⟨⟨k + 1, m * b + d, by omega, by go_num, by simp, hle', HN, below_drewN hB _⟩, by simp [intOf]; omega⟩
        · have hgt : (4294967295 : Int) < (m : Int) * (b : Int) + (d : Int) := by omega
          have hgt' : ¬ m * b + d ≤ 4294967295 := fun h => hle (by
            have : ((m * b + d : Nat) : Int) ≤ 4294967295 := by omega
            simpa using this)
          have HN : Hid (Lx.rk b 0 s.data.toList = none) := Lib.hid (by rw [← HK.out, HG.out, Lx.rk, if_neg (by rw [HD.out]; exact fun h => hgt' h.2)])
          clear ho hgt'
          go_wp2
          go_quiet ((go_at_call 45; refine Calls.quiet_of_same (C1.out _)))
          go_wp2
          go_ret2
          exact ⟨by rw [HN.out]; rfl, below_drewN hB _⟩
    · have hge : ¬ (k : Int) < (s.size : Int) := by omega
      have HN : Hid (Lx.rk b 0 s.data.toList = some m) := Lib.hid (by rw [← HK.out, Lx.drop_nil s k (by omega)]; rfl)
      go_wp2
      go_ret2
      refine ⟨?_, hB⟩
      show Ending.returned (.tuple #[.int .i64 (m : Int), .bool (!s.toList.isEmpty)]) = _
      rw [HN.out, Lx.notEmpty]; rfl
theorem Lx.valF_le (b : Nat) (hb : 1 ≤ b) (l : List UInt8) : ∀ n, n * b ^ l.length ≤ l.foldl (fun n c => n * b + Lx.hval c) n := by
  induction l with
  | nil => intro n; simp
  | cons c r ih =>
    intro n
    have h := ih (n * b + Lx.hval c)
    rw [List.foldl_cons, List.length_cons, Nat.pow_succ]
    have h2 : n * (b ^ r.length * b) = (n * b) * b ^ r.length := by rw [Nat.mul_comm (b ^ r.length) b, Nat.mul_assoc]
    rw [h2]
    exact Nat.le_trans (Nat.mul_le_mul_right _ (Nat.le_add_right _ _)) h
theorem Lx.valF_ge (b : Nat) (hb : 1 ≤ b) (l : List UInt8) (n : Nat) : n ≤ l.foldl (fun n c => n * b + Lx.hval c) n :=
  Nat.le_trans (Nat.le_mul_of_pos_right n (Nat.pow_pos (by omega))) (Lx.valF_le b hb l n)
theorem Lx.rk_is (b : Nat) (hb : 1 ≤ b) (l : List UInt8) : ∀ n, n ≤ 4294967295 → Lx.rk b n l = if l.all (Lx.okd b) = true ∧ l.foldl (fun n c => n * b + Lx.hval c) n ≤ 4294967295 then some (l.foldl (fun n c => n * b + Lx.hval c) n) else none := by
  induction l with
  | nil => intro n hn; rw [Lx.rk, if_pos ⟨rfl, hn⟩]; rfl
  | cons c r ih =>
    intro n hn
    rw [Lx.rk, List.foldl_cons, List.all_cons]
    have hg := Lx.valF_ge b hb r (n * b + Lx.hval c)
    by_cases h : Lx.okd b c = true ∧ n * b + Lx.hval c ≤ 4294967295
    · rw [if_pos h, ih _ h.2, h.1, Bool.true_and]
    · rw [if_neg h, if_neg]
      rintro ⟨h1, h2⟩
      rw [Bool.and_eq_true] at h1
      exact h ⟨h1.1, Nat.le_trans hg h2⟩
theorem Lx.hval_hex (c : UInt8) (h : Lx.hex c = true) : Lx.hval c < 16 := by
  have := Lx.hval_lt c.toNat c.toNat_lt; rw [Lx.of_byte] at this; exact this h
theorem Lx.valF_lt (l : List UInt8) (h : l.all Lx.hex = true) : ∀ n, l.foldl (fun n c => n * 16 + Lx.hval c) n < (n + 1) * 16 ^ l.length := by
  induction l with
  | nil => intro n; simp
  | cons c r ih =>
    intro n
    rw [List.all_cons, Bool.and_eq_true] at h
    have h1 := ih h.2 (n * 16 + Lx.hval c)
    have h2 := Lx.hval_hex c h.1
    rw [List.foldl_cons, List.length_cons, Nat.pow_succ, Nat.mul_comm (16 ^ r.length) 16, ← Nat.mul_assoc]
    exact Nat.lt_of_lt_of_le h1 (Nat.mul_le_mul_right _ (by omega))
theorem Lx.num_hex (l : List UInt8) (h : l.take 2 = [48, 120]) : (0 ≤ Lx.num l ↔ ((Lx.rk 16 0 (l.drop 2)).isSome = true ∧ 0 < (l.drop 2).length) ∧ (l.drop 2).length ≤ 8) ∧ (0 ≤ Lx.num l → Lx.num l = (((Lx.rk 16 0 (l.drop 2)).getD 0 : Nat) : Int)) := by
  rw [Lx.num, if_pos h, Lx.rk_is 16 (by omega) _ 0 (by omega)]
  obtain ⟨m, hm⟩ : ∃ m, l.drop 2 = m := ⟨_, rfl⟩
  rw [hm]
  have ha : m.all (Lx.okd 16) = m.all Lx.hex := rfl
  rw [ha]
  by_cases h1 : m.length ≤ 8 ∧ m ≠ [] ∧ m.all Lx.hex = true
  · have h2 := Lx.valF_lt m h1.2.2 0
    have h3 : 16 ^ m.length ≤ 16 ^ 8 := Nat.pow_le_pow_right (by omega) h1.1
    have h4 : 0 < m.length := List.length_pos_iff.2 h1.2.1
    rw [if_pos h1, if_pos ⟨h1.2.2, by omega⟩]
    unfold Lx.val
    exact ⟨⟨fun _ => ⟨⟨rfl, h4⟩, h1.1⟩, fun _ => by omega⟩, fun _ => rfl⟩
  · rw [if_neg h1]
    refine ⟨⟨fun h => by omega, fun h => ?_⟩, fun h => by omega⟩
    exfalso
    obtain ⟨⟨h2, h3⟩, h4⟩ := h
    refine h1 ⟨h4, fun e => by rw [e] at h3; simp at h3, ?_⟩
    by_cases h5 : m.all Lx.hex = true ∧ List.foldl (fun n c => n * 16 + Lx.hval c) 0 m ≤ 4294967295
    · exact h5.1
    · rw [if_neg h5] at h2; cases h2
theorem Lx.num_ten (l : List UInt8) (h : ¬ l.take 2 = [48, 120]) : (0 ≤ Lx.num l ↔ ((Lx.rk 10 0 l).isSome = true ∧ 0 < l.length) ∧ (l.head? ≠ some 48 ∨ l = [48])) ∧ (0 ≤ Lx.num l → Lx.num l = (((Lx.rk 10 0 l).getD 0 : Nat) : Int)) := by
  rw [Lx.num, if_neg h, Lx.rk_is 10 (by omega) _ 0 (by omega)]
  have ha : l.all (Lx.okd 10) = l.all Lx.digit := rfl
  rw [ha]
  by_cases h1 : l ≠ [] ∧ l.length ≤ 10 ∧ (1 < l.length → l.head? ≠ some 48) ∧ l.all Lx.digit = true ∧ Lx.val 10 l < 4294967296
  · have h4 : 0 < l.length := List.length_pos_iff.2 h1.1
    have h5 : List.foldl (fun n c => n * 10 + Lx.hval c) 0 l ≤ 4294967295 := by have := h1.2.2.2.2; unfold Lx.val at this; omega
    rw [if_pos h1, if_pos ⟨h1.2.2.2.1, h5⟩]
    unfold Lx.val
    refine ⟨⟨fun _ => ⟨⟨rfl, h4⟩, ?_⟩, fun _ => by omega⟩, fun _ => rfl⟩
    rcases l with _ | ⟨a, _ | ⟨b, r⟩⟩
    · simp at h4
    · by_cases ha : a = 48
      · exact Or.inr (by rw [ha])
      · exact Or.inl (by simpa using ha)
    · exact Or.inl (h1.2.2.1 (by simp))
  · rw [if_neg h1]
    refine ⟨⟨fun h => by omega, fun h => ?_⟩, fun h => by omega⟩
    exfalso
    obtain ⟨⟨h2, h3⟩, h4⟩ := h
    have h5 : l.all Lx.digit = true ∧ List.foldl (fun n c => n * 10 + Lx.hval c) 0 l ≤ 4294967295 := by
      by_cases h5 : l.all Lx.digit = true ∧ List.foldl (fun n c => n * 10 + Lx.hval c) 0 l ≤ 4294967295
      · exact h5
      · rw [if_neg h5] at h2; cases h2
    refine h1 ⟨fun e => by rw [e] at h3; simp at h3, ?_, ?_, h5.1, by unfold Lx.val; omega⟩
    · rcases h4 with h4 | h4
      · cases l with
        | nil => simp
        | cons a r =>
          have hd : Lx.digit a = true := by have := h5.1; rw [List.all_cons, Bool.and_eq_true] at this; exact this.1
          have hv : 1 ≤ Lx.hval a := by
            have h6 : a ≠ 48 := by simpa using h4
            have h7 : a.toNat ≠ 48 := fun e => h6 (UInt8.toNat_inj.1 e)
            unfold Lx.hval
            rw [if_pos hd]
            unfold Lx.digit at hd
            simp at hd
            omega
          have h8 := Lx.valF_le 10 (by omega) r (0 * 10 + Lx.hval a)
          have h9 := h5.2
          rw [List.foldl_cons] at h9
          rw [List.length_cons]
          apply Nat.le_of_not_lt
          intro hlt
          have h10 : 10 ^ 10 ≤ 10 ^ r.length := Nat.pow_le_pow_right (by omega) (by omega)
          have h11 : 1 * 10 ^ r.length ≤ (0 * 10 + Lx.hval a) * 10 ^ r.length := Nat.mul_le_mul_right _ (by omega)
          omega
      · rw [h4]; simp
    · intro hl
      rcases h4 with h4 | h4
      · exact h4
      · rw [h4] at hl; simp at hl
theorem Lx.pre_hex (l : List UInt8) : ([48, 120] : List UInt8).isPrefixOf l = true ↔ l.take 2 = [48, 120] := by
  rcases l with _ | ⟨a, _ | ⟨b, r⟩⟩ <;> simp [List.isPrefixOf]
  exact ⟨fun h => ⟨h.1.symm, h.2.symm⟩, fun h => ⟨h.1.symm, h.2.symm⟩⟩
set_option maxHeartbeats 4000000 in
theorem scutp_any (s : ByteArray) (p : Bool) (hp : ([48, 120] : List UInt8).isPrefixOf s.data.toList = p) (w : World) :
    Calls Tryd.prog 44 #[.string s, .string ⟨#[48, 120]⟩] w fun e w' => e = .returned (.tuple #[.string (if p then Lx.S (s.data.toList.drop 2) else s), .bool p]) ∧ w' = w := by
  have C := Lib.hid fun w => spre_any s ⟨#[48, 120]⟩ w
  simp only [List.toList_toArray] at C
  rw [hp] at C
  cases p
  · clear hp
    go_enter Tryd.func44, Tryd.ntmps44
    go_wp2_with (go_at_call 35; refine (C.out _).mono ?_; rintro e w1 ⟨rfl, rfl⟩)
    go_ret2
    exact ⟨rfl, rfl⟩
  · have h2 : 2 ≤ s.size := by
      have h := Lib.size_eq s
      rcases hl : s.data.toList with _ | ⟨a, _ | ⟨b, r⟩⟩ <;> rw [hl] at hp h <;> simp [List.isPrefixOf] at hp h
      omega
    clear hp
    go_enter Tryd.func44, Tryd.ntmps44
    go_wp2_with (go_at_call 35; refine (C.out _).mono ?_; rintro e w1 ⟨rfl, rfl⟩)
    go_ret2
    exact ⟨by rw [← ext_rest]; rfl, rfl⟩
theorem cutp_any (s : ByteArray) (p : Bool) (hp : ([48, 120] : List UInt8).isPrefixOf s.data.toList = p) (w : World) :
    Calls Tryd.prog 37 #[.string s, .string ⟨#[48, 120]⟩] w fun e w' => e = .returned (.tuple #[.string (if p then Lx.S (s.data.toList.drop 2) else s), .bool p]) ∧ w' = w := by
  have C := Lib.hid fun w => scutp_any s p hp w
  generalize (if p then Lx.S (s.data.toList.drop 2) else s) = t at C ⊢
  clear hp
  go_enter Tryd.func37, Tryd.ntmps37
  go_wp2_with (go_at_call 44; refine (C.out _).mono ?_; rintro e w1 ⟨rfl, rfl⟩)
  go_ret2
  exact ⟨rfl, rfl⟩
set_option maxHeartbeats 4000000 in
theorem number_any (s : ByteArray) (hs : s.size ≤ 281474976710656) (w : World) :
    Calls Tryd.prog 23 #[.string s] w fun e w' => (∃ n : Int, e = .returned (.tuple #[.int .i64 n, .bool (decide (0 ≤ Lx.num s.data.toList))]) ∧ (0 ≤ Lx.num s.data.toList → n = Lx.num s.data.toList)) ∧ Below w.heap.size w w' := by
  cases hp : ([48, 120] : List UInt8).isPrefixOf s.data.toList
  · have HN := Lib.hid (Lx.num_ten s.data.toList (fun h => by rw [(Lx.pre_hex _).2 h] at hp; cases hp))
    have C1 := Lib.hid fun w => cutp_any s false hp w
    simp only [Bool.false_eq_true, if_false] at C1
    have C2 := Lib.hid fun w => reckon_any s hs 10 (Or.inl rfl) w
    rw [show ((10 : Nat) : Int) = 10 from rfl] at C2
    have HZ := Lib.hid (Lib.size_eq s)
    generalize Lx.num s.data.toList = N at HN ⊢
    generalize Lx.rk 10 0 s.data.toList = R at HN C2
    clear hp
    rcases R with _ | m
    · simp only [Option.isSome_none, Bool.false_and, Option.getD_none] at C2
      have hn : Hid (¬ 0 ≤ N) := Lib.hid (fun h => by have := (HN.out.1.1 h).1.1; cases this)
      go_enter Tryd.func23, Tryd.ntmps23
      go_wp2_with (first
        | (go_at_call 37; refine (C1.out _).mono ?_; rintro e w1 ⟨rfl, rfl⟩)
        | (go_at_call 38; refine (C2.out _).mono ?_; rintro e w2 ⟨rfl, hb2⟩))
      go_ret2
      exact ⟨⟨0, by rw [decide_eq_false (p := 0 ≤ N) (by have := hn.out; omega)]; rfl, fun h => absurd h (by have := hn.out; omega)⟩, hb2⟩
    · simp only [Option.isSome_some, Bool.true_and, Option.getD_some] at C2 HN
      by_cases h0 : 0 < s.size
      · have h0' : (0 : Int) < (s.size : Int) := by omega
        simp only [h0, decide_true] at C2
        cases hq : (((s[0]'h0).toNat : Int) == 48)
        · have hq' : (((s[0]'h0).toNat : Int) != 48) = true := by simp [bne, hq]
          have hn : Hid (0 ≤ N) := Lib.hid (HN.out.1.2 ⟨⟨trivial, by rw [← HZ.out]; exact h0⟩, Or.inl (by
            have h1 := Lx.get s 0 h0
            rw [List.drop_zero] at h1
            rw [h1]
            intro e
            have e2 : s[0] = 48 := by simpa using e
            rw [e2] at hq
            exact absurd hq (by decide))⟩)
          go_enter Tryd.func23, Tryd.ntmps23
          go_wp2_with (first
            | (go_at_call 37; refine (C1.out _).mono ?_; rintro e w1 ⟨rfl, rfl⟩)
            | (go_at_call 38; refine (C2.out _).mono ?_; rintro e w2 ⟨rfl, hb2⟩))
          go_ret2
          exact ⟨⟨(m : Int), by rw [decide_eq_true (p := 0 ≤ N) hn.out]; rfl, fun h => (HN.out.2 h).symm⟩, hb2⟩
        · have hq' : (((s[0]'h0).toNat : Int) != 48) = false := by simp [bne, hq]
          have HH : Hid (s.data.toList.head? = some 48) := Lib.hid (by
            have h1 := Lx.get s 0 h0
            rw [List.drop_zero] at h1
            rw [h1]
            have e2 : s[0] = 48 := UInt8.toNat_inj.1 (by have := eq_of_beq hq; exact_mod_cast this)
            rw [e2]; rfl)
          cases hl : (s.toList == [48])
          · have hn : Hid (¬ 0 ≤ N) := Lib.hid (fun h => by
              rcases (HN.out.1.1 h).2 with h3 | h3
              · exact h3 HH.out
              · rw [Lib.toList_data, h3] at hl; exact absurd hl (by decide))
            go_enter Tryd.func23, Tryd.ntmps23
            go_wp2_with (first
              | (go_at_call 37; refine (C1.out _).mono ?_; rintro e w1 ⟨rfl, rfl⟩)
              | (go_at_call 38; refine (C2.out _).mono ?_; rintro e w2 ⟨rfl, hb2⟩))
            go_ret2
            exact ⟨⟨(m : Int), by rw [decide_eq_false (p := 0 ≤ N) (by have := hn.out; omega)]; rfl, fun h => absurd h (by have := hn.out; omega)⟩, hb2⟩
          · have hn : Hid (0 ≤ N) := Lib.hid (HN.out.1.2 ⟨⟨trivial, by rw [← HZ.out]; exact h0⟩, Or.inr (by rw [← Lib.toList_data]; exact eq_of_beq hl)⟩)
            go_enter Tryd.func23, Tryd.ntmps23
            go_wp2_with (first
              | (go_at_call 37; refine (C1.out _).mono ?_; rintro e w1 ⟨rfl, rfl⟩)
              | (go_at_call 38; refine (C2.out _).mono ?_; rintro e w2 ⟨rfl, hb2⟩))
            go_ret2
            exact ⟨⟨(m : Int), by rw [decide_eq_true (p := 0 ≤ N) hn.out]; rfl, fun h => (HN.out.2 h).symm⟩, hb2⟩
      · simp only [h0, decide_false] at C2
        have hn : Hid (¬ 0 ≤ N) := Lib.hid (fun h => by have := (HN.out.1.1 h).1.2; rw [← HZ.out] at this; exact h0 this)
        go_enter Tryd.func23, Tryd.ntmps23
        go_wp2_with (first
          | (go_at_call 37; refine (C1.out _).mono ?_; rintro e w1 ⟨rfl, rfl⟩)
          | (go_at_call 38; refine (C2.out _).mono ?_; rintro e w2 ⟨rfl, hb2⟩))
        go_ret2
        exact ⟨⟨(m : Int), by rw [decide_eq_false (p := 0 ≤ N) (by have := hn.out; omega)]; rfl, fun h => absurd h (by have := hn.out; omega)⟩, hb2⟩
  · have HN := Lib.hid (Lx.num_hex s.data.toList ((Lx.pre_hex _).1 hp))
    have C1 := Lib.hid fun w => cutp_any s true hp w
    simp only [if_true] at C1
    obtain ⟨d, hd⟩ : ∃ d, s.data.toList.drop 2 = d := ⟨_, rfl⟩
    have hdl : d.length ≤ s.size := by rw [← hd, List.length_drop, Lib.size_eq]; omega
    rw [hd] at C1 HN
    have C2 := Lib.hid fun w => reckon_any (Lx.S d) (by rw [Lx.S_size]; omega) 16 (Or.inr rfl) w
    rw [show ((16 : Nat) : Int) = 16 from rfl, Lx.S_list, Lx.S_size] at C2
    have hsz := Lx.S_size d
    have HZ := Lib.hid hsz
    generalize Lx.num s.data.toList = N at HN ⊢
    generalize Lx.rk 16 0 d = R at HN C2
    clear hp hd hdl hsz
    rcases R with _ | m
    · simp only [Option.isSome_none, Bool.false_and, Option.getD_none] at C2
      have hn : Hid (¬ 0 ≤ N) := Lib.hid (fun h => by have := (HN.out.1.1 h).1.1; cases this)
      go_enter Tryd.func23, Tryd.ntmps23
      go_wp2_with (first
        | (go_at_call 37; refine (C1.out _).mono ?_; rintro e w1 ⟨rfl, rfl⟩)
        | (go_at_call 38; refine (C2.out _).mono ?_; rintro e w2 ⟨rfl, hb2⟩))
      go_ret2
      exact ⟨⟨0, by rw [decide_eq_false (p := 0 ≤ N) (by have := hn.out; omega)]; rfl, fun h => absurd h (by have := hn.out; omega)⟩, hb2⟩
    · simp only [Option.isSome_some, Bool.true_and, Option.getD_some] at C2 HN
      obtain ⟨D, hD⟩ : ∃ D, Lx.S d = D := ⟨_, rfl⟩
      rw [hD] at C1 C2 HZ
      have HDD := Lib.hid hD
      clear hD
      by_cases h0 : 0 < d.length
      · simp only [h0, decide_true] at C2
        by_cases h8 : D.size ≤ 8
        · have h8' : (D.size : Int) ≤ 8 := by omega
          have hn : Hid (0 ≤ N) := Lib.hid (HN.out.1.2 ⟨⟨trivial, h0⟩, by rw [← HZ.out]; exact h8⟩)
          go_enter Tryd.func23, Tryd.ntmps23
          go_wp2_with (first
            | (go_at_call 37; refine (C1.out _).mono ?_; rintro e w1 ⟨rfl, rfl⟩)
            | (go_at_call 38; refine (C2.out _).mono ?_; rintro e w2 ⟨rfl, hb2⟩))
          go_ret2
          exact ⟨⟨(m : Int), by rw [decide_eq_true (p := 0 ≤ N) hn.out]; rfl, fun h => (HN.out.2 h).symm⟩, hb2⟩
        · have h8' : ¬ (D.size : Int) ≤ 8 := by omega
          have hn : Hid (¬ 0 ≤ N) := Lib.hid (fun h => by have := (HN.out.1.1 h).2; rw [← HZ.out] at this; exact h8 this)
          go_enter Tryd.func23, Tryd.ntmps23
          go_wp2_with (first
            | (go_at_call 37; refine (C1.out _).mono ?_; rintro e w1 ⟨rfl, rfl⟩)
            | (go_at_call 38; refine (C2.out _).mono ?_; rintro e w2 ⟨rfl, hb2⟩))
          go_ret2
          exact ⟨⟨(m : Int), by rw [decide_eq_false (p := (D.size : Int) ≤ 8) (by omega), decide_eq_false (p := 0 ≤ N) (by have := hn.out; omega)]; rfl, fun h => absurd h (by have := hn.out; omega)⟩, hb2⟩
      · simp only [h0, decide_false] at C2
        have hn : Hid (¬ 0 ≤ N) := Lib.hid (fun h => h0 (HN.out.1.1 h).1.2)
        go_enter Tryd.func23, Tryd.ntmps23
        go_wp2_with (first
          | (go_at_call 37; refine (C1.out _).mono ?_; rintro e w1 ⟨rfl, rfl⟩)
          | (go_at_call 38; refine (C2.out _).mono ?_; rintro e w2 ⟨rfl, hb2⟩))
        go_ret2
        exact ⟨⟨(m : Int), by rw [decide_eq_false (p := 0 ≤ N) (by have := hn.out; omega)]; rfl, fun h => absurd h (by have := hn.out; omega)⟩, hb2⟩
end Go.Proofs.YtknbnfnibdbokaaDoor
