/-
What lex's reckon and number return.
Plain mathematics of layer 12, fifth part: lists of tokens that agree as far as a reader comes are read alike.
Plain mathematics of layer 12, for the program's own way: the document's functions without fuel, as equations; levels of signs, one loop each.
-/
import Derived.Test.YtbnhegipdfkdgaaDoorP05a
section
namespace Go.Proofs.YtbnhegipdfkdgaaDoor
open Go.ChangeShapes Go.WideShapes Go.ChangeAt Go.RowKit
set_option linter.unusedVariables false
set_option linter.unusedSimpArgs false

/-- is it a digit of that base? -/
def Lx.okd (b : Nat) (c : UInt8) : Bool := if b = 16 then Lx.hex c else Lx.digit c
/-- what reckon comes to, from a number on -/
def Lx.rk (b : Nat) : Nat → List UInt8 → Option Nat
  | n, [] => some n
  | n, c :: r => if Lx.okd b c = true ∧ n * b + Lx.hval c ≤ 4294967295 then Lx.rk b (n * b + Lx.hval c) r else none
theorem Lx.ix10 : ∀ n, n < 256 → Lib.indexByte [48, 49, 50, 51, 52, 53, 54, 55, 56, 57] (UInt8.ofNat n) = if Lx.okd 10 (UInt8.ofNat n) then (Lx.hval (UInt8.ofNat n) : Int) else -1 := by decide +kernel
theorem Lx.ix16 : ∀ n, n < 256 → Lib.indexByte [48, 49, 50, 51, 52, 53, 54, 55, 56, 57, 97, 98, 99, 100, 101, 102] (UInt8.ofNat n) = if Lx.okd 16 (UInt8.ofNat n) then (Lx.hval (UInt8.ofNat n) : Int) else -1 := by decide +kernel
theorem Lx.hval_lt : ∀ n, n < 256 → Lx.okd 16 (UInt8.ofNat n) = true → Lx.hval (UInt8.ofNat n) < 16 := by decide +kernel
theorem Lx.hval_lt10 : ∀ n, n < 256 → Lx.okd 10 (UInt8.ofNat n) = true → Lx.hval (UInt8.ofNat n) < 10 := by decide +kernel
theorem Lx.of_byte (c : UInt8) : UInt8.ofNat c.toNat = c := by simp
def Lx.tens : List UInt8 := [48, 49, 50, 51, 52, 53, 54, 55, 56, 57]
def Lx.hexs : List UInt8 := [48, 49, 50, 51, 52, 53, 54, 55, 56, 57, 97, 98, 99, 100, 101, 102]
theorem Lx.notEmpty (s : ByteArray) : (!s.toList.isEmpty) = decide (0 < s.size) := by
  rw [Lib.toList_data, Lib.size_eq]
  cases s.data.toList <;> rfl
set_option maxHeartbeats 8000000 in
theorem reckon_any (s : ByteArray) (hs : s.size ≤ 281474976710656) (b : Nat) (hb : b = 10 ∨ b = 16) (w : World) :
    Calls Tryd.prog 43 #[.string s, .int .i64 (b : Int)] w fun e w' => e = .returned (.tuple #[.int .i64 ((((Lx.rk b 0 s.data.toList).getD 0) : Nat) : Int), .bool ((Lx.rk b 0 s.data.toList).isSome && decide (0 < s.size))]) ∧ Below w.heap.size w w' := by
  obtain ⟨D, hD, hDs⟩ : ∃ D : List UInt8, (⟨#[48, 49, 50, 51, 52, 53, 54, 55, 56, 57, 97, 98, 99, 100, 101, 102]⟩ : ByteArray).extract 0 b = Lx.S D ∧ ∀ c, Lib.indexByte D c = if Lx.okd b c then (Lx.hval c : Int) else -1 := by
    rcases hb with rfl | rfl
    · exact ⟨Lx.tens, by rw [Lx.S_ext]; rfl, fun c => by have := Lx.ix10 c.toNat c.toNat_lt; rw [Lx.of_byte] at this; exact this⟩
    · exact ⟨Lx.hexs, by rw [Lx.S_ext]; rfl, fun c => by have := Lx.ix16 c.toNat c.toNat_lt; rw [Lx.of_byte] at this; exact this⟩
  have hv : ∀ c, Lx.okd b c = true → Lx.hval c < 16 := by
    rcases hb with rfl | rfl
    · intro c h; have := Lx.hval_lt10 c.toNat c.toNat_lt; rw [Lx.of_byte] at this; have := this h; omega
    · intro c h; have := Lx.hval_lt c.toNat c.toNat_lt; rw [Lx.of_byte] at this; exact this h
  have HV := Lib.hid hv
  have HDS := Lib.hid hDs
  have CI := Lib.hid fun c w => ixb_any (Lx.S D) c w
  have hb1 : b ≤ 16 := by omega
  have hb2 : (b : Int) ≤ 16 := by omega
  clear hv hDs hb
  go_enter Tryd.func43, Tryd.ntmps43
  go_wp2
  go_loopw [6, 11] (fun N K wr => ∃ k m : Nat, k ≤ s.size ∧ K = .int .i64 (k : Int) ∧ N = .int .i64 (m : Int) ∧ m ≤ 4294967295 ∧ Hid (Lx.rk b m (s.data.toList.drop k) = Lx.rk b 0 s.data.toList) ∧ Below w.heap.size w wr) (fun _ K _ => s.size - (intOf K).toNat)
  case atStart => exact ⟨0, 0, Nat.zero_le _, rfl, rfl, by omega, Lib.hid rfl, Below.refl _ _⟩
  case round =>
    obtain ⟨k, m, hk, rfl, rfl, hm, HK, hB⟩ := hrel
    by_cases hlt : k < s.size
    · have hlt' : (k : Int) < (s.size : Int) := by omega
      have HG := Lib.hid (Lx.get s k hlt)
      have C1 := Lib.hid fun w => CI.out s[k] w
      rw [Lx.S_list, HDS.out] at C1
      have hq0 : (0 : Int) ≤ (m : Int) * (b : Int) := Int.mul_nonneg (by omega) (by omega)
      have hq1 : (m : Int) * (b : Int) ≤ 68719476720 := by
        have h := Nat.mul_le_mul hm hb1
        have : ((m * b : Nat) : Int) ≤ ((4294967295 * 16 : Nat) : Int) := by exact_mod_cast h
        simpa using this
      cases ho : Lx.okd b s[k]
      · rw [ho] at C1
        simp only [Bool.false_eq_true, if_false] at C1
        have HN : Hid (Lx.rk b 0 s.data.toList = none) := Lib.hid (by rw [← HK.out, HG.out, Lx.rk, if_neg (by rw [ho]; simp)])
        clear ho
        go_wp2
        go_quiet ((go_at_call 56; refine Calls.quiet_of_same (C1.out _)))
        go_wp2
        go_ret2
        exact ⟨by rw [HN.out]; rfl, below_drewN hB _⟩
      · rw [ho] at C1
        simp only [if_true] at C1
        have hvl := HV.out _ ho
        obtain ⟨d, hd⟩ : ∃ d, Lx.hval s[k] = d := ⟨_, rfl⟩
        have HD := Lib.hid hd
        rw [hd] at C1 hvl
        clear hd
        by_cases hle : (m : Int) * (b : Int) + (d : Int) ≤ 4294967295
        · have hle' : m * b + d ≤ 4294967295 := by
            have : ((m * b + d : Nat) : Int) ≤ 4294967295 := by simpa using hle
            omega
          have HN : Hid (Lx.rk b (m * b + d) (s.data.toList.drop (k + 1)) = Lx.rk b 0 s.data.toList) := Lib.hid (by rw [← HK.out, HG.out, Lx.rk, if_pos ⟨ho, by rw [HD.out]; exact hle'⟩, HD.out])
          clear ho
          go_wp2
          go_quiet ((go_at_call 56; refine Calls.quiet_of_same (C1.out _)))
          go_wp2
          exact ⟨⟨k + 1, m * b + d, by omega, by go_num, by simp, hle', HN, below_drewN hB _⟩, by simp [intOf]; omega⟩
        · have hgt : (4294967295 : Int) < (m : Int) * (b : Int) + (d : Int) := by omega
          have hgt' : ¬ m * b + d ≤ 4294967295 := fun h => hle (by
            have : ((m * b + d : Nat) : Int) ≤ 4294967295 := by omega
            simpa using this)
          have HN : Hid (Lx.rk b 0 s.data.toList = none) := Lib.hid (by rw [← HK.out, HG.out, Lx.rk, if_neg (by rw [HD.out]; exact fun h => hgt' h.2)])
          clear ho hgt'
          go_wp2
          go_quiet ((go_at_call 56; refine Calls.quiet_of_same (C1.out _)))
          go_wp2
          go_ret2
          exact ⟨by rw [HN.out]; rfl, below_drewN hB _⟩
    · have hge : ¬ (k : Int) < (s.size : Int) := by omega
      have HN : Hid (Lx.rk b 0 s.data.toList = some m) := Lib.hid (by rw [← HK.out, Lx.drop_nil s k (by omega)]; rfl)
      go_wp2
      go_ret2
      refine ⟨?_, hB⟩
      show Ending.returned (.tuple #[.int .i64 (m : Int), .bool (!s.toList.isEmpty)]) = _
      rw [HN.out, Lx.notEmpty]; rfl
theorem Lx.valF_le (b : Nat) (hb : 1 ≤ b) (l : List UInt8) : ∀ n, n * b ^ l.length ≤ l.foldl (fun n c => n * b + Lx.hval c) n := by
  induction l with
  | nil => intro n; simp
  | cons c r ih =>
    intro n
    have h := ih (n * b + Lx.hval c)
    rw [List.foldl_cons, List.length_cons, Nat.pow_succ]
    have h2 : n * (b ^ r.length * b) = (n * b) * b ^ r.length := by rw [Nat.mul_comm (b ^ r.length) b, Nat.mul_assoc]
    rw [h2]
    exact Nat.le_trans (Nat.mul_le_mul_right _ (Nat.le_add_right _ _)) h
theorem Lx.valF_ge (b : Nat) (hb : 1 ≤ b) (l : List UInt8) (n : Nat) : n ≤ l.foldl (fun n c => n * b + Lx.hval c) n :=
  Nat.le_trans (Nat.le_mul_of_pos_right n (Nat.pow_pos (by omega))) (Lx.valF_le b hb l n)
theorem Lx.rk_is (b : Nat) (hb : 1 ≤ b) (l : List UInt8) : ∀ n, n ≤ 4294967295 → Lx.rk b n l = if l.all (Lx.okd b) = true ∧ l.foldl (fun n c => n * b + Lx.hval c) n ≤ 4294967295 then some (l.foldl (fun n c => n * b + Lx.hval c) n) else none := by
  induction l with
  | nil => intro n hn; rw [Lx.rk, if_pos ⟨rfl, hn⟩]; rfl
  | cons c r ih =>
    intro n hn
    rw [Lx.rk, List.foldl_cons, List.all_cons]
    have hg := Lx.valF_ge b hb r (n * b + Lx.hval c)
    by_cases h : Lx.okd b c = true ∧ n * b + Lx.hval c ≤ 4294967295
    · rw [if_pos h, ih _ h.2, h.1, Bool.true_and]
    · rw [if_neg h, if_neg]
      rintro ⟨h1, h2⟩
      rw [Bool.and_eq_true] at h1
      exact h ⟨h1.1, Nat.le_trans hg h2⟩
theorem Lx.hval_hex (c : UInt8) (h : Lx.hex c = true) : Lx.hval c < 16 := by
  have := Lx.hval_lt c.toNat c.toNat_lt; rw [Lx.of_byte] at this; exact this h
theorem Lx.valF_lt (l : List UInt8) (h : l.all Lx.hex = true) : ∀ n, l.foldl (fun n c => n * 16 + Lx.hval c) n < (n + 1) * 16 ^ l.length := by
  induction l with
  | nil => intro n; simp
  | cons c r ih =>
    intro n
    rw [List.all_cons, Bool.and_eq_true] at h
    have h1 := ih h.2 (n * 16 + Lx.hval c)
    have h2 := Lx.hval_hex c h.1
    rw [List.foldl_cons, List.length_cons, Nat.pow_succ, Nat.mul_comm (16 ^ r.length) 16, ← Nat.mul_assoc]
    exact Nat.lt_of_lt_of_le h1 (Nat.mul_le_mul_right _ (by omega))
theorem Lx.num_hex (l : List UInt8) (h : l.take 2 = [48, 120]) : (0 ≤ Lx.num l ↔ ((Lx.rk 16 0 (l.drop 2)).isSome = true ∧ 0 < (l.drop 2).length) ∧ (l.drop 2).length ≤ 8) ∧ (0 ≤ Lx.num l → Lx.num l = (((Lx.rk 16 0 (l.drop 2)).getD 0 : Nat) : Int)) := by
  rw [Lx.num, if_pos h, Lx.rk_is 16 (by omega) _ 0 (by omega)]
  obtain ⟨m, hm⟩ : ∃ m, l.drop 2 = m := ⟨_, rfl⟩
  rw [hm]
  have ha : m.all (Lx.okd 16) = m.all Lx.hex := rfl
  rw [ha]
  by_cases h1 : m.length ≤ 8 ∧ m ≠ [] ∧ m.all Lx.hex = true
  · have h2 := Lx.valF_lt m h1.2.2 0
    have h3 : 16 ^ m.length ≤ 16 ^ 8 := Nat.pow_le_pow_right (by omega) h1.1
    have h4 : 0 < m.length := List.length_pos_iff.2 h1.2.1
    rw [if_pos h1, if_pos ⟨h1.2.2, by omega⟩]
    unfold Lx.val
    exact ⟨⟨fun _ => ⟨⟨rfl, h4⟩, h1.1⟩, fun _ => by omega⟩, fun _ => rfl⟩
  · rw [if_neg h1]
    refine ⟨⟨fun h => by omega, fun h => ?_⟩, fun h => by omega⟩
    exfalso
    obtain ⟨⟨h2, h3⟩, h4⟩ := h
    refine h1 ⟨h4, fun e => by rw [e] at h3; simp at h3, ?_⟩
    by_cases h5 : m.all Lx.hex = true ∧ List.foldl (fun n c => n * 16 + Lx.hval c) 0 m ≤ 4294967295
    · exact h5.1
    · rw [if_neg h5] at h2; cases h2
theorem Lx.num_ten (l : List UInt8) (h : ¬ l.take 2 = [48, 120]) : (0 ≤ Lx.num l ↔ ((Lx.rk 10 0 l).isSome = true ∧ 0 < l.length) ∧ (l.head? ≠ some 48 ∨ l = [48])) ∧ (0 ≤ Lx.num l → Lx.num l = (((Lx.rk 10 0 l).getD 0 : Nat) : Int)) := by
  rw [Lx.num, if_neg h, Lx.rk_is 10 (by omega) _ 0 (by omega)]
  have ha : l.all (Lx.okd 10) = l.all Lx.digit := rfl
  rw [ha]
  by_cases h1 : l ≠ [] ∧ l.length ≤ 10 ∧ (1 < l.length → l.head? ≠ some 48) ∧ l.all Lx.digit = true ∧ Lx.val 10 l < 4294967296
  · have h4 : 0 < l.length := List.length_pos_iff.2 h1.1
    have h5 : List.foldl (fun n c => n * 10 + Lx.hval c) 0 l ≤ 4294967295 := by have := h1.2.2.2.2; unfold Lx.val at this; omega
    rw [if_pos h1, if_pos ⟨h1.2.2.2.1, h5⟩]
    unfold Lx.val
    refine ⟨⟨fun _ => ⟨⟨rfl, h4⟩, ?_⟩, fun _ => by omega⟩, fun _ => rfl⟩
    rcases l with _ | ⟨a, _ | ⟨b, r⟩⟩
    · simp at h4
    · by_cases ha : a = 48
      · exact Or.inr (by rw [ha])
      · exact Or.inl (by simpa using ha)
    · exact Or.inl (h1.2.2.1 (by simp))
  · rw [if_neg h1]
    refine ⟨⟨fun h => by omega, fun h => ?_⟩, fun h => by omega⟩
    exfalso
    obtain ⟨⟨h2, h3⟩, h4⟩ := h
    have h5 : l.all Lx.digit = true ∧ List.foldl (fun n c => n * 10 + Lx.hval c) 0 l ≤ 4294967295 := by
      by_cases h5 : l.all Lx.digit = true ∧ List.foldl (fun n c => n * 10 + Lx.hval c) 0 l ≤ 4294967295
      · exact h5
      · rw [if_neg h5] at h2; cases h2
    refine h1 ⟨fun e => by rw [e] at h3; simp at h3, ?_, ?_, h5.1, by unfold Lx.val; omega⟩
    · rcases h4 with h4 | h4
      · cases l with
        | nil => simp
        | cons a r =>
          have hd : Lx.digit a = true := by have := h5.1; rw [List.all_cons, Bool.and_eq_true] at this; exact this.1
          have hv : 1 ≤ Lx.hval a := by
            have h6 : a ≠ 48 := by simpa using h4
            have h7 : a.toNat ≠ 48 := fun e => h6 (UInt8.toNat_inj.1 e)
            unfold Lx.hval
            rw [if_pos hd]
            unfold Lx.digit at hd
            simp at hd
            omega
          have h8 := Lx.valF_le 10 (by omega) r (0 * 10 + Lx.hval a)
          have h9 := h5.2
          rw [List.foldl_cons] at h9
          rw [List.length_cons]
          apply Nat.le_of_not_lt
          intro hlt
          have h10 : 10 ^ 10 ≤ 10 ^ r.length := Nat.pow_le_pow_right (by omega) (by omega)
          have h11 : 1 * 10 ^ r.length ≤ (0 * 10 + Lx.hval a) * 10 ^ r.length := Nat.mul_le_mul_right _ (by omega)
          omega
      · rw [h4]; simp
    · intro hl
      rcases h4 with h4 | h4
      · exact h4
      · rw [h4] at hl; simp at hl
theorem Lx.pre_hex (l : List UInt8) : ([48, 120] : List UInt8).isPrefixOf l = true ↔ l.take 2 = [48, 120] := by
  rcases l with _ | ⟨a, _ | ⟨b, r⟩⟩ <;> simp [List.isPrefixOf]
  exact ⟨fun h => ⟨h.1.symm, h.2.symm⟩, fun h => ⟨h.1.symm, h.2.symm⟩⟩
set_option maxHeartbeats 4000000 in
theorem scutp_any (s : ByteArray) (p : Bool) (hp : ([48, 120] : List UInt8).isPrefixOf s.data.toList = p) (w : World) :
    Calls Tryd.prog 55 #[.string s, .string ⟨#[48, 120]⟩] w fun e w' => e = .returned (.tuple #[.string (if p then Lx.S (s.data.toList.drop 2) else s), .bool p]) ∧ w' = w := by
  have C := Lib.hid fun w => spre_any s ⟨#[48, 120]⟩ w
  simp only [List.toList_toArray] at C
  rw [hp] at C
  cases p
  · clear hp
    go_enter Tryd.func55, Tryd.ntmps55
    go_wp2_with (go_at_call 40; refine (C.out _).mono ?_; rintro e w1 ⟨rfl, rfl⟩)
    go_ret2
    exact ⟨rfl, rfl⟩
  · have h2 : 2 ≤ s.size := by
      have h := Lib.size_eq s
      rcases hl : s.data.toList with _ | ⟨a, _ | ⟨b, r⟩⟩ <;> rw [hl] at hp h <;> simp [List.isPrefixOf] at hp h
      omega
    clear hp
    go_enter Tryd.func55, Tryd.ntmps55
    go_wp2_with (go_at_call 40; refine (C.out _).mono ?_; rintro e w1 ⟨rfl, rfl⟩)
    go_ret2
    exact ⟨by rw [← ext_rest]; rfl, rfl⟩
theorem cutp_any (s : ByteArray) (p : Bool) (hp : ([48, 120] : List UInt8).isPrefixOf s.data.toList = p) (w : World) :
    Calls Tryd.prog 42 #[.string s, .string ⟨#[48, 120]⟩] w fun e w' => e = .returned (.tuple #[.string (if p then Lx.S (s.data.toList.drop 2) else s), .bool p]) ∧ w' = w := by
  have C := Lib.hid fun w => scutp_any s p hp w
  generalize (if p then Lx.S (s.data.toList.drop 2) else s) = t at C ⊢
  clear hp
  go_enter Tryd.func42, Tryd.ntmps42
  go_wp2_with (go_at_call 55; refine (C.out _).mono ?_; rintro e w1 ⟨rfl, rfl⟩)
  go_ret2
  exact ⟨rfl, rfl⟩
set_option maxHeartbeats 4000000 in
theorem number_any (s : ByteArray) (hs : s.size ≤ 281474976710656) (w : World) :
    Calls Tryd.prog 26 #[.string s] w fun e w' => (∃ n : Int, e = .returned (.tuple #[.int .i64 n, .bool (decide (0 ≤ Lx.num s.data.toList))]) ∧ (0 ≤ Lx.num s.data.toList → n = Lx.num s.data.toList)) ∧ Below w.heap.size w w' := by
  cases hp : ([48, 120] : List UInt8).isPrefixOf s.data.toList
  · have HN := Lib.hid (Lx.num_ten s.data.toList (fun h => by rw [(Lx.pre_hex _).2 h] at hp; cases hp))
    have C1 := Lib.hid fun w => cutp_any s false hp w
    simp only [Bool.false_eq_true, if_false] at C1
    have C2 := Lib.hid fun w => reckon_any s hs 10 (Or.inl rfl) w
    rw [show ((10 : Nat) : Int) = 10 from rfl] at C2
    have HZ := Lib.hid (Lib.size_eq s)
    generalize Lx.num s.data.toList = N at HN ⊢
    generalize Lx.rk 10 0 s.data.toList = R at HN C2
    clear hp
    rcases R with _ | m
    · simp only [Option.isSome_none, Bool.false_and, Option.getD_none] at C2
      have hn : Hid (¬ 0 ≤ N) := Lib.hid (fun h => by have := (HN.out.1.1 h).1.1; cases this)
      go_enter Tryd.func26, Tryd.ntmps26
      go_wp2_with (first
        | (go_at_call 42; refine (C1.out _).mono ?_; rintro e w1 ⟨rfl, rfl⟩)
        | (go_at_call 43; refine (C2.out _).mono ?_; rintro e w2 ⟨rfl, hb2⟩))
      go_ret2
      exact ⟨⟨0, by rw [decide_eq_false (p := 0 ≤ N) (by have := hn.out; omega)]; rfl, fun h => absurd h (by have := hn.out; omega)⟩, hb2⟩
    · simp only [Option.isSome_some, Bool.true_and, Option.getD_some] at C2 HN
      by_cases h0 : 0 < s.size
      · have h0' : (0 : Int) < (s.size : Int) := by omega
        simp only [h0, decide_true] at C2
        cases hq : (((s[0]'h0).toNat : Int) == 48)
        · have hq' : (((s[0]'h0).toNat : Int) != 48) = true := by simp [bne, hq]
          have hn : Hid (0 ≤ N) := Lib.hid (HN.out.1.2 ⟨⟨trivial, by rw [← HZ.out]; exact h0⟩, Or.inl (by
            have h1 := Lx.get s 0 h0
            rw [List.drop_zero] at h1
            rw [h1]
            intro e
            have e2 : s[0] = 48 := by simpa using e
            rw [e2] at hq
            exact absurd hq (by decide))⟩)
          go_enter Tryd.func26, Tryd.ntmps26
          go_wp2_with (first
            | (go_at_call 42; refine (C1.out _).mono ?_; rintro e w1 ⟨rfl, rfl⟩)
            | (go_at_call 43; refine (C2.out _).mono ?_; rintro e w2 ⟨rfl, hb2⟩))
          go_ret2
          exact ⟨⟨(m : Int), by rw [decide_eq_true (p := 0 ≤ N) hn.out]; rfl, fun h => (HN.out.2 h).symm⟩, hb2⟩
        · have hq' : (((s[0]'h0).toNat : Int) != 48) = false := by simp [bne, hq]
          have HH : Hid (s.data.toList.head? = some 48) := Lib.hid (by
            have h1 := Lx.get s 0 h0
            rw [List.drop_zero] at h1
            rw [h1]
            have e2 : s[0] = 48 := UInt8.toNat_inj.1 (by have := eq_of_beq hq; exact_mod_cast this)
            rw [e2]; rfl)
          cases hl : (s.toList == [48])
          · have hn : Hid (¬ 0 ≤ N) := Lib.hid (fun h => by
              rcases (HN.out.1.1 h).2 with h3 | h3
              · exact h3 HH.out
              · rw [Lib.toList_data, h3] at hl; exact absurd hl (by decide))
            go_enter Tryd.func26, Tryd.ntmps26
            go_wp2_with (first
              | (go_at_call 42; refine (C1.out _).mono ?_; rintro e w1 ⟨rfl, rfl⟩)
              | (go_at_call 43; refine (C2.out _).mono ?_; rintro e w2 ⟨rfl, hb2⟩))
            go_ret2
            exact ⟨⟨(m : Int), by rw [decide_eq_false (p := 0 ≤ N) (by have := hn.out; omega)]; rfl, fun h => absurd h (by have := hn.out; omega)⟩, hb2⟩
          · have hn : Hid (0 ≤ N) := Lib.hid (HN.out.1.2 ⟨⟨trivial, by rw [← HZ.out]; exact h0⟩, Or.inr (by rw [← Lib.toList_data]; exact eq_of_beq hl)⟩)
            go_enter Tryd.func26, Tryd.ntmps26
            go_wp2_with (first
              | (go_at_call 42; refine (C1.out _).mono ?_; rintro e w1 ⟨rfl, rfl⟩)
              | (go_at_call 43; refine (C2.out _).mono ?_; rintro e w2 ⟨rfl, hb2⟩))
            go_ret2
            exact ⟨⟨(m : Int), by rw [decide_eq_true (p := 0 ≤ N) hn.out]; rfl, fun h => (HN.out.2 h).symm⟩, hb2⟩
      · simp only [h0, decide_false] at C2
        have hn : Hid (¬ 0 ≤ N) := Lib.hid (fun h => by have := (HN.out.1.1 h).1.2; rw [← HZ.out] at this; exact h0 this)
        go_enter Tryd.func26, Tryd.ntmps26
        go_wp2_with (first
          | (go_at_call 42; refine (C1.out _).mono ?_; rintro e w1 ⟨rfl, rfl⟩)
          | (go_at_call 43; refine (C2.out _).mono ?_; rintro e w2 ⟨rfl, hb2⟩))
        go_ret2
        exact ⟨⟨(m : Int), by rw [decide_eq_false (p := 0 ≤ N) (by have := hn.out; omega)]; rfl, fun h => absurd h (by have := hn.out; omega)⟩, hb2⟩
  · have HN := Lib.hid (Lx.num_hex s.data.toList ((Lx.pre_hex _).1 hp))
    have C1 := Lib.hid fun w => cutp_any s true hp w
    simp only [if_true] at C1
    obtain ⟨d, hd⟩ : ∃ d, s.data.toList.drop 2 = d := ⟨_, rfl⟩
    have hdl : d.length ≤ s.size := by rw [← hd, List.length_drop, Lib.size_eq]; omega
    rw [hd] at C1 HN
    have C2 := Lib.hid fun w => reckon_any (Lx.S d) (by rw [Lx.S_size]; omega) 16 (Or.inr rfl) w
    rw [show ((16 : Nat) : Int) = 16 from rfl, Lx.S_list, Lx.S_size] at C2
    have hsz := Lx.S_size d
    have HZ := Lib.hid hsz
    generalize Lx.num s.data.toList = N at HN ⊢
    generalize Lx.rk 16 0 d = R at HN C2
    clear hp hd hdl hsz
    rcases R with _ | m
    · simp only [Option.isSome_none, Bool.false_and, Option.getD_none] at C2
      have hn : Hid (¬ 0 ≤ N) := Lib.hid (fun h => by have := (HN.out.1.1 h).1.1; cases this)
      go_enter Tryd.func26, Tryd.ntmps26
      go_wp2_with (first
        | (go_at_call 42; refine (C1.out _).mono ?_; rintro e w1 ⟨rfl, rfl⟩)
        | (go_at_call 43; refine (C2.out _).mono ?_; rintro e w2 ⟨rfl, hb2⟩))
      go_ret2
      exact ⟨⟨0, by rw [decide_eq_false (p := 0 ≤ N) (by have := hn.out; omega)]; rfl, fun h => absurd h (by have := hn.out; omega)⟩, hb2⟩
    · simp only [Option.isSome_some, Bool.true_and, Option.getD_some] at C2 HN
      obtain ⟨D, hD⟩ : ∃ D, Lx.S d = D := ⟨_, rfl⟩
      rw [hD] at C1 C2 HZ
      have HDD := Lib.hid hD
      clear hD
      by_cases h0 : 0 < d.length
      · simp only [h0, decide_true] at C2
        by_cases h8 : D.size ≤ 8
        · have h8' : (D.size : Int) ≤ 8 := by omega
          have hn : Hid (0 ≤ N) := Lib.hid (HN.out.1.2 ⟨⟨trivial, h0⟩, by rw [← HZ.out]; exact h8⟩)
          go_enter Tryd.func26, Tryd.ntmps26
          go_wp2_with (first
            | (go_at_call 42; refine (C1.out _).mono ?_; rintro e w1 ⟨rfl, rfl⟩)
            | (go_at_call 43; refine (C2.out _).mono ?_; rintro e w2 ⟨rfl, hb2⟩))
          go_ret2
          exact ⟨⟨(m : Int), by rw [decide_eq_true (p := 0 ≤ N) hn.out]; rfl, fun h => (HN.out.2 h).symm⟩, hb2⟩
        · have h8' : ¬ (D.size : Int) ≤ 8 := by omega
          have hn : Hid (¬ 0 ≤ N) := Lib.hid (fun h => by have := (HN.out.1.1 h).2; rw [← HZ.out] at this; exact h8 this)
          go_enter Tryd.func26, Tryd.ntmps26
          go_wp2_with (first
            | (go_at_call 42; refine (C1.out _).mono ?_; rintro e w1 ⟨rfl, rfl⟩)
            | (go_at_call 43; refine (C2.out _).mono ?_; rintro e w2 ⟨rfl, hb2⟩))
          go_ret2
          exact ⟨⟨(m : Int), by rw [decide_eq_false (p := (D.size : Int) ≤ 8) (by omega), decide_eq_false (p := 0 ≤ N) (by have := hn.out; omega)]; rfl, fun h => absurd h (by have := hn.out; omega)⟩, hb2⟩
      · simp only [h0, decide_false] at C2
        have hn : Hid (¬ 0 ≤ N) := Lib.hid (fun h => h0 (HN.out.1.1 h).1.2)
        go_enter Tryd.func26, Tryd.ntmps26
        go_wp2_with (first
          | (go_at_call 42; refine (C1.out _).mono ?_; rintro e w1 ⟨rfl, rfl⟩)
          | (go_at_call 43; refine (C2.out _).mono ?_; rintro e w2 ⟨rfl, hb2⟩))
        go_ret2
        exact ⟨⟨(m : Int), by rw [decide_eq_false (p := 0 ≤ N) (by have := hn.out; omega)]; rfl, fun h => absurd h (by have := hn.out; omega)⟩, hb2⟩
end Go.Proofs.YtbnhegipdfkdgaaDoor
end
section
set_option linter.unusedVariables false
set_option linter.unusedSimpArgs false
namespace Go.Proofs.YtbnhegipdfkdgaaDoor

/-- the same tokens up to a place -/
def Sx.Lo (L L' : List Lx.Tok) (k : Nat) : Prop := ∀ i, i ≤ k → L'[i]? = L[i]?
theorem Sx.Le.k {L : List Lx.Tok} {σ τ : Sx.R} {k : Nat} (h : Sx.Le L σ τ) (hk : τ.at' ≤ k) : σ.at' ≤ k := Nat.le_trans h.1 hk
theorem Sx.lo_tk {L L' : List Lx.Tok} {k : Nat} {σ : Sx.R} (h : Sx.Lo L L' k) (hk : σ.at' ≤ k) : Sx.tk L' σ = Sx.tk L σ := by
  unfold Sx.tk; rw [List.getD_eq_getElem?_getD, List.getD_eq_getElem?_getD, h _ hk]
theorem Sx.lo_text {L L' : List Lx.Tok} {k : Nat} {σ : Sx.R} (h : Sx.Lo L L' k) (hk : σ.at' ≤ k) : Sx.text L' σ = Sx.text L σ := by
  unfold Sx.text; rw [Sx.lo_tk h hk]
theorem Sx.lo_wrong {L L' : List Lx.Tok} {k : Nat} {e : Int} {σ : Sx.R} (h : Sx.Lo L L' k) (hk : σ.at' ≤ k) : Sx.wrong L' e σ = Sx.wrong L e σ := by
  unfold Sx.wrong; rw [Sx.lo_tk h hk]
theorem Sx.lo_eat {L L' : List Lx.Tok} {k : Nat} {s : List UInt8} {σ : Sx.R} (h : Sx.Lo L L' k) (hk : σ.at' ≤ k) : Sx.eat L' s σ = Sx.eat L s σ := by
  unfold Sx.eat; rw [Sx.lo_text h hk, Sx.lo_wrong h hk]
theorem Sx.lo_sees {L L' : List Lx.Tok} {k : Nat} {s : List UInt8} {σ : Sx.R} (h : Sx.Lo L L' k) (hk : σ.at' ≤ k) : Sx.sees L' s σ = Sx.sees L s σ := by
  unfold Sx.sees; rw [Sx.lo_text h hk]
theorem Sx.lo_may {L L' : List Lx.Tok} {k : Nat} {s : List UInt8} {σ : Sx.R} (h : Sx.Lo L L' k) (hk : σ.at' ≤ k) : Sx.may L' s σ = Sx.may L s σ := by
  unfold Sx.may; rw [Sx.lo_sees h hk]
theorem Sx.wrong_at (L : List Lx.Tok) (e : Int) (σ : Sx.R) : (Sx.wrong L e σ).at' = σ.at' := by
  unfold Sx.wrong; split <;> rfl
theorem Sx.lo_nest {L L' : List Lx.Tok} {k : Nat} {s : List UInt8} {σ : Sx.R} (h : Sx.Lo L L' k) (hk : σ.at' ≤ k) : Sx.nest L' s σ = Sx.nest L s σ := by
  unfold Sx.nest
  rw [Sx.lo_sees h hk, Sx.lo_wrong h hk]
  have : (if (Sx.sees L s σ && decide (64 ≤ σ.opn)) = true then Sx.wrong L 11 σ else σ).at' ≤ k := by
    split
    · rw [Sx.wrong_at]; exact hk
    · exact hk
  simp only []
  rw [Sx.lo_eat h this]
theorem Sx.lo_unnest {L L' : List Lx.Tok} {k : Nat} {s : List UInt8} {σ : Sx.R} (h : Sx.Lo L L' k) (hk : σ.at' ≤ k) : Sx.unnest L' s σ = Sx.unnest L s σ := by
  unfold Sx.unnest; rw [Sx.lo_eat h hk]
theorem Sx.lo_some {L L' : List Lx.Tok} {k : Nat} {n : Int} {σ : Sx.R} (h : Sx.Lo L L' k) (hk : σ.at' ≤ k) : Sx.some L' n σ = Sx.some L n σ := by
  unfold Sx.some; rw [Sx.lo_tk h hk, Sx.lo_wrong h hk]
theorem Sx.lo_label {L L' : List Lx.Tok} (hL : Sx.Ends L) {k : Nat} {σ : Sx.R} (h : Sx.Lo L L' k) (hk : (Sx.label L σ).2.at' ≤ k) : Sx.label L' σ = Sx.label L σ := by
  have h1 := (Sx.le_label hL σ).k hk
  unfold Sx.label at hk ⊢
  rw [Sx.lo_may h h1]
  split
  · rfl
  · rename_i h2
    rw [if_neg h2] at hk
    rw [Sx.lo_eat h ((Sx.le_eat hL Sx.wPub (by decide) _).k hk)]
def Sx.zero (L : List Lx.Tok) (σ : Sx.R) : Sx.R := if (Sx.tk L σ).num = 0 then Sx.wrong L 10 σ else σ
theorem Sx.zero_at (L : List Lx.Tok) (σ : Sx.R) : (Sx.zero L σ).at' = σ.at' := by
  unfold Sx.zero; split
  · exact Sx.wrong_at _ _ _
  · rfl
theorem Sx.brackets_eq (L : List Lx.Tok) (σ : Sx.R) : Sx.brackets L σ = ((Sx.some L 2 (Sx.zero L (Sx.eat L [91] σ))).1.num, Sx.eat L [93] (Sx.some L 2 (Sx.zero L (Sx.eat L [91] σ))).2) := rfl
theorem Sx.lo_zero {L L' : List Lx.Tok} {k : Nat} {σ : Sx.R} (h : Sx.Lo L L' k) (hk : σ.at' ≤ k) : Sx.zero L' σ = Sx.zero L σ := by
  unfold Sx.zero; rw [Sx.lo_tk h hk, Sx.lo_wrong h hk]
theorem Sx.lo_brackets {L L' : List Lx.Tok} (hL : Sx.Ends L) {k : Nat} {σ : Sx.R} (h : Sx.Lo L L' k) (hk : (Sx.brackets L σ).2.at' ≤ k) : Sx.brackets L' σ = Sx.brackets L σ := by
  have h1 := (Sx.le_brackets hL σ).k hk
  rw [Sx.brackets_eq] at hk
  rw [Sx.brackets_eq, Sx.brackets_eq, Sx.lo_eat h h1]
  have h3 := (Sx.le_eat hL [93] (by decide) (Sx.some L 2 (Sx.zero L (Sx.eat L [91] σ))).2).k hk
  have h4 := (Sx.le_some hL 2 (by decide) (Sx.zero L (Sx.eat L [91] σ))).k h3
  have h5 := h4
  rw [Sx.zero_at] at h5
  rw [Sx.lo_zero h h5, Sx.lo_some h h4, Sx.lo_eat h h3]
theorem Sx.lo_type {L L' : List Lx.Tok} (hL : Sx.Ends L) {k : Nat} {b : Bool} {l : Int} {σ : Sx.R} (h : Sx.Lo L L' k) (hk : (Sx.type L b l σ).2.at' ≤ k) : Sx.type L' b l σ = Sx.type L b l σ := by
  have h1 := (Sx.le_type hL b l σ).k hk
  unfold Sx.type at hk ⊢
  rw [Sx.lo_may h h1]
  split
  · rfl
  · rename_i h2
    rw [if_neg h2] at hk
    simp only [] at hk ⊢
    have h3 : (Sx.may L Sx.wMask σ).2.at' ≤ k := by
      split at hk
      · exact ((Sx.le_may hL Sx.wU8 (by decide) _).trans (Sx.le_brackets hL _)).k hk
      · have h3 := Sx.le_eat hL Sx.wU32 (by decide) (Sx.may L Sx.wMask σ).2
        split at hk
        · exact (h3.trans (Sx.le_brackets hL _)).k hk
        · exact h3.k hk
    rw [Sx.lo_may h h3, Sx.lo_eat h h3]
    split
    · rename_i h4
      rw [if_pos h4] at hk
      rw [Sx.lo_brackets hL h hk]
    · rename_i h4
      rw [if_neg h4] at hk
      have h5 : (Sx.eat L Sx.wU32 (Sx.may L Sx.wMask σ).2).at' ≤ k := by
        split at hk
        · exact (Sx.le_brackets hL _).k hk
        · exact hk
      rw [Sx.lo_sees h h5]
      split
      · rename_i h6
        rw [if_pos h6] at hk
        rw [Sx.lo_brackets hL h hk]
      · rfl
theorem Sx.lo_param {L L' : List Lx.Tok} (hL : Sx.Ends L) {k : Nat} {σ : Sx.R} (h : Sx.Lo L L' k) (hk : (Sx.param L σ).2.at' ≤ k) : Sx.param L' σ = Sx.param L σ := by
  have h1 := (Sx.le_param hL σ).k hk
  unfold Sx.param at hk ⊢
  simp only [] at hk ⊢
  have h2 := (Sx.le_type hL _ _ _).k hk
  have h3 := (Sx.le_eat hL [58] (by decide) _).k h2
  have h4 := (Sx.le_some hL 1 (by decide) _).k h3
  rw [Sx.lo_may h h1, Sx.lo_label hL h h4, Sx.lo_some h h4, Sx.lo_eat h h3, Sx.lo_type hL h hk]
theorem Sx.lo_exprs {L L' : List Lx.Tok} (hL : Sx.Ends L) {k : Nat} (h : Sx.Lo L L' k) (f : Nat) :
    (∀ than σ, (Sx.expr L f than σ).2.at' ≤ k → Sx.expr L' f than σ = Sx.expr L f than σ) ∧
    (∀ than most c x σ, (Sx.signs L f than most c x σ).2.at' ≤ k → Sx.signs L' f than most c x σ = Sx.signs L f than most c x σ) ∧
    (∀ σ, (Sx.unary L f σ).2.at' ≤ k → Sx.unary L' f σ = Sx.unary L f σ) ∧
    (∀ s σ, σ.err = 0 → s = Sx.text L σ → (Sx.word L f s σ).2.at' ≤ k → Sx.word L' f s σ = Sx.word L f s σ) ∧
    (∀ n b σ, (Sx.many L f n b σ).2.at' ≤ k → Sx.many L' f n b σ = Sx.many L f n b σ) ∧
    (∀ t σ, (Sx.behind L f t σ).2.at' ≤ k → Sx.behind L' f t σ = Sx.behind L f t σ) ∧
    (∀ σ, (Sx.commas L f σ).2.at' ≤ k → Sx.commas L' f σ = Sx.commas L f σ) := by
  have lE := fun f => (Sx.le_exprs hL f).1
  have lS := fun f => (Sx.le_exprs hL f).2.1
  have lU := fun f => (Sx.le_exprs hL f).2.2.1
  have lW := fun f => (Sx.le_exprs hL f).2.2.2.1
  have lM := fun f => (Sx.le_exprs hL f).2.2.2.2.1
  have lB := fun f => (Sx.le_exprs hL f).2.2.2.2.2.1
  have lC := fun f => (Sx.le_exprs hL f).2.2.2.2.2.2
  induction f with
  | zero =>
    refine ⟨fun _ _ _ => ?_, fun _ _ _ _ _ _ => ?_, fun _ _ => ?_, fun _ _ _ _ _ => ?_, fun _ _ _ _ => ?_, fun _ _ _ => ?_, fun _ _ => ?_⟩
    · rw [Sx.expr, Sx.expr]
    · rw [Sx.signs, Sx.signs]
    · rw [Sx.unary, Sx.unary]
    · rw [Sx.word, Sx.word]
    · rw [Sx.many, Sx.many]
    · rw [Sx.behind, Sx.behind]
    · rw [Sx.commas, Sx.commas]
  | succ f ih =>
    obtain ⟨iE, iS, iU, iW, iM, iB, iC⟩ := ih
    refine ⟨fun than σ hk => ?_, fun than most c x σ hk => ?_, fun σ hk => ?_, fun s σ he hs hk => ?_, fun n b σ hk => ?_, fun t σ hk => ?_, fun σ hk => ?_⟩
    · rw [Sx.expr] at hk
      rw [Sx.expr, Sx.expr]
      try simp only [] at hk ⊢
      have h1 := (lS f _ _ _ _ _).k hk
      rw [iU σ h1, iS _ _ _ _ _ hk]
    · have hσ := (lS (f + 1) than most c x σ).k hk
      rw [Sx.signs] at hk
      rw [Sx.signs, Sx.signs, Sx.lo_text h hσ, Sx.lo_tk h hσ]
      split
      · rfl
      · rename_i he
        rw [if_neg he] at hk
        simp only [] at hk ⊢
        split
        · rfl
        · rename_i h2
          rw [if_neg h2] at hk
          split
          · rename_i h3
            rw [if_pos h3] at hk
            have h4 := (lS f _ _ _ _ _).k hk
            have h5 := (Sx.le_some hL 2 (by decide) { σ with at' := σ.at' + 1 }).k h4
            rw [Sx.lo_some h h5, iS _ _ _ _ _ hk]
          · rename_i h3
            rw [if_neg h3] at hk
            have h4 := (lS f _ _ _ _ _).k hk
            rw [iE _ _ h4, iS _ _ _ _ _ hk]
    · have hσ := (lU (f + 1) σ).k hk
      rw [Sx.unary] at hk
      rw [Sx.unary, Sx.unary, Sx.lo_text h hσ, Sx.lo_tk h hσ, Sx.lo_nest h hσ]
      split
      · rfl
      · rename_i he
        rw [if_neg he] at hk
        simp only [] at hk ⊢
        rw [Sx.lo_nest h hσ]
        split
        · rename_i h2
          rw [if_pos h2] at hk
          have h3 := (Sx.le_unnest hL [41] (by decide) _).k hk
          rw [iE _ _ h3, Sx.lo_unnest h h3]
        · rename_i h2
          rw [if_neg h2] at hk
          split
          · rename_i h3
            rw [if_pos h3] at hk
            rw [iU _ hk]
          · rename_i h3
            rw [if_neg h3] at hk
            exact iW _ _ (by omega) rfl hk
    · have hσ := (lW (f + 1) s σ he hs).k hk
      rw [Sx.word] at hk
      rw [Sx.word, Sx.word, Sx.lo_tk h hσ, Sx.lo_some h hσ]
      simp only [] at hk ⊢
      split
      · rename_i w hw
        rw [hw] at hk
        simp only [] at hk
        split
        · rename_i h1
          rw [if_pos h1] at hk
          have h2 := (Sx.le_unnest hL [41] (by decide) _).k hk
          have h3 := (Sx.le_some hL 2 (by decide) _).k h2
          have h4 := (Sx.le_eat hL [44] (by decide) _).k h3
          have h5 := (lM f _ _ _).k h4
          have h6 := (Sx.le_nest hL [40] (by decide) _).k h5
          rw [Sx.lo_nest h h6, iM _ _ _ h4, Sx.lo_eat h h4, Sx.lo_some h h3, Sx.lo_unnest h h2]
        · rename_i h1
          rw [if_neg h1] at hk
          have h4 := (Sx.le_unnest hL [41] (by decide) _).k hk
          have h5 := (lM f _ _ _).k h4
          have h6 := (Sx.le_nest hL [40] (by decide) _).k h5
          rw [Sx.lo_nest h h6, iM _ _ _ h4, Sx.lo_unnest h h4]
      · rename_i hw
        rw [hw] at hk
        simp only [] at hk
        split
        · rfl
        · rename_i h1
          rw [if_neg h1] at hk
          exact iB _ _ hk
    · cases n with
      | zero => rw [Sx.many, Sx.many]
      | succ n =>
        have hσ := (lM (f + 1) (n + 1) b σ).k hk
        rw [Sx.many] at hk
        rw [Sx.many, Sx.many, Sx.lo_eat h hσ]
        try simp only [] at hk ⊢
        have h1 := (lM f _ _ _).k hk
        rw [iE _ _ h1, iM _ _ _ hk]
    · have hσ := (lB (f + 1) t σ).k hk
      rw [Sx.behind] at hk
      rw [Sx.behind, Sx.behind, Sx.lo_sees h hσ, Sx.lo_sees h hσ, Sx.lo_nest h hσ, Sx.lo_nest h hσ]
      split
      · rename_i h1
        rw [if_pos h1] at hk
        simp only [] at hk ⊢
        have h2 : (Sx.nest L [40] σ).at' ≤ k := by
          split at hk
          · exact (Sx.le_unnest hL [41] (by decide) _).k hk
          · exact ((lE f _ _).trans ((lC f _).trans (Sx.le_unnest hL [41] (by decide) _))).k hk
        rw [Sx.lo_sees h h2]
        split
        · rw [Sx.lo_unnest h h2]
        · rename_i h3
          rw [if_neg h3] at hk
          have h4 := (Sx.le_unnest hL [41] (by decide) _).k hk
          have h5 := (lC f _).k h4
          rw [iE _ _ h5, iC _ h4, Sx.lo_unnest h h4]
      · rename_i h1
        rw [if_neg h1] at hk
        split
        · rename_i h2
          rw [if_pos h2] at hk
          simp only [] at hk ⊢
          have h3 := (Sx.le_unnest hL [93] (by decide) _).k hk
          rw [iE _ _ h3, Sx.lo_unnest h h3]
        · rfl
    · have hσ := (lC (f + 1) σ).k hk
      rw [Sx.commas] at hk
      rw [Sx.commas, Sx.commas, Sx.lo_may h hσ]
      split
      · rename_i h1
        rw [if_pos h1] at hk
        simp only [] at hk ⊢
        have h2 := (lC f _).k hk
        rw [iE _ _ h2, iC _ hk]
      · rfl
end Go.Proofs.YtbnhegipdfkdgaaDoor
end
section
set_option linter.unusedVariables false
set_option linter.unusedSimpArgs false
namespace Go.Proofs.YtbnhegipdfkdgaaDoor

def Sx.X (L : List Lx.Tok) (t : Nat) (σ : Sx.R) : Sx.E × Sx.R := Sx.expr L (Sx.fuel L) t σ
def Sx.Sg (L : List Lx.Tok) (t m : Nat) (c : Bool) (x : Sx.E) (σ : Sx.R) : Sx.E × Sx.R := Sx.signs L (Sx.fuel L) t m c x σ
def Sx.U (L : List Lx.Tok) (σ : Sx.R) : Sx.E × Sx.R := Sx.unary L (Sx.fuel L) σ
def Sx.W (L : List Lx.Tok) (s : List UInt8) (σ : Sx.R) : Sx.E × Sx.R := Sx.word L (Sx.fuel L) s σ
def Sx.Mn (L : List Lx.Tok) (n : Nat) (b : Bool) (σ : Sx.R) : List Sx.E × Sx.R := Sx.many L (Sx.fuel L) n b σ
def Sx.Bh (L : List Lx.Tok) (t : Lx.Tok) (σ : Sx.R) : Sx.E × Sx.R := Sx.behind L (Sx.fuel L) t σ
def Sx.Cm (L : List Lx.Tok) (σ : Sx.R) : List Sx.E × Sx.R := Sx.commas L (Sx.fuel L) σ
def Sx.Bl (L : List Lx.Tok) (σ : Sx.R) : List Sx.S × Sx.R := Sx.block L (Sx.fuel L) σ
def Sx.Ss (L : List Lx.Tok) (σ : Sx.R) : List Sx.S × Sx.R := Sx.stmts L (Sx.fuel L) σ
def Sx.St (L : List Lx.Tok) (σ : Sx.R) : Sx.S × Sx.R := Sx.stmt L (Sx.fuel L) σ
def Sx.Ps (L : List Lx.Tok) (σ : Sx.R) : List Sx.Pa × Sx.R := Sx.params L (Sx.fuel L) σ
def Sx.Fs (L : List Lx.Tok) (σ : Sx.R) : List Sx.F × Sx.R := Sx.functions L (Sx.fuel L) σ
theorem Sx.fuel_M (L : List Lx.Tok) (σ : Sx.R) : Sx.M L σ + 16 ≤ Sx.fuel L := by have := Sx.M_fuel L σ; unfold Sx.fuel; omega
section
variable {L : List Lx.Tok} (hL : Sx.Ends L)
include hL
theorem Sx.X_eq (t : Nat) {σ : Sx.R} (hi : σ.at' < L.length) : Sx.X L t σ = Sx.Sg L t 7 false (Sx.U L σ).1 (Sx.U L σ).2 := by
  have h := Sx.fuel_M L σ
  unfold Sx.X Sx.Sg Sx.U
  rw [(Sx.enough hL _).1 (Sx.fuel L + 1) t σ hi (by omega) (by omega), Sx.expr]
theorem Sx.Sg_err (t m : Nat) (c : Bool) (x : Sx.E) {σ : Sx.R} (hi : σ.at' < L.length) (h : σ.err ≠ 0) : Sx.Sg L t m c x σ = (x, σ) := by
  have h' := Sx.fuel_M L σ
  unfold Sx.Sg
  rw [(Sx.enough hL _).2.1 (Sx.fuel L + 1) t m c x σ hi (by omega) (by omega), Sx.signs, if_pos h]
theorem Sx.Sg_stop {t m : Nat} {c : Bool} (x : Sx.E) {σ : Sx.R} (hi : σ.at' < L.length) (h : (Sx.tight (Sx.text L σ)).1 ≤ t ∨ m < (Sx.tight (Sx.text L σ)).1 ∨ ((Sx.tight (Sx.text L σ)).1 = 1 ∧ c = true)) : Sx.Sg L t m c x σ = (x, σ) := by
  have h' := Sx.fuel_M L σ
  unfold Sx.Sg
  rw [(Sx.enough hL _).2.1 (Sx.fuel L + 1) t m c x σ hi (by omega) (by omega), Sx.signs]
  split
  · rfl
  · rw [if_pos h]
/-- one sign between two, and what is on its right -/
def Sx.step (L : List Lx.Tok) (x : Sx.E) (σ : Sx.R) : Sx.E × Sx.R :=
  let t := Sx.tight (Sx.text L σ)
  if t.1 = 5 then
    let n := Sx.some L 2 { σ with at' := σ.at' + 1 }
    (.mk t.2 (Sx.tk L σ).pos n.1.num [] [x], n.2)
  else
    let y := Sx.X L t.1 { σ with at' := σ.at' + 1 }
    (.mk t.2 (Sx.tk L σ).pos 0 [] [x, y.1], y.2)
omit hL in
theorem Sx.step5 {x : Sx.E} {σ : Sx.R} (h : (Sx.tight (Sx.text L σ)).1 = 5) : Sx.step L x σ = (.mk (Sx.tight (Sx.text L σ)).2 (Sx.tk L σ).pos (Sx.some L 2 { σ with at' := σ.at' + 1 }).1.num [] [x], (Sx.some L 2 { σ with at' := σ.at' + 1 }).2) := by unfold Sx.step; simp only []; rw [if_pos h]
omit hL in
theorem Sx.stepN {x : Sx.E} {σ : Sx.R} {l : Nat} (hl : (Sx.tight (Sx.text L σ)).1 = l) (h : l ≠ 5) : Sx.step L x σ = (.mk (Sx.tight (Sx.text L σ)).2 (Sx.tk L σ).pos 0 [] [x, (Sx.X L l { σ with at' := σ.at' + 1 }).1], (Sx.X L l { σ with at' := σ.at' + 1 }).2) := by subst hl; unfold Sx.step; simp only []; rw [if_neg h]
theorem Sx.le_X (t : Nat) (σ : Sx.R) : Sx.Le L σ (Sx.X L t σ).2 := (Sx.le_exprs hL _).1 t σ
theorem Sx.le_U (σ : Sx.R) : Sx.Le L σ (Sx.U L σ).2 := (Sx.le_exprs hL _).2.2.1 σ
theorem Sx.step_le {x : Sx.E} {σ : Sx.R} (he : σ.err = 0) (h : (Sx.tight (Sx.text L σ)).1 ≠ 0) : Sx.Le L { σ with at' := σ.at' + 1 } (Sx.step L x σ).2 := by
  unfold Sx.step
  simp only []
  split
  · exact Sx.le_some hL 2 (by decide) _
  · exact Sx.le_X hL _ _
theorem Sx.step_in {x : Sx.E} {σ : Sx.R} (hi : σ.at' < L.length) (he : σ.err = 0) (h : (Sx.tight (Sx.text L σ)).1 ≠ 0) : (Sx.step L x σ).2.at' < L.length ∧ Sx.M L (Sx.step L x σ).2 + 16 ≤ Sx.M L σ := by
  have h1 := Sx.step_le hL (x := x) he h
  have h2 := Sx.le_next hL he (Sx.tight_kind (n := 0) (by omega))
  exact ⟨h1.2.2.1 (h2.2.2.1 hi), Nat.le_trans (Nat.add_le_add_right (Sx.M_le h1) 16) (Sx.M_next he hi)⟩
theorem Sx.Sg_go {t m : Nat} {c : Bool} (x : Sx.E) {σ : Sx.R} (hi : σ.at' < L.length) (he : σ.err = 0) (h : ¬ ((Sx.tight (Sx.text L σ)).1 ≤ t ∨ m < (Sx.tight (Sx.text L σ)).1 ∨ ((Sx.tight (Sx.text L σ)).1 = 1 ∧ c = true))) :
    Sx.Sg L t m c x σ = Sx.Sg L t (Sx.tight (Sx.text L σ)).1 (c || decide ((Sx.tight (Sx.text L σ)).1 = 1)) (Sx.step L x σ).1 (Sx.step L x σ).2 := by
  have h' := Sx.fuel_M L σ
  unfold Sx.Sg
  rw [(Sx.enough hL _).2.1 (Sx.fuel L + 1) t m c x σ hi (by omega) (by omega), Sx.signs, if_neg (by omega)]
  simp only []
  rw [if_neg h]
  unfold Sx.step Sx.X
  simp only []
  split
  · rename_i h5; rw [h5]
  · rfl
/-- signs of a level, and those that bind tighter -/
theorem Sx.Sg_level (l m : Nat) (c : Bool) (hl : l ≠ 0) (hm : l ≤ m) (n : Nat) : ∀ (m : Nat) (hm : l ≤ m) (x : Sx.E) (σ : Sx.R), σ.at' < L.length → Sx.M L σ ≤ n → Sx.Sg L (l - 1) m c x σ = Sx.Sg L (l - 1) l c (Sx.Sg L l m c x σ).1 (Sx.Sg L l m c x σ).2 := by
  induction n with
  | zero =>
    intro m hm x σ hi hn
    have he : σ.err ≠ 0 := fun he => by have := Sx.M_pos he hi; omega
    rw [Sx.Sg_err hL _ _ _ _ hi he, Sx.Sg_err hL _ _ _ _ hi he, Sx.Sg_err hL _ _ _ _ hi he]
  | succ n ih =>
    intro m hm x σ hi hn
    by_cases he : σ.err = 0
    · by_cases h1 : (Sx.tight (Sx.text L σ)).1 ≤ l - 1 ∨ m < (Sx.tight (Sx.text L σ)).1 ∨ ((Sx.tight (Sx.text L σ)).1 = 1 ∧ c = true)
      · rw [Sx.Sg_stop hL x hi h1, Sx.Sg_stop hL (t := l) x hi (h1.imp (fun h => by omega) id), Sx.Sg_stop hL x hi (h1.imp id (Or.imp (fun h => by omega) id))]
      · by_cases h2 : (Sx.tight (Sx.text L σ)).1 = l
        · rw [Sx.Sg_stop hL (t := l) x hi (Or.inl (by omega)), Sx.Sg_go hL x hi he h1, Sx.Sg_go hL (m := l) x hi he (fun h => h1 (h.imp id (Or.imp (fun h => by omega) id)))]
        · have h3 : l < (Sx.tight (Sx.text L σ)).1 := by omega
          have hs := Sx.step_in hL (x := x) hi he (by omega)
          rw [Sx.Sg_go hL x hi he h1, Sx.Sg_go hL (t := l) (m := m) x hi he (fun h => h1 (h.imp (fun h => by omega) id))]
          have hc : (c || decide ((Sx.tight (Sx.text L σ)).1 = 1)) = c := by rw [decide_eq_false (by omega), Bool.or_false]
          rw [hc]
          exact ih _ (by omega) _ _ hs.1 (by omega)
    · rw [Sx.Sg_err hL _ _ _ _ hi he, Sx.Sg_err hL _ _ _ _ hi he, Sx.Sg_err hL _ _ _ _ hi he]
theorem Sx.X_in {t : Nat} {σ : Sx.R} (hi : σ.at' < L.length) : (Sx.X L t σ).2.at' < L.length := (Sx.le_X hL t σ).2.2.1 hi
theorem Sx.U_in {σ : Sx.R} (hi : σ.at' < L.length) : (Sx.U L σ).2.at' < L.length := (Sx.le_U hL σ).2.2.1 hi
/-- a chain of a level: what binds tighter, then that level's signs -/
theorem Sx.X_chain (l : Nat) (hl : l ≠ 0) (h7 : l ≤ 7) {σ : Sx.R} (hi : σ.at' < L.length) : Sx.X L (l - 1) σ = Sx.Sg L (l - 1) l false (Sx.X L l σ).1 (Sx.X L l σ).2 := by
  rw [Sx.X_eq hL _ hi, Sx.X_eq hL l hi]
  exact Sx.Sg_level hL l 7 false hl h7 _ 7 h7 _ _ (Sx.U_in hL hi) (Nat.le_refl _)
omit hL in
theorem Sx.tight_seven (s : List UInt8) : (Sx.tight s).1 ≤ 7 := by
  unfold Sx.tight
  split
  · rename_i x h
    have hm := List.mem_of_find?_eq_some h
    have : ∀ x ∈ Sx.tights, x.2.1 ≤ 7 := by decide
    exact this x hm
  · exact Nat.zero_le _
theorem Sx.X_seven {σ : Sx.R} (hi : σ.at' < L.length) : Sx.X L 7 σ = Sx.U L σ := by
  rw [Sx.X_eq hL _ hi, Sx.Sg_stop hL _ (Sx.U_in hL hi) (Or.inl (Sx.tight_seven _))]
/-- a comparison, of which there is one at most -/
theorem Sx.X_zero {σ : Sx.R} (hi : σ.at' < L.length) : Sx.X L 0 σ = if (Sx.X L 1 σ).2.err = 0 ∧ (Sx.tight (Sx.text L (Sx.X L 1 σ).2)).1 = 1 then Sx.step L (Sx.X L 1 σ).1 (Sx.X L 1 σ).2 else Sx.X L 1 σ := by
  have h := Sx.X_chain hL 1 (by decide) (by decide) hi
  rw [show 1 - 1 = 0 from rfl] at h
  rw [h]
  have hi1 := Sx.X_in hL (t := 1) hi
  generalize Sx.X L 1 σ = r at hi1 ⊢
  split
  · rename_i h1
    have hs := Sx.step_in hL (x := r.1) hi1 h1.1 (by omega)
    rw [Sx.Sg_go hL _ hi1 h1.1 (by rw [h1.2]; simp)]
    by_cases he : (Sx.step L r.1 r.2).2.err = 0
    · refine Sx.Sg_stop hL _ hs.1 ?_
      rw [h1.2]
      by_cases h3 : (Sx.tight (Sx.text L (Sx.step L r.1 r.2).2)).1 = 1
      · exact Or.inr (Or.inr ⟨h3, by simp⟩)
      · omega
    · exact Sx.Sg_err hL _ _ _ _ hs.1 he
  · rename_i h1
    by_cases he : r.2.err = 0
    · exact Sx.Sg_stop hL _ hi1 (by have : ¬ (Sx.tight (Sx.text L r.2)).1 = 1 := fun h => h1 ⟨he, h⟩; omega)
    · exact Sx.Sg_err hL _ _ _ _ hi1 he
end
end Go.Proofs.YtbnhegipdfkdgaaDoor
end
