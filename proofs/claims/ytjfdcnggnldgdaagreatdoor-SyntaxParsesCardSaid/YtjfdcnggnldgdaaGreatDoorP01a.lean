/-
Plain mathematics of layer 11: a text as tokens. It names nothing of the translated program's numbers.
Plain mathematics of layer 12: tokens as a program, as the document's own answer reads them (a reader's state: how far, how many nests, the first error). It names nothing of the translated program's numbers.
What the small functions of lex and of the document's answer for layer 11 return: a byte's kind.
Plain mathematics of layer 11, second part: what is left of a text behind blanks and remarks, and the signs as a list.
-/
import Derived.WalkKit
import Derived.Deep.Slices
import Derived.Lib.Hide
import Derived.ProofKit
import Derived.OwnWalk
import Derived.Below
import Derived.LoopN
import Derived.Laws.Cover1
import Derived.Handy
import Derived.Lib.SmallJoins
import Derived.OpenShut
import Derived.Deep.RegionHeld3
import Derived.SizedLaws
import Derived.BigQuiet
import Derived.Lib.TrimByte
import Derived.Test.YtjfdcnggnldgdaaGreatDoorRows
import Derived.Lib.Bytealg
section
set_option linter.unusedVariables false
set_option linter.unusedSimpArgs false
namespace Go.Proofs.YtjfdcnggnldgdaaGreatDoor

/-- a token -/
structure Lx.Tok where
  kind : Int
  pos : Nat
  num : Int
  text : List UInt8
  deriving DecidableEq
def Lx.blank (c : UInt8) : Bool := decide (c.toNat = 32) || decide (c.toNat = 9) || decide (c.toNat = 10) || decide (c.toNat = 13)
def Lx.letter (c : UInt8) : Bool := (decide (97 ≤ c.toNat) && decide (c.toNat ≤ 122)) || (decide (65 ≤ c.toNat) && decide (c.toNat ≤ 90)) || decide (c.toNat = 95)
def Lx.digit (c : UInt8) : Bool := decide (48 ≤ c.toNat) && decide (c.toNat ≤ 57)
def Lx.wordy (c : UInt8) : Bool := Lx.letter c || Lx.digit c
/-- how many bytes of blanks and remarks stand ahead (in a remark, or not) -/
def Lx.skip : Bool → List UInt8 → Nat
  | _, [] => 0
  | true, c :: r => Lx.skip (decide (c ≠ 10)) r + 1
  | false, c :: r => if c = 47 ∧ r.head? = some 47 then Lx.skip true r + 1 else if Lx.blank c then Lx.skip false r + 1 else 0
def Lx.run (l : List UInt8) : List UInt8 := l.takeWhile Lx.wordy
def Lx.hex (c : UInt8) : Bool := Lx.digit c || (decide (97 ≤ c.toNat) && decide (c.toNat ≤ 102))
def Lx.hval (c : UInt8) : Nat := if Lx.digit c then c.toNat - 48 else c.toNat - 87
def Lx.val (b : Nat) (l : List UInt8) : Nat := l.foldl (fun n c => n * b + Lx.hval c) 0
/-- a number's value; -1: it is none -/
def Lx.num (l : List UInt8) : Int :=
  if l.take 2 = [48, 120] then (if (l.drop 2).length ≤ 8 ∧ l.drop 2 ≠ [] ∧ (l.drop 2).all Lx.hex = true then (Lx.val 16 (l.drop 2) : Int) else -1)
  else if l ≠ [] ∧ l.length ≤ 10 ∧ (1 < l.length → l.head? ≠ some 48) ∧ l.all Lx.digit = true ∧ Lx.val 10 l < 4294967296 then (Lx.val 10 l : Int) else -1
def Lx.twos : List (UInt8 × UInt8) := [(60, 60), (62, 62), (61, 61), (33, 61), (60, 61), (62, 61)]
def Lx.ones : List UInt8 := [40, 41, 123, 125, 91, 93, 44, 59, 58, 61, 43, 45, 42, 38, 124, 94, 126, 33, 60, 62]
def Lx.sign : List UInt8 → Nat
  | [] => 0
  | [a] => if Lx.ones.contains a then 1 else 0
  | a :: b :: _ => if Lx.twos.contains (a, b) then 2 else if Lx.ones.contains a then 1 else 0
def Lx.words : List (List UInt8) := [[102, 110], [112, 117, 98], [115, 101, 99], [111, 117, 116], [108, 101, 116], [118, 97, 114], [105, 102], [101, 108, 115, 101], [102, 111, 114], [109, 97, 120], [114, 101, 116, 117, 114, 110], [117, 51, 50], [117, 56], [109, 97, 115, 107], [109, 117, 108, 104, 105], [99, 97, 114, 114, 121], [115, 101, 108, 101, 99, 116], [119, 111, 114, 100], [114, 111, 114]]
/-- the token that begins here, and how many bytes it has; 0: it is none -/
def Lx.one (p : Nat) (l : List UInt8) : Lx.Tok × Nat :=
  match l with
  | [] => (⟨0, p, 0, []⟩, 0)
  | c :: r =>
    if Lx.letter c then (⟨if Lx.words.contains (Lx.run l) then 3 else 1, p, 0, Lx.run l⟩, if (Lx.run l).length ≤ 40 then (Lx.run l).length else 0)
    else if Lx.digit c then (⟨2, p, Lx.num (Lx.run l), []⟩, if 0 ≤ Lx.num (Lx.run l) then (Lx.run l).length else 0)
    else (⟨4, p, 0, l.take (Lx.sign l)⟩, Lx.sign l)
def Lx.push (x : Lx.Tok) : Except Nat (List Lx.Tok) → Except Nat (List Lx.Tok)
  | .error q => .error q
  | .ok ts => .ok (x :: ts)
def Lx.join (a b : Except Nat (List Lx.Tok)) : Except Nat (List Lx.Tok) :=
  match a with
  | .error q => .error q
  | .ok ts => match b with
    | .error q => .error q
    | .ok us => .ok (ts ++ us)
/-- the tokens from a place on, or the place of what is none -/
def Lx.toks : Nat → Nat → List UInt8 → Except Nat (List Lx.Tok)
  | 0, p, _ => .error p
  | f + 1, p, l =>
    if l.drop (Lx.skip false l) = [] then .ok []
    else if (Lx.one (p + Lx.skip false l) (l.drop (Lx.skip false l))).2 = 0 then .error (p + Lx.skip false l)
    else Lx.push (Lx.one (p + Lx.skip false l) (l.drop (Lx.skip false l))).1 (Lx.toks f (p + Lx.skip false l + (Lx.one (p + Lx.skip false l) (l.drop (Lx.skip false l))).2) ((l.drop (Lx.skip false l)).drop (Lx.one (p + Lx.skip false l) (l.drop (Lx.skip false l))).2))
theorem Lx.skip_nil (m : Bool) : Lx.skip m [] = 0 := by cases m <;> rfl
theorem Lx.skip_rem (c : UInt8) (r : List UInt8) : Lx.skip true (c :: r) = Lx.skip (decide (c ≠ 10)) r + 1 := rfl
theorem Lx.skip_two {c : UInt8} {r : List UInt8} (h : c = 47 ∧ r.head? = some 47) : Lx.skip false (c :: r) = Lx.skip true r + 1 := by rw [Lx.skip, if_pos h]
theorem Lx.skip_blank {c : UInt8} {r : List UInt8} (h : ¬ (c = 47 ∧ r.head? = some 47)) (hb : Lx.blank c = true) : Lx.skip false (c :: r) = Lx.skip false r + 1 := by rw [Lx.skip, if_neg h, if_pos hb]
theorem Lx.skip_tok {c : UInt8} {r : List UInt8} (h : ¬ (c = 47 ∧ r.head? = some 47)) (hb : Lx.blank c = false) : Lx.skip false (c :: r) = 0 := by rw [Lx.skip, if_neg h, if_neg (by rw [hb]; decide)]
theorem Lx.toks_end {f p : Nat} {l : List UInt8} (h : l.drop (Lx.skip false l) = []) : Lx.toks (f + 1) p l = .ok [] := by rw [Lx.toks, if_pos h]
theorem Lx.toks_bad {f p k : Nat} {l u : List UInt8} (hk : Lx.skip false l = k) (h : l.drop k = u) (hu : u ≠ []) (h0 : (Lx.one (p + k) u).2 = 0) : Lx.toks (f + 1) p l = .error (p + k) := by
  subst hk; subst h; rw [Lx.toks, if_neg hu, if_pos h0]
theorem Lx.toks_good {f p k : Nat} {l u : List UInt8} (hk : Lx.skip false l = k) (h : l.drop k = u) (hu : u ≠ []) (h0 : ¬ (Lx.one (p + k) u).2 = 0) : Lx.toks (f + 1) p l = Lx.push (Lx.one (p + k) u).1 (Lx.toks f (p + k + (Lx.one (p + k) u).2) (u.drop (Lx.one (p + k) u).2)) := by
  subst hk; subst h; rw [Lx.toks, if_neg hu, if_neg h0]
theorem Lx.skip_le (m : Bool) (l : List UInt8) : Lx.skip m l ≤ l.length := by
  induction l generalizing m with
  | nil => cases m <;> simp [Lx.skip]
  | cons c r ih =>
    cases m
    · simp only [Lx.skip, List.length_cons]
      split
      · have := ih true; omega
      · split
        · have := ih false; omega
        · omega
    · simp only [Lx.skip, List.length_cons]
      have := ih (decide (c ≠ 10)); omega
theorem Lx.skip_head (m : Bool) (l : List UInt8) (h : Lx.skip m l < l.length) : ∃ c r, l.drop (Lx.skip m l) = c :: r ∧ Lx.blank c = false ∧ ¬ (c = 47 ∧ r.head? = some 47) := by
  induction l generalizing m with
  | nil => simp at h
  | cons c r ih =>
    cases m
    · simp only [Lx.skip, List.length_cons] at h ⊢
      split at h
      · rename_i h1; rw [if_pos h1]; exact ih true (by omega)
      · rename_i h1; rw [if_neg h1]
        split at h
        · rename_i h2; rw [if_pos h2]; exact ih false (by omega)
        · rename_i h2; rw [if_neg h2]; exact ⟨c, r, rfl, by simpa using h2, h1⟩
    · simp only [Lx.skip, List.length_cons] at h ⊢
      exact ih _ (by omega)
theorem Lx.run_le (l : List UInt8) : (Lx.run l).length ≤ l.length := (List.takeWhile_sublist _).length_le
theorem Lx.sign_le (l : List UInt8) : Lx.sign l ≤ l.length := by
  unfold Lx.sign
  split
  · simp
  · split <;> simp
  · split
    · simp
    · split <;> simp
theorem Lx.one_le (p : Nat) (l : List UInt8) : (Lx.one p l).2 ≤ l.length := by
  unfold Lx.one
  split
  · simp
  · have h1 := Lx.run_le (by assumption :: by assumption)
    split
    · simp only []; split <;> simp_all [Lx.run_le]
    · split
      · simp only []; split <;> simp_all [Lx.run_le]
      · exact Lx.sign_le _
theorem Lx.toks_fuel (f g p : Nat) (l : List UInt8) (hf : l.length < f) (hg : l.length < g) : Lx.toks f p l = Lx.toks g p l := by
  induction f generalizing g p l with
  | zero => omega
  | succ f ih =>
    obtain ⟨g, rfl⟩ : ∃ k, g = k + 1 := ⟨g - 1, by omega⟩
    by_cases h1 : l.drop (Lx.skip false l) = []
    · rw [Lx.toks_end h1, Lx.toks_end h1]
    · by_cases h2 : (Lx.one (p + Lx.skip false l) (l.drop (Lx.skip false l))).2 = 0
      · rw [Lx.toks_bad rfl rfl h1 h2, Lx.toks_bad rfl rfl h1 h2]
      · rw [Lx.toks_good rfl rfl h1 h2, Lx.toks_good rfl rfl h1 h2]
        have h3 := Lx.one_le (p + Lx.skip false l) (l.drop (Lx.skip false l))
        have h4 := Lx.skip_le false l
        rw [List.length_drop] at h3
        rw [ih g _ _ (by simp only [List.length_drop]; omega) (by simp only [List.length_drop]; omega)]
/-- further on -/
def Lx.Tok.on (d : Nat) (x : Lx.Tok) : Lx.Tok := { x with pos := x.pos + d }
theorem Lx.one_on (p d : Nat) (l : List UInt8) : Lx.one (p + d) l = ((Lx.one p l).1.on d, (Lx.one p l).2) := by
  unfold Lx.one Lx.Tok.on
  split
  · rfl
  · split
    · rfl
    · split <;> rfl
/-- a text's tokens, or an error and its place -/
def Lx.lex (s : List UInt8) : Except (Int × Nat) (List Lx.Tok) :=
  if 65536 < s.length then .error (5, 0) else match Lx.toks (s.length + 1) 0 s with
    | .error q => .error (9, q)
    | .ok ts => .ok (ts ++ [⟨0, s.length, 0, []⟩])
def Lx.dec : Nat → Nat → List UInt8 → List UInt8
  | 0, _, acc => acc
  | f + 1, n, acc => if n = 0 then acc else Lx.dec f (n / 10) (UInt8.ofNat (48 + n % 10) :: acc)
def Lx.text (x : Lx.Tok) : List UInt8 := if x.kind ≠ 2 then x.text else if x.num ≤ 0 then [48] else Lx.dec 10 x.num.toNat []
theorem Lx.dec_acc (f n : Nat) (acc : List UInt8) : Lx.dec f n acc = Lx.dec f n [] ++ acc := by
  induction f generalizing n acc with
  | zero => rfl
  | succ f ih =>
    simp only [Lx.dec]
    split
    · rfl
    · rw [ih, ih (n / 10) [_], List.append_assoc]; rfl
theorem Lx.val_add (b : Nat) (l : List UInt8) (c : UInt8) : Lx.val b (l ++ [c]) = Lx.val b l * b + Lx.hval c := by
  unfold Lx.val; rw [List.foldl_append]; rfl
theorem Lx.dig_of (k : Nat) (h : k < 10) : Lx.digit (UInt8.ofNat (48 + k)) = true ∧ Lx.hval (UInt8.ofNat (48 + k)) = k ∧ (UInt8.ofNat (48 + k) = 48 → k = 0) := by
  have : (UInt8.ofNat (48 + k)).toNat = 48 + k := by rw [UInt8.toNat_ofNat']; omega
  have h1 : Lx.digit (UInt8.ofNat (48 + k)) = true := by unfold Lx.digit; rw [this]; simp; omega
  refine ⟨h1, ?_, fun e => ?_⟩
  · unfold Lx.hval; rw [if_pos h1, this]; omega
  · have := congrArg UInt8.toNat e; rw [‹(UInt8.ofNat (48 + k)).toNat = 48 + k›] at this; simp at this; omega
theorem Lx.dec_is (f n : Nat) (h : n < 10 ^ f) : Lx.val 10 (Lx.dec f n []) = n ∧ (Lx.dec f n []).length ≤ f ∧ (Lx.dec f n []).all Lx.digit = true ∧ (0 < n → (Lx.dec f n []) ≠ [] ∧ (Lx.dec f n []).head? ≠ some 48) := by
  induction f generalizing n with
  | zero => simp at h; subst h; exact ⟨rfl, by simp [Lx.dec], rfl, fun h => absurd h (by simp)⟩
  | succ f ih =>
    by_cases h0 : n = 0
    · subst h0; simp only [Lx.dec]; exact ⟨rfl, by simp, rfl, fun h => absurd h (by simp)⟩
    · have h1 := ih (n / 10) (by rw [Nat.pow_succ] at h; omega)
      have h2 := Lx.dig_of (n % 10) (by omega)
      have e : Lx.dec (f + 1) n [] = Lx.dec f (n / 10) [] ++ [UInt8.ofNat (48 + n % 10)] := by
        simp only [Lx.dec]; rw [if_neg h0, Lx.dec_acc]
      rw [e]
      refine ⟨?_, ?_, ?_, fun _ => ⟨by simp, ?_⟩⟩
      · rw [Lx.val_add, h1.1, h2.2.1]; omega
      · rw [List.length_append]; simp; exact h1.2.1
      · rw [List.all_append, h1.2.2.1, List.all_cons, h2.1]; rfl
      · by_cases h3 : 0 < n / 10
        · have h4 := h1.2.2.2 h3
          cases hd : Lx.dec f (n / 10) [] with
          | nil => exact absurd hd h4.1
          | cons a r => rw [hd] at h4; simpa using h4.2
        · have h5 : Lx.dec f (n / 10) [] = [] := by
            have : n / 10 = 0 := by omega
            rw [this]; cases f <;> rfl
          rw [h5]; intro h6
          have h6 : UInt8.ofNat (48 + n % 10) = 48 := by simpa using h6
          have := h2.2.2 h6; omega
theorem Lx.num_dec (n : Nat) (h0 : 0 < n) (h : n < 4294967296) : Lx.num (Lx.dec 10 n []) = n := by
  have h1 := Lx.dec_is 10 n (by omega)
  have h2 := h1.2.2.2 h0
  unfold Lx.num
  rw [if_neg, if_pos ⟨h2.1, h1.2.1, fun _ => h2.2, h1.2.2.1, by rw [h1.1]; exact h⟩, h1.1]
  intro e
  cases hd : Lx.dec 10 n [] with
  | nil => exact h2.1 hd
  | cons a r =>
    rw [hd] at e h2
    cases r <;> simp at e h2
    exact h2 e.1
theorem Lx.num_lt (l : List UInt8) : -1 ≤ Lx.num l ∧ Lx.num l < 4294967296 := by
  have hg : ∀ (l : List UInt8) (n k : Nat), n < 16 ^ k → l.all Lx.hex = true → l.foldl (fun n c => n * 16 + Lx.hval c) n < 16 ^ (k + l.length) := by
    intro l
    induction l with
    | nil => intro n k h _; exact h
    | cons c r ih =>
      intro n k hn h
      rw [List.all_cons, Bool.and_eq_true] at h
      have h2 : Lx.hval c < 16 := by
        have := h.1
        simp only [Lx.hex, Lx.digit, Bool.or_eq_true, Bool.and_eq_true, decide_eq_true_eq] at this
        unfold Lx.hval
        split
        · rename_i g; simp only [Lx.digit, Bool.and_eq_true, decide_eq_true_eq] at g; omega
        · rename_i g; simp only [Lx.digit, Bool.and_eq_true, decide_eq_true_eq] at g; omega
      have := ih (n * 16 + Lx.hval c) (k + 1) (by rw [Nat.pow_succ]; omega) h.2
      rw [List.foldl_cons, List.length_cons, show k + (r.length + 1) = k + 1 + r.length from by omega]; exact this
  have hh : ∀ l : List UInt8, l.all Lx.hex = true → Lx.val 16 l < 16 ^ l.length := fun l h => by have := hg l 0 0 (by simp) h; rw [Nat.zero_add] at this; exact this
  unfold Lx.num
  split
  · split
    · rename_i h
      have h1 := hh _ h.2.2
      have h2 : 16 ^ (l.drop 2).length ≤ 16 ^ 8 := Nat.pow_le_pow_right (by decide) h.1
      have : (16 : Nat) ^ 8 = 4294967296 := by decide
      omega
    · omega
  · split
    · rename_i h; have := h.2.2.2.2; omega
    · omega
def Lx.good (x : Lx.Tok) : Prop := (1 ≤ x.kind ∧ x.kind ≤ 4) ∧ 0 ≤ x.num ∧ x.num < 4294967296 ∧ (x.kind ≠ 2 → x.num = 0) ∧ (x.kind = 2 → x.text = []) ∧ Lx.text x ≠ [] ∧ (x.kind ≠ 2 → x.text.length ≤ 40) ∧
  ∀ (p : Nat) (r : List UInt8), Lx.skip false (Lx.text x ++ 32 :: r) = 0 ∧ Lx.one p (Lx.text x ++ 32 :: r) = ({ x with pos := p }, (Lx.text x).length)
theorem Lx.wordy_not {c : UInt8} (h : Lx.wordy c = true) : Lx.blank c = false ∧ c ≠ 47 := by
  simp only [Lx.wordy, Lx.letter, Lx.digit, Bool.or_eq_true, Bool.and_eq_true, decide_eq_true_eq] at h
  refine ⟨?_, ?_⟩
  · simp only [Lx.blank, Bool.or_eq_false_iff, decide_eq_false_iff_not]; omega
  · rintro rfl; revert h; decide
theorem Lx.run_all (l : List UInt8) : (Lx.run l).all Lx.wordy = true := List.all_takeWhile
theorem Lx.run_of {l : List UInt8} (h : l.all Lx.wordy = true) (r : List UInt8) : Lx.run (l ++ 32 :: r) = l := by
  unfold Lx.run
  induction l with
  | nil => rfl
  | cons c l ih => rw [List.all_cons, Bool.and_eq_true] at h; rw [List.cons_append, List.takeWhile_cons, h.1, if_pos rfl, ih h.2]
theorem Lx.skip_wordy {c : UInt8} (r : List UInt8) (h : Lx.wordy c = true) : Lx.skip false (c :: r) = 0 := Lx.skip_tok (fun x => (Lx.wordy_not h).2 x.1) (Lx.wordy_not h).1
theorem Lx.letter_digit {c : UInt8} (h : Lx.digit c = true) : Lx.letter c = false := by
  simp only [Lx.letter, Lx.digit, Bool.or_eq_false_iff, Bool.and_eq_true, Bool.and_eq_false_iff, decide_eq_true_eq, decide_eq_false_iff_not] at h ⊢
  omega
theorem Lx.ones_not {c : UInt8} (h : Lx.ones.contains c = true) : Lx.blank c = false ∧ c ≠ 47 ∧ Lx.letter c = false ∧ Lx.digit c = false := by
  have : ∀ d ∈ Lx.ones, Lx.blank d = false ∧ d ≠ 47 ∧ Lx.letter d = false ∧ Lx.digit d = false := by decide
  exact this c (by simpa using h)
theorem Lx.twos_not {a b : UInt8} (h : Lx.twos.contains (a, b) = true) : Lx.blank a = false ∧ a ≠ 47 ∧ Lx.letter a = false ∧ Lx.digit a = false := by
  have : ∀ d ∈ Lx.twos, Lx.blank d.1 = false ∧ d.1 ≠ 47 ∧ Lx.letter d.1 = false ∧ Lx.digit d.1 = false := by decide
  exact this (a, b) (by simpa using h)
theorem Lx.run_cons {c : UInt8} {r : List UInt8} (h : Lx.wordy c = true) : Lx.run (c :: r) = c :: Lx.run r := by
  unfold Lx.run; rw [List.takeWhile_cons, if_pos h]
theorem Lx.one_good (p : Nat) (c : UInt8) (r : List UInt8) (h : ¬ (Lx.one p (c :: r)).2 = 0) : Lx.good (Lx.one p (c :: r)).1 := by
  unfold Lx.one at h ⊢
  simp only [] at h ⊢
  by_cases h1 : Lx.letter c = true
  · rw [if_pos h1] at h ⊢
    simp only [] at h ⊢
    have hc : Lx.wordy c = true := by unfold Lx.wordy; rw [h1]; rfl
    have hl : (Lx.run (c :: r)).length ≤ 40 := by
      apply Decidable.byContradiction; intro g; rw [if_neg g] at h; exact h rfl
    have hk : ∀ q, Lx.text ⟨if Lx.words.contains (Lx.run (c :: r)) = true then 3 else 1, q, 0, Lx.run (c :: r)⟩ = Lx.run (c :: r) := by
      intro q; unfold Lx.text; rw [if_pos]; (simp only []; split <;> simp)
    refine ⟨?_, by simp, by simp, fun _ => rfl, ?_, ?_, fun _ => hl, fun q u => ?_⟩
    · simp only []; split <;> decide
    · simp only []; split <;> simp
    · rw [hk, Lx.run_cons hc]; simp
    · rw [hk]
      have hr := Lx.run_of (Lx.run_all (c :: r)) u
      rw [Lx.run_cons hc] at hr hl ⊢
      rw [List.cons_append] at hr ⊢
      refine ⟨Lx.skip_wordy _ hc, ?_⟩
      unfold Lx.one
      simp only []
      rw [if_pos h1, hr, if_pos hl]
  · have h1' : Lx.letter c = false := by simpa using h1
    rw [if_neg h1] at h ⊢
    by_cases h2 : Lx.digit c = true
    · rw [if_pos h2] at h ⊢
      simp only [] at h ⊢
      have hn : 0 ≤ Lx.num (Lx.run (c :: r)) := by
        apply Decidable.byContradiction; intro g; rw [if_neg g] at h; exact h rfl
      have hn2 := (Lx.num_lt (Lx.run (c :: r))).2
      generalize Lx.num (Lx.run (c :: r)) = v at *
      have hk : ∀ q, Lx.text ⟨2, q, v, []⟩ = if v ≤ 0 then [48] else Lx.dec 10 v.toNat [] := by intro q; rfl
      have hd : ∃ a l, Lx.text ⟨2, p, v, []⟩ = a :: l ∧ (a :: l).all Lx.digit = true ∧ Lx.num (a :: l) = v := by
        rw [hk]
        by_cases h0 : v ≤ 0
        · rw [if_pos h0]; refine ⟨48, [], rfl, by decide, ?_⟩
          have : v = 0 := by omega
          subst this; decide
        · rw [if_neg h0]
          have g := Lx.dec_is 10 v.toNat (by omega)
          have g2 := g.2.2.2 (by omega)
          have g3 := Lx.num_dec v.toNat (by omega) (by omega)
          cases e : Lx.dec 10 v.toNat [] with
          | nil => exact absurd e g2.1
          | cons a l => rw [e] at g g3; exact ⟨a, l, rfl, g.2.2.1, by rw [g3]; omega⟩
      obtain ⟨a, l, e, ha, hv⟩ := hd
      refine ⟨by simp, hn, hn2, fun g => absurd rfl g, fun _ => rfl, ?_, fun g => absurd rfl g, fun q u => ?_⟩
      · rw [e]; simp
      · rw [e]
        have hw : (a :: l).all Lx.wordy = true := by
          rw [List.all_eq_true] at ha ⊢
          intro y hy; unfold Lx.wordy; rw [ha y hy, Bool.or_true]
        have hr := Lx.run_of hw u
        have haw : Lx.wordy a = true := by rw [List.all_cons, Bool.and_eq_true] at hw; exact hw.1
        have had : Lx.digit a = true := by rw [List.all_cons, Bool.and_eq_true] at ha; exact ha.1
        rw [List.cons_append] at hr ⊢
        refine ⟨Lx.skip_wordy _ haw, ?_⟩
        unfold Lx.one
        simp only []
        rw [if_neg (by rw [Lx.letter_digit had]; decide), if_pos had, hr, hv, if_pos hn]
    · rw [if_neg h2] at h ⊢
      simp only [] at h ⊢
      cases r with
      | nil =>
        simp only [Lx.sign] at h ⊢
        by_cases g : Lx.ones.contains c = true
        · rw [if_pos g] at h ⊢
          have gn := Lx.ones_not g
          refine ⟨by simp, by simp, by simp, fun _ => rfl, fun g => absurd g (by simp), by simp [Lx.text], fun _ => by simp, fun q u => ?_⟩
          show Lx.skip false (c :: 32 :: u) = 0 ∧ Lx.one q (c :: 32 :: u) = _
          refine ⟨Lx.skip_tok (fun x => gn.2.1 x.1) gn.1, ?_⟩
          unfold Lx.one
          simp only [Lx.sign]
          rw [if_neg h1, if_neg h2, if_neg (by simp [Lx.twos]), if_pos g]; rfl
        · rw [if_neg g] at h; exact absurd rfl h
      | cons b r =>
        simp only [Lx.sign] at h ⊢
        by_cases g : Lx.twos.contains (c, b) = true
        · rw [if_pos g] at h ⊢
          have gn := Lx.twos_not g
          refine ⟨by simp, by simp, by simp, fun _ => rfl, fun g => absurd g (by simp), by simp [Lx.text], fun _ => by simp, fun q u => ?_⟩
          show Lx.skip false (c :: b :: 32 :: u) = 0 ∧ Lx.one q (c :: b :: 32 :: u) = _
          refine ⟨Lx.skip_tok (fun x => gn.2.1 x.1) gn.1, ?_⟩
          unfold Lx.one
          simp only [Lx.sign]
          rw [if_neg h1, if_neg h2, if_pos g]; rfl
        · rw [if_neg g] at h ⊢
          by_cases g : Lx.ones.contains c = true
          · rw [if_pos g] at h ⊢
            have gn := Lx.ones_not g
            refine ⟨by simp, by simp, by simp, fun _ => rfl, fun g => absurd g (by simp), by simp [Lx.text], fun _ => by simp, fun q u => ?_⟩
            show Lx.skip false (c :: 32 :: u) = 0 ∧ Lx.one q (c :: 32 :: u) = _
            refine ⟨Lx.skip_tok (fun x => gn.2.1 x.1) gn.1, ?_⟩
            unfold Lx.one
            simp only [Lx.sign]
            rw [if_neg h1, if_neg h2, if_neg (by simp [Lx.twos]), if_pos g]; rfl
          · rw [if_neg g] at h; exact absurd rfl h
/-- tokens written with a blank behind each -/
def Lx.all (ts : List Lx.Tok) : List UInt8 := ts.flatMap fun x => Lx.text x ++ [32]
theorem Lx.all_cons (x : Lx.Tok) (ts : List Lx.Tok) : Lx.all (x :: ts) = Lx.text x ++ 32 :: Lx.all ts := by
  unfold Lx.all; rw [List.flatMap_cons, List.append_assoc]; rfl
/-- where a token stands -/
def Lx.stands (s : List UInt8) (p : Nat) (x : Lx.Tok) : Prop := p ≤ x.pos ∧ x.pos < s.length ∧ (x.kind ≠ 2 → x.pos + x.text.length ≤ s.length ∧ (s.drop x.pos).take x.text.length = x.text)
theorem Lx.one_text (p : Nat) (l : List UInt8) : (Lx.one p l).1.pos = p ∧ ((Lx.one p l).1.text.length ≤ l.length ∧ l.take (Lx.one p l).1.text.length = (Lx.one p l).1.text) := by
  have hr : ∀ l : List UInt8, l.take (Lx.run l).length = Lx.run l := fun l => by
    have h : Lx.run l ++ l.dropWhile Lx.wordy = l := List.takeWhile_append_dropWhile
    have := List.take_left (l₁ := Lx.run l) (l₂ := l.dropWhile Lx.wordy)
    rwa [h] at this
  unfold Lx.one
  split
  · simp
  · split
    · exact ⟨rfl, Lx.run_le _, hr _⟩
    · split
      · simp
      · have := Lx.sign_le (by assumption :: by assumption)
        refine ⟨rfl, by rw [List.length_take]; omega, ?_⟩
        simp only [List.length_take]
        rw [Nat.min_eq_left (Lx.sign_le _)]
theorem Lx.toks_where (f p : Nat) (l s : List UInt8) (ts : List Lx.Tok) (hp : p ≤ s.length) (hl : l = s.drop p) (h : Lx.toks f p l = .ok ts) : (∀ x ∈ ts, Lx.good x ∧ Lx.stands s p x) ∧ ts.Pairwise (fun a b => a.pos < b.pos) := by
  induction f generalizing p l ts with
  | zero => exact absurd h (by simp [Lx.toks])
  | succ f ih =>
    by_cases h1 : l.drop (Lx.skip false l) = []
    · rw [Lx.toks_end h1] at h; cases h; exact ⟨fun _ h => absurd h (by simp), List.Pairwise.nil⟩
    · by_cases h2 : (Lx.one (p + Lx.skip false l) (l.drop (Lx.skip false l))).2 = 0
      · rw [Lx.toks_bad rfl rfl h1 h2] at h; cases h
      · rw [Lx.toks_good rfl rfl h1 h2] at h
        have h3 := Lx.one_le (p + Lx.skip false l) (l.drop (Lx.skip false l))
        have h5 := Lx.one_text (p + Lx.skip false l) (l.drop (Lx.skip false l))
        have h4 := Lx.skip_le false l
        have hll : l.length = s.length - p := by rw [hl, List.length_drop]
        have hlt : Lx.skip false l < l.length := by
          apply Nat.lt_of_not_le; intro h; exact h1 (List.drop_of_length_le h)
        have hgd : Lx.good (Lx.one (p + Lx.skip false l) (l.drop (Lx.skip false l))).1 := by
          cases e : l.drop (Lx.skip false l) with
          | nil => exact absurd e h1
          | cons c r => rw [e] at h2; exact Lx.one_good _ _ _ h2
        have hdd : l.drop (Lx.skip false l) = s.drop (p + Lx.skip false l) := by rw [hl, List.drop_drop]
        generalize Lx.one (p + Lx.skip false l) (l.drop (Lx.skip false l)) = x at *
        rw [List.length_drop] at h3
        cases e : Lx.toks f (p + Lx.skip false l + x.2) ((l.drop (Lx.skip false l)).drop x.2) with
        | error q => rw [e] at h; cases h
        | ok us =>
          rw [e] at h; cases h
          obtain ⟨ha, hb⟩ := ih _ _ _ (by omega) (by rw [hdd, List.drop_drop]) e
          refine ⟨fun y hy => ?_, List.Pairwise.cons (fun y hy => ?_) hb⟩
          · rcases List.mem_cons.1 hy with rfl | hy
            · refine ⟨hgd, by omega, by omega, fun _ => ?_⟩
              rw [h5.1, ← hdd]; rw [List.length_drop] at h5; exact ⟨by omega, h5.2.2⟩
            · have := ha y hy; exact ⟨this.1, by have := this.2.1; omega, this.2.2⟩
          · have := (ha y hy).2.1; omega
def Lx.inL (L t : List UInt8) : Bool := (List.range (L.length + 1)).any fun i => decide ((L.drop i).take (t.length + 2) = 32 :: t ++ [32])
def Lx.between (ws : List (List UInt8)) : List UInt8 := 32 :: ws.flatMap fun w => w ++ [32]
theorem Lx.take_blank (w t r : List UInt8) (hw : (32 : UInt8) ∉ w) (ht : (32 : UInt8) ∉ t) (h : (w ++ 32 :: r).take (t.length + 1) = t ++ [32]) : w = t := by
  induction w generalizing t with
  | nil =>
    cases t with
    | nil => rfl
    | cons a t => simp at h; exact absurd (by rw [h.1]; simp) ht
  | cons c w ih =>
    cases t with
    | nil => simp at h; exact absurd (by rw [h]; simp) hw
    | cons a t =>
      simp only [List.cons_append, List.length_cons, List.take_succ_cons, List.cons.injEq] at h
      rw [h.1, ih t (fun g => hw (List.mem_cons_of_mem _ g)) (fun g => ht (List.mem_cons_of_mem _ g)) h.2]
theorem Lx.flat_of (ws : List (List UInt8)) (t : List UInt8) (i : Nat) (hw : ∀ w ∈ ws, (32 : UInt8) ∉ w) (ht : (32 : UInt8) ∉ t) (h : ((Lx.between ws).drop i).take (t.length + 2) = 32 :: t ++ [32]) : t ∈ ws := by
  induction ws generalizing i with
  | nil =>
    unfold Lx.between at h
    cases i with
    | zero => simp at h
    | succ i => simp at h
  | cons w ws ih =>
    have e : Lx.between (w :: ws) = 32 :: w ++ Lx.between ws := by unfold Lx.between; simp
    rw [e] at h
    cases i with
    | zero =>
      have hb : Lx.between ws = 32 :: ws.flatMap fun w => w ++ [32] := rfl
      rw [List.drop_zero, hb] at h
      simp only [List.cons_append, List.take_succ_cons, List.cons.injEq, true_and] at h
      rw [Lx.take_blank w t _ (hw w (List.mem_cons_self ..)) ht h]
      exact List.mem_cons_self ..
    | succ i =>
      rw [List.cons_append, List.drop_succ_cons] at h
      by_cases hi : i < w.length
      · rw [List.drop_append_of_le_length (by omega)] at h
        cases g : w.drop i with
        | nil => have := List.drop_eq_nil_iff.1 g; omega
        | cons a u =>
          rw [g] at h
          simp only [List.cons_append, List.take_succ_cons, List.cons.injEq] at h
          have : a ∈ w := List.mem_of_mem_drop (i := i) (by rw [g]; exact List.mem_cons_self ..)
          rw [h.1] at this
          exact absurd this (hw w (List.mem_cons_self ..))
      · rw [List.drop_append, List.drop_of_length_le (by omega), List.nil_append] at h
        exact List.mem_cons_of_mem _ (ih _ (fun v hv => hw v (List.mem_cons_of_mem _ hv)) h)
theorem Lx.flat_in (ws : List (List UInt8)) (t : List UInt8) (h : t ∈ ws) : ∃ i, i ≤ (Lx.between ws).length ∧ ((Lx.between ws).drop i).take (t.length + 2) = 32 :: t ++ [32] := by
  induction ws with
  | nil => cases h
  | cons w ws ih =>
    have e : Lx.between (w :: ws) = 32 :: w ++ Lx.between ws := by unfold Lx.between; simp
    rw [e]
    rcases List.mem_cons.1 h with rfl | h
    · refine ⟨0, Nat.zero_le _, ?_⟩
      have hb : Lx.between ws = 32 :: ws.flatMap fun w => w ++ [32] := rfl
      rw [List.drop_zero, hb, List.cons_append, List.take_succ_cons, List.cons_append, List.take_append, List.take_of_length_le (by omega), show t.length + 1 - t.length = 1 from by omega]; rfl
    · obtain ⟨i, hi, g⟩ := ih h
      refine ⟨i + (32 :: w).length, by rw [List.length_append]; omega, ?_⟩
      rw [List.drop_append, List.drop_of_length_le (by omega), List.nil_append, show i + (32 :: w).length - (32 :: w).length = i from by omega, g]
theorem Lx.inL_is (ws : List (List UInt8)) (t : List UInt8) (hw : ∀ w ∈ ws, (32 : UInt8) ∉ w) (ht : (32 : UInt8) ∉ t) : Lx.inL (Lx.between ws) t = ws.contains t := by
  rw [Bool.eq_iff_iff, List.contains_iff_mem]
  unfold Lx.inL
  rw [List.any_eq_true]
  constructor
  · rintro ⟨i, -, h⟩; exact Lx.flat_of ws t i hw ht (by simpa using h)
  · intro h
    obtain ⟨i, hi, g⟩ := Lx.flat_in ws t h
    exact ⟨i, by rw [List.mem_range]; omega, by simpa using g⟩
theorem Lx.inL_words (t : List UInt8) (h : t.all Lx.wordy = true) : Lx.inL (Lx.between Lx.words) t = Lx.words.contains t :=
  Lx.inL_is _ _ (by decide) (fun g => by rw [List.all_eq_true] at h; exact absurd (h 32 g) (by decide))
def Lx.twosL : List (List UInt8) := Lx.twos.map fun p => [p.1, p.2]
def Lx.onesL : List (List UInt8) := Lx.ones.map fun c => [c]
theorem Lx.inL_two (a b : UInt8) (ha : a ≠ 32) : Lx.inL (Lx.between Lx.twosL) [a, b] = Lx.twos.contains (a, b) := by
  by_cases hb : b = 32
  · subst hb
    have h1 : Lx.twos.contains (a, 32) = false := by simp [Lx.twos]
    rw [h1]
    unfold Lx.inL
    rw [List.any_eq_false]
    intro i hi h
    have h := of_decide_eq_true h
    have hd : ∀ j, j < 20 → (((Lx.between Lx.twosL).drop j).drop 2).take 2 ≠ [32, 32] := by decide
    have hl : i < 20 := by rw [List.mem_range] at hi; exact hi
    have := congrArg (fun l => (l.drop 2).take 2) h
    simp only [List.drop_take, List.length_cons, List.length_nil] at this
    exact hd i hl (by simpa [List.take_take] using this)
  · rw [Lx.inL_is _ _ (by decide) (by simp; exact ⟨fun e => ha e.symm, fun e => hb e.symm⟩), Bool.eq_iff_iff, List.contains_iff_mem, List.contains_iff_mem]
    simp [Lx.twosL]
theorem Lx.inL_one (a : UInt8) (ha : a ≠ 32) : Lx.inL (Lx.between Lx.onesL) [a] = Lx.ones.contains a := by
  rw [Lx.inL_is _ _ (by decide) (by simp; exact fun e => ha e.symm), Bool.eq_iff_iff, List.contains_iff_mem, List.contains_iff_mem]
  simp [Lx.onesL]
end Go.Proofs.YtjfdcnggnldgdaaGreatDoor
end
section
set_option linter.unusedVariables false
set_option linter.unusedSimpArgs false
namespace Go.Proofs.YtjfdcnggnldgdaaGreatDoor

/-- an expression -/
inductive Sx.E where
  | mk (kind pos num : Int) (name : List UInt8) (args : List Sx.E)
structure Sx.Ty where
  elem : Int
  len : Int
  label : Int
  deriving DecidableEq
/-- a statement -/
inductive Sx.S where
  | mk (kind pos most : Int) (name : List UInt8) (ty : Sx.Ty) (args : List Sx.E) (body els : List Sx.S) (has : Bool)
structure Sx.Pa where
  pos : Int
  name : List UInt8
  ty : Sx.Ty
  out : Bool
structure Sx.F where
  pos : Int
  name : List UInt8
  params : List Sx.Pa
  has : Bool
  result : Sx.Ty
  body : List Sx.S
/-- a reader's state: how many tokens are read, how many nests are open, and the first error (0: none) -/
structure Sx.R where
  at' : Nat
  opn : Int
  err : Int
  pos : Int
  deriving DecidableEq
def Sx.tk (L : List Lx.Tok) (σ : Sx.R) : Lx.Tok := L.getD σ.at' ⟨0, 0, 0, []⟩
def Sx.text (L : List Lx.Tok) (σ : Sx.R) : List UInt8 := if (Sx.tk L σ).kind = 3 ∨ (Sx.tk L σ).kind = 4 then (Sx.tk L σ).text else []
def Sx.wrong (L : List Lx.Tok) (e : Int) (σ : Sx.R) : Sx.R := if σ.err = 0 then { σ with err := e, pos := (Sx.tk L σ).pos } else σ
def Sx.eat (L : List Lx.Tok) (s : List UInt8) (σ : Sx.R) : Sx.R := if σ.err ≠ 0 then σ else if Sx.text L σ ≠ s then Sx.wrong L 10 σ else { σ with at' := σ.at' + 1 }
def Sx.sees (L : List Lx.Tok) (s : List UInt8) (σ : Sx.R) : Bool := decide (σ.err = 0) && decide (Sx.text L σ = s)
def Sx.may (L : List Lx.Tok) (s : List UInt8) (σ : Sx.R) : Bool × Sx.R := if Sx.sees L s σ then (true, { σ with at' := σ.at' + 1 }) else (false, σ)
def Sx.nest (L : List Lx.Tok) (s : List UInt8) (σ : Sx.R) : Sx.R :=
  let σ := Sx.eat L s (if Sx.sees L s σ && decide (64 ≤ σ.opn) then Sx.wrong L 11 σ else σ)
  { σ with opn := σ.opn + 1 }
def Sx.unnest (L : List Lx.Tok) (s : List UInt8) (σ : Sx.R) : Sx.R :=
  let σ := Sx.eat L s σ
  { σ with opn := σ.opn - 1 }
def Sx.noTok : Lx.Tok := ⟨0, 0, 0, []⟩
def Sx.some (L : List Lx.Tok) (kind : Int) (σ : Sx.R) : Lx.Tok × Sx.R :=
  if σ.err ≠ 0 then (Sx.noTok, σ) else if (Sx.tk L σ).kind ≠ kind then (Sx.noTok, Sx.wrong L 10 σ) else (Sx.tk L σ, { σ with at' := σ.at' + 1 })
def Sx.wSec : List UInt8 := [115, 101, 99]
def Sx.wPub : List UInt8 := [112, 117, 98]
def Sx.wOut : List UInt8 := [111, 117, 116]
def Sx.wMask : List UInt8 := [109, 97, 115, 107]
def Sx.wU8 : List UInt8 := [117, 56]
def Sx.wU32 : List UInt8 := [117, 51, 50]
def Sx.wFn : List UInt8 := [102, 110]
def Sx.wLet : List UInt8 := [108, 101, 116]
def Sx.wVar : List UInt8 := [118, 97, 114]
def Sx.wIf : List UInt8 := [105, 102]
def Sx.wElse : List UInt8 := [101, 108, 115, 101]
def Sx.wFor : List UInt8 := [102, 111, 114]
def Sx.wMax : List UInt8 := [109, 97, 120]
def Sx.wRet : List UInt8 := [114, 101, 116, 117, 114, 110]
def Sx.wMulhi : List UInt8 := [109, 117, 108, 104, 105]
def Sx.wCarry : List UInt8 := [99, 97, 114, 114, 121]
def Sx.wSelect : List UInt8 := [115, 101, 108, 101, 99, 116]
def Sx.wWord : List UInt8 := [119, 111, 114, 100]
def Sx.wRor : List UInt8 := [114, 111, 114]
def Sx.label (L : List Lx.Tok) (σ : Sx.R) : Int × Sx.R :=
  if (Sx.may L Sx.wSec σ).1 then (1, (Sx.may L Sx.wSec σ).2) else (0, Sx.eat L Sx.wPub (Sx.may L Sx.wSec σ).2)
/-- the brackets of an array's type, and its number -/
def Sx.brackets (L : List Lx.Tok) (σ : Sx.R) : Int × Sx.R :=
  let σ := Sx.eat L [91] σ
  let σ := if (Sx.tk L σ).num = 0 then Sx.wrong L 10 σ else σ
  let p := Sx.some L 2 σ
  (p.1.num, Sx.eat L [93] p.2)
def Sx.type (L : List Lx.Tok) (scalar : Bool) (label : Int) (σ : Sx.R) : Sx.Ty × Sx.R :=
  if (Sx.may L Sx.wMask σ).1 then (⟨1, 0, label⟩, (Sx.may L Sx.wMask σ).2)
  else
    let σ := (Sx.may L Sx.wMask σ).2
    if !scalar && (Sx.may L Sx.wU8 σ).1 then
      let p := Sx.brackets L (Sx.may L Sx.wU8 σ).2
      (⟨2, p.1, label⟩, p.2)
    else
      let σ := Sx.eat L Sx.wU32 σ
      if !scalar && Sx.sees L [91] σ then
        let p := Sx.brackets L σ
        (⟨0, p.1, label⟩, p.2)
      else (⟨0, 0, label⟩, σ)
def Sx.param (L : List Lx.Tok) (σ : Sx.R) : Sx.Pa × Sx.R :=
  let o := Sx.may L Sx.wOut σ
  let l := Sx.label L o.2
  let n := Sx.some L 1 l.2
  let t := Sx.type L false l.1 (Sx.eat L [58] n.2)
  (⟨n.1.pos, n.1.text, t.1, o.1⟩, t.2)
/-- how tight a sign binds, and its kind -/
def Sx.tights : List (List UInt8 × Nat × Int) :=
  [([61, 61], 1, 17), ([33, 61], 1, 18), ([60], 1, 19), ([60, 61], 1, 20), ([62], 1, 21), ([62, 61], 1, 22), ([124], 2, 12), ([94], 3, 13), ([38], 4, 11), ([60, 60], 5, 14), ([62, 62], 5, 15), ([43], 6, 8), ([45], 6, 9), ([42], 7, 10)]
def Sx.tight (s : List UInt8) : Nat × Int := match Sx.tights.find? (fun x => x.1 == s) with | .some x => x.2 | none => (0, 0)
def Sx.wordsE : List (List UInt8 × Int × Nat) := [(Sx.wMulhi, 23, 2), (Sx.wCarry, 24, 2), (Sx.wSelect, 25, 3), (Sx.wWord, 26, 1), (Sx.wRor, 16, 1)]
def Sx.noE : Sx.E := .mk 0 0 0 [] []
mutual
/-- an expression of signs that bind tighter than a number -/
def Sx.expr (L : List Lx.Tok) : Nat → Nat → Sx.R → Sx.E × Sx.R
  | 0, _, σ => (Sx.noE, σ)
  | f + 1, than, σ =>
    let u := Sx.unary L f σ
    Sx.signs L f than 7 false u.1 u.2
/-- the signs behind an expression -/
def Sx.signs (L : List Lx.Tok) : Nat → Nat → Nat → Bool → Sx.E → Sx.R → Sx.E × Sx.R
  | 0, _, _, _, x, σ => (x, σ)
  | f + 1, than, most, compared, x, σ =>
    if σ.err ≠ 0 then (x, σ)
    else
      let t := Sx.tight (Sx.text L σ)
      if t.1 ≤ than ∨ most < t.1 ∨ (t.1 = 1 ∧ compared = true) then (x, σ)
      else
        let pos : Int := (Sx.tk L σ).pos
        let σ1 : Sx.R := { σ with at' := σ.at' + 1 }
        if t.1 = 5 then
          let n := Sx.some L 2 σ1
          Sx.signs L f than 5 (compared || decide (t.1 = 1)) (.mk t.2 pos n.1.num [] [x]) n.2
        else
          let y := Sx.expr L f t.1 σ1
          Sx.signs L f than t.1 (compared || decide (t.1 = 1)) (.mk t.2 pos 0 [] [x, y.1]) y.2
def Sx.unary (L : List Lx.Tok) : Nat → Sx.R → Sx.E × Sx.R
  | 0, σ => (Sx.noE, σ)
  | f + 1, σ =>
    if σ.err ≠ 0 then (Sx.noE, σ)
    else
      let s := Sx.text L σ
      let pos : Int := (Sx.tk L σ).pos
      if s = [40] then
        let y := Sx.expr L f 0 (Sx.nest L [40] σ)
        (y.1, Sx.unnest L [41] y.2)
      else if s = [126] ∨ s = [45] ∨ s = [33] then
        let y := Sx.unary L f (Sx.nest L s σ)
        (.mk (if s = [126] then 5 else if s = [45] then 6 else 7) pos 0 [] [y.1], { y.2 with opn := y.2.opn - 1 })
      else Sx.word L f s σ
/-- a number, a name, or what a word of the language makes -/
def Sx.word (L : List Lx.Tok) : Nat → List UInt8 → Sx.R → Sx.E × Sx.R
  | 0, _, σ => (Sx.noE, σ)
  | f + 1, s, σ =>
    let t := Sx.tk L σ
    match Sx.wordsE.find? (fun x => x.1 == s) with
    | .some w =>
      let a := Sx.many L f w.2.2 true (Sx.nest L [40] { σ with at' := σ.at' + 1 })
      if s = Sx.wRor then
        let n := Sx.some L 2 (Sx.eat L [44] a.2)
        (.mk w.2.1 t.pos n.1.num [] a.1, Sx.unnest L [41] n.2)
      else (.mk w.2.1 t.pos 0 [] a.1, Sx.unnest L [41] a.2)
    | none =>
      if t.kind = 2 then (.mk 1 t.pos t.num [] [], { σ with at' := σ.at' + 1 })
      else
        let n := Sx.some L 1 σ
        Sx.behind L f n.1 n.2
/-- so many expressions, with a comma ahead of each but the first -/
def Sx.many (L : List Lx.Tok) : Nat → Nat → Bool → Sx.R → List Sx.E × Sx.R
  | 0, _, _, σ => ([], σ)
  | f + 1, 0, _, σ => ([], σ)
  | f + 1, n + 1, first, σ =>
    let x := Sx.expr L f 0 (if first then σ else Sx.eat L [44] σ)
    let r := Sx.many L f n false x.2
    (x.1 :: r.1, r.2)
/-- a name, with what is handed to it, or its index -/
def Sx.behind (L : List Lx.Tok) : Nat → Lx.Tok → Sx.R → Sx.E × Sx.R
  | 0, _, σ => (Sx.noE, σ)
  | f + 1, name, σ =>
    if Sx.sees L [40] σ then
      let σ := Sx.nest L [40] σ
      if Sx.sees L [41] σ then (.mk 4 name.pos 0 name.text [], Sx.unnest L [41] σ)
      else
        let x := Sx.expr L f 0 σ
        let r := Sx.commas L f x.2
        (.mk 4 name.pos 0 name.text (x.1 :: r.1), Sx.unnest L [41] r.2)
    else if Sx.sees L [91] σ then
      let x := Sx.expr L f 0 (Sx.nest L [91] σ)
      (.mk 3 name.pos 0 name.text [x.1], Sx.unnest L [93] x.2)
    else (.mk 2 name.pos 0 name.text [], σ)
/-- expressions, each behind a comma -/
def Sx.commas (L : List Lx.Tok) : Nat → Sx.R → List Sx.E × Sx.R
  | 0, σ => ([], σ)
  | f + 1, σ =>
    if (Sx.may L [44] σ).1 then
      let x := Sx.expr L f 0 (Sx.may L [44] σ).2
      let r := Sx.commas L f x.2
      (x.1 :: r.1, r.2)
    else ([], (Sx.may L [44] σ).2)
end
def Sx.noTy : Sx.Ty := ⟨0, 0, 0⟩
/-- how much fuel serves at a place: each token may be met by each level -/
def Sx.fuel (L : List Lx.Tok) : Nat := 16 * L.length + 16
def Sx.ex (L : List Lx.Tok) (σ : Sx.R) : Sx.E × Sx.R := Sx.expr L (Sx.fuel L) 0 σ
def Sx.value (L : List Lx.Tok) (l : List Sx.E) (σ : Sx.R) : List Sx.E × Sx.R :=
  let x := Sx.ex L σ
  (l ++ [x.1], Sx.eat L [59] x.2)
def Sx.E.args : Sx.E → List Sx.E
  | .mk _ _ _ _ l => l
def Sx.named (L : List Lx.Tok) (pos : Int) (σ : Sx.R) : Sx.S × Sx.R :=
  let n := Sx.some L 1 σ
  if Sx.sees L [40] n.2 then
    let x := Sx.behind L (Sx.fuel L) n.1 n.2
    (.mk 7 pos 0 [] Sx.noTy [x.1] [] [] false, Sx.eat L [59] x.2)
  else if Sx.sees L [91] n.2 then
    let x := Sx.behind L (Sx.fuel L) n.1 n.2
    let v := Sx.value L x.1.args (Sx.eat L [61] x.2)
    (.mk 4 pos 0 n.1.text Sx.noTy v.1 [] [] false, v.2)
  else
    let v := Sx.value L [] (Sx.eat L [61] n.2)
    (.mk 3 pos 0 n.1.text Sx.noTy v.1 [] [] false, v.2)
mutual
def Sx.block (L : List Lx.Tok) : Nat → Sx.R → List Sx.S × Sx.R
  | 0, σ => ([], σ)
  | f + 1, σ =>
    let r := Sx.stmts L f (Sx.nest L [123] σ)
    (r.1, Sx.unnest L [125] r.2)
def Sx.stmts (L : List Lx.Tok) : Nat → Sx.R → List Sx.S × Sx.R
  | 0, σ => ([], σ)
  | f + 1, σ =>
    if decide (σ.err = 0) && !Sx.sees L [125] σ then
      let x := Sx.stmt L f σ
      let r := Sx.stmts L f x.2
      (x.1 :: r.1, r.2)
    else ([], σ)
def Sx.stmt (L : List Lx.Tok) : Nat → Sx.R → Sx.S × Sx.R
  | 0, σ => (.mk 0 0 0 [] Sx.noTy [] [] [] false, σ)
  | f + 1, σ =>
    let pos : Int := (Sx.tk L σ).pos
    if (Sx.may L Sx.wLet σ).1 then
      let n := Sx.some L 1 (Sx.may L Sx.wLet σ).2
      let v := Sx.value L [] (Sx.eat L [61] n.2)
      (.mk 1 pos 0 n.1.text Sx.noTy v.1 [] [] false, v.2)
    else if (Sx.may L Sx.wVar σ).1 then
      let l := Sx.label L (Sx.may L Sx.wVar σ).2
      let n := Sx.some L 1 l.2
      let t := Sx.type L false l.1 (Sx.eat L [58] n.2)
      (.mk 2 pos 0 n.1.text t.1 [] [] [] false, Sx.eat L [59] t.2)
    else if (Sx.may L Sx.wIf σ).1 then
      let c := Sx.ex L (Sx.may L Sx.wIf σ).2
      let b := Sx.block L f c.2
      if (Sx.may L Sx.wElse b.2).1 then
        let e := Sx.block L f (Sx.may L Sx.wElse b.2).2
        (.mk 5 pos 0 [] Sx.noTy [c.1] b.1 e.1 true, e.2)
      else (.mk 5 pos 0 [] Sx.noTy [c.1] b.1 [] false, (Sx.may L Sx.wElse b.2).2)
    else if (Sx.may L Sx.wFor σ).1 then
      let n := Sx.some L 1 (Sx.may L Sx.wFor σ).2
      let c := Sx.ex L (Sx.eat L [60] n.2)
      let m := Sx.some L 2 (Sx.eat L Sx.wMax c.2)
      let b := Sx.block L f m.2
      (.mk 6 pos m.1.num n.1.text Sx.noTy [c.1] b.1 [] false, b.2)
    else if (Sx.may L Sx.wRet σ).1 then
      let v := Sx.value L [] (Sx.may L Sx.wRet σ).2
      (.mk 8 pos 0 [] Sx.noTy v.1 [] [] false, v.2)
    else Sx.named L pos σ
end
def Sx.params (L : List Lx.Tok) : Nat → Sx.R → List Sx.Pa × Sx.R
  | 0, σ => ([], σ)
  | f + 1, σ =>
    if (Sx.may L [44] σ).1 then
      let x := Sx.param L (Sx.may L [44] σ).2
      let r := Sx.params L f x.2
      (x.1 :: r.1, r.2)
    else ([], (Sx.may L [44] σ).2)
/-- parameters, between the parentheses -/
def Sx.plist (L : List Lx.Tok) (σ : Sx.R) : List Sx.Pa × Sx.R :=
  if Sx.sees L [41] σ then ([], σ) else
    let x := Sx.param L σ
    let r := Sx.params L (Sx.fuel L) x.2
    (x.1 :: r.1, r.2)
/-- a result's type, if there is one -/
def Sx.res (L : List Lx.Tok) (c : Bool × Sx.R) : Sx.Ty × Sx.R :=
  if c.1 then
    let l := Sx.label L c.2
    Sx.type L true l.1 l.2
  else (Sx.noTy, c.2)
def Sx.function (L : List Lx.Tok) (σ : Sx.R) : Sx.F × Sx.R :=
  let n := Sx.some L 1 (Sx.eat L Sx.wFn σ)
  let ps := Sx.plist L (Sx.eat L [40] n.2)
  let c := Sx.may L [58] (Sx.eat L [41] ps.2)
  let res := Sx.res L c
  let b := Sx.block L (Sx.fuel L) res.2
  (⟨n.1.pos, n.1.text, ps.1, c.1, res.1, b.1⟩, b.2)
def Sx.functions (L : List Lx.Tok) : Nat → Sx.R → List Sx.F × Sx.R
  | 0, σ => ([], σ)
  | f + 1, σ =>
    if decide (σ.err = 0) && decide ((Sx.tk L σ).kind ≠ 0) then
      let x := Sx.function L σ
      let r := Sx.functions L f x.2
      (x.1 :: r.1, r.2)
    else ([], σ)
def Sx.start : Sx.R := ⟨0, 0, 0, 0⟩
/-- a text as a program, or the error and its place -/
def Sx.parse (s : List UInt8) : Except (Int × Int) (List Sx.F) :=
  match Lx.lex s with
  | .error (e, n) => .error (e, n)
  | .ok L =>
    let r := Sx.functions L (Sx.fuel L) Sx.start
    if r.2.err = 0 then .ok r.1 else .error (r.2.err, r.2.pos)
end Go.Proofs.YtjfdcnggnldgdaaGreatDoor
end
section
namespace Go.Proofs.YtjfdcnggnldgdaaGreatDoor
open Go.ChangeShapes Go.WideShapes Go.ChangeAt Go.RowKit
set_option linter.unusedVariables false
set_option linter.unusedSimpArgs false

/-- a text of bytes -/
def Lx.S (l : List UInt8) : ByteArray := ⟨l.toArray⟩
theorem Lx.S_list (l : List UInt8) : (Lx.S l).data.toList = l := rfl
theorem Lx.S_of (s : ByteArray) : Lx.S s.data.toList = s := by simp [Lx.S]
theorem Lx.S_size (l : List UInt8) : (Lx.S l).size = l.length := by simp [Lx.S, ByteArray.size]
theorem Lx.S_ext (s : ByteArray) (a b : Nat) : s.extract a b = Lx.S ((s.data.toList.drop a).take (b - a)) := by
  rw [← Lx.S_of s]; exact Lib.extract_mk _ a b
theorem Lx.get (s : ByteArray) (k : Nat) (h : k < s.size) : s.data.toList.drop k = s[k] :: s.data.toList.drop (k + 1) := by
  have h' : k < s.data.toList.length := by rw [← Lib.size_eq]; exact h
  rw [List.drop_eq_getElem_cons h']; rfl
theorem Lx.drop_nil (s : ByteArray) (k : Nat) (h : s.size ≤ k) : s.data.toList.drop k = [] := by
  apply List.drop_of_length_le; rw [← Lib.size_eq]; exact h
theorem ret_bool' {a b : Bool} (h : a = b) : Ending.returned (.bool a) = .returned (.bool b) := by rw [h]
theorem ret_int' {k : IntKind} {a b : Int} (h : a = b) : Ending.returned (.int k a) = .returned (.int k b) := by rw [h]
theorem ret_str' {a b : ByteArray} (h : a = b) : Ending.returned (.string a) = .returned (.string b) := by rw [h]
set_option maxHeartbeats 4000000 in
theorem digit_any (b : UInt8) (w : World) :
    Calls Tryz.prog 113 #[.int .u8 b.toNat] w fun e w' => e = .returned (.bool (Lx.digit b)) ∧ w' = w := by
  have HB := Lib.hid b.toNat_lt
  have HR : Hid (Lx.digit b = (decide (48 ≤ b.toNat) && decide (b.toNat ≤ 57))) := Lib.hid rfl
  generalize Lx.digit b = R at HR ⊢
  generalize b.toNat = n at HB HR ⊢
  have HM := Lib.hid HR
  clear HR
  by_cases h1 : 48 ≤ n
  · by_cases h2 : n ≤ 57
    all_goals
      go_enter Tryz.func113, Tryz.ntmps113
      go_wp2
      go_ret
      refine ⟨ret_bool' ?_, rfl⟩
      rw [HM.out.out, Bool.eq_iff_iff]; simp only [Bool.or_eq_true, Bool.and_eq_true, decide_eq_true_eq, Bool.false_eq_true, beq_iff_eq, true_iff, false_iff]; omega
  · go_enter Tryz.func113, Tryz.ntmps113
    go_wp2
    go_ret
    refine ⟨ret_bool' ?_, rfl⟩
    rw [HM.out.out, Bool.eq_iff_iff]; simp only [Bool.or_eq_true, Bool.and_eq_true, decide_eq_true_eq, Bool.false_eq_true, beq_iff_eq, true_iff, false_iff]; omega
set_option maxHeartbeats 4000000 in
theorem rdigit_any (b : UInt8) (w : World) :
    Calls Tryz.prog 127 #[.int .u8 b.toNat] w fun e w' => e = .returned (.bool (Lx.digit b)) ∧ w' = w := by
  have HB := Lib.hid b.toNat_lt
  have HR : Hid (Lx.digit b = (decide (48 ≤ b.toNat) && decide (b.toNat ≤ 57))) := Lib.hid rfl
  generalize Lx.digit b = R at HR ⊢
  generalize b.toNat = n at HB HR ⊢
  have HM := Lib.hid HR
  clear HR
  by_cases h1 : 48 ≤ n
  · by_cases h2 : n ≤ 57
    all_goals
      go_enter Tryz.func127, Tryz.ntmps127
      go_wp2
      go_ret
      refine ⟨ret_bool' ?_, rfl⟩
      rw [HM.out.out, Bool.eq_iff_iff]; simp only [Bool.or_eq_true, Bool.and_eq_true, decide_eq_true_eq, Bool.false_eq_true, beq_iff_eq, true_iff, false_iff]; omega
  · go_enter Tryz.func127, Tryz.ntmps127
    go_wp2
    go_ret
    refine ⟨ret_bool' ?_, rfl⟩
    rw [HM.out.out, Bool.eq_iff_iff]; simp only [Bool.or_eq_true, Bool.and_eq_true, decide_eq_true_eq, Bool.false_eq_true, beq_iff_eq, true_iff, false_iff]; omega
set_option maxHeartbeats 4000000 in
theorem letter_any (b : UInt8) (w : World) :
    Calls Tryz.prog 112 #[.int .u8 b.toNat] w fun e w' => e = .returned (.bool (Lx.letter b)) ∧ w' = w := by
  have HB := Lib.hid b.toNat_lt
  have HR : Hid (Lx.letter b = ((decide (97 ≤ b.toNat) && decide (b.toNat ≤ 122)) || (decide (65 ≤ b.toNat) && decide (b.toNat ≤ 90)) || decide (b.toNat = 95))) := Lib.hid rfl
  generalize Lx.letter b = R at HR ⊢
  generalize b.toNat = n at HB HR ⊢
  have HM := Lib.hid HR
  clear HR
  rcases (by omega : (97 ≤ n ∧ n ≤ 122) ∨ (65 ≤ n ∧ n ≤ 90) ∨ n = 95 ∨ (n < 65 ∧ n ≠ 95) ∨ (91 ≤ n ∧ n ≤ 96 ∧ n ≠ 95) ∨ 123 ≤ n) with h | h | h | h | h | h
  all_goals
    go_enter Tryz.func112, Tryz.ntmps112
    go_wp2
    go_ret
    refine ⟨ret_bool' ?_, rfl⟩
    rw [HM.out.out, Bool.eq_iff_iff]; simp only [Bool.or_eq_true, Bool.and_eq_true, decide_eq_true_eq, Bool.false_eq_true, beq_iff_eq, true_iff, false_iff]; omega
set_option maxHeartbeats 4000000 in
theorem rletter_any (b : UInt8) (w : World) :
    Calls Tryz.prog 126 #[.int .u8 b.toNat] w fun e w' => e = .returned (.bool (Lx.letter b)) ∧ w' = w := by
  have HB := Lib.hid b.toNat_lt
  have HR : Hid (Lx.letter b = ((decide (97 ≤ b.toNat) && decide (b.toNat ≤ 122)) || (decide (65 ≤ b.toNat) && decide (b.toNat ≤ 90)) || decide (b.toNat = 95))) := Lib.hid rfl
  generalize Lx.letter b = R at HR ⊢
  generalize b.toNat = n at HB HR ⊢
  have HM := Lib.hid HR
  clear HR
  rcases (by omega : (97 ≤ n ∧ n ≤ 122) ∨ (65 ≤ n ∧ n ≤ 90) ∨ n = 95 ∨ (n < 65 ∧ n ≠ 95) ∨ (91 ≤ n ∧ n ≤ 96 ∧ n ≠ 95) ∨ 123 ≤ n) with h | h | h | h | h | h
  all_goals
    go_enter Tryz.func126, Tryz.ntmps126
    go_wp2
    go_ret
    refine ⟨ret_bool' ?_, rfl⟩
    rw [HM.out.out, Bool.eq_iff_iff]; simp only [Bool.or_eq_true, Bool.and_eq_true, decide_eq_true_eq, Bool.false_eq_true, beq_iff_eq, true_iff, false_iff]; omega
set_option maxHeartbeats 4000000 in
theorem rblank_any (b : UInt8) (w : World) :
    Calls Tryz.prog 125 #[.int .u8 b.toNat] w fun e w' => e = .returned (.bool (Lx.blank b)) ∧ w' = w := by
  have HB := Lib.hid b.toNat_lt
  have HR : Hid (Lx.blank b = (decide (b.toNat = 32) || decide (b.toNat = 9) || decide (b.toNat = 10) || decide (b.toNat = 13))) := Lib.hid rfl
  generalize Lx.blank b = R at HR ⊢
  generalize b.toNat = n at HB HR ⊢
  have HM := Lib.hid HR
  clear HR
  rcases (by omega : n = 32 ∨ n = 9 ∨ n = 10 ∨ n = 13 ∨ (n ≠ 32 ∧ n ≠ 9 ∧ n ≠ 10 ∧ n ≠ 13)) with h | h | h | h | h
  all_goals
    go_enter Tryz.func125, Tryz.ntmps125
    go_wp2
    go_ret
    refine ⟨ret_bool' ?_, rfl⟩
    rw [HM.out.out, Bool.eq_iff_iff]; simp only [Bool.or_eq_true, Bool.and_eq_true, decide_eq_true_eq, Bool.false_eq_true, beq_iff_eq, true_iff, false_iff]; omega
end Go.Proofs.YtjfdcnggnldgdaaGreatDoor
end
section
set_option linter.unusedVariables false
set_option linter.unusedSimpArgs false
namespace Go.Proofs.YtjfdcnggnldgdaaGreatDoor

/-- what is left behind the first line's end -/
def Lx.aft : List UInt8 → List UInt8
  | [] => []
  | c :: r => if c = 10 then r else Lx.aft r
theorem Lx.aft_le (l : List UInt8) : (Lx.aft l).length ≤ l.length := by
  induction l with
  | nil => exact Nat.le_refl _
  | cons c r ih => rw [Lx.aft]; split <;> simp <;> omega
theorem Lx.ixb (l : List UInt8) : (Lib.indexByte l 10 = -1 ∧ Lx.aft l = []) ∨ ∃ i : Nat, Lib.indexByte l 10 = (i : Int) ∧ i < l.length ∧ Lx.aft l = l.drop (i + 1) := by
  induction l with
  | nil => exact Or.inl ⟨rfl, rfl⟩
  | cons c r ih =>
    by_cases hc : c = 10
    · exact Or.inr ⟨0, by rw [Lib.indexByte, if_pos (by simpa using hc)]; rfl, by simp, by rw [Lx.aft, if_pos hc]; rfl⟩
    · rcases ih with ⟨h1, h2⟩ | ⟨i, h1, h2, h3⟩
      · exact Or.inl ⟨by rw [Lib.indexByte, if_neg (by simpa using hc), h1]; rfl, by rw [Lx.aft, if_neg hc, h2]⟩
      · refine Or.inr ⟨i + 1, ?_, by simpa using h2, by rw [Lx.aft, if_neg hc, h3]; rfl⟩
        rw [Lib.indexByte, if_neg (by simpa using hc), h1, if_neg (by simp; try omega)]; simp
/-- what is left behind blanks and remarks -/
def Lx.left (l : List UInt8) : List UInt8 := l.drop (Lx.skip false l)
theorem Lx.left_rem (l : List UInt8) : l.drop (Lx.skip true l) = Lx.left (Lx.aft l) := by
  induction l with
  | nil => rfl
  | cons c r ih =>
    rw [Lx.skip_rem, List.drop_succ_cons, Lx.aft]
    by_cases hc : c = 10
    · rw [if_pos hc, show decide (c ≠ 10) = false from by simp [hc]]; rfl
    · rw [if_neg hc, show decide (c ≠ 10) = true from by simp [hc], ih]
theorem Lx.left_two (r : List UInt8) : Lx.left (47 :: 47 :: r) = Lx.left (Lx.aft (47 :: 47 :: r)) := by
  rw [Lx.left, Lx.skip_two ⟨rfl, rfl⟩, List.drop_succ_cons, Lx.left_rem]; rfl
theorem Lx.left_trim (l : List UInt8) : Lx.left (l.dropWhile Lx.blank) = Lx.left l := by
  induction l with
  | nil => rfl
  | cons c r ih =>
    rw [List.dropWhile_cons]
    split
    · rename_i hb
      have hn : ¬ (c = 47 ∧ r.head? = some 47) := fun h => by rw [h.1] at hb; exact absurd hb (by decide)
      rw [ih]
      conv => rhs; rw [Lx.left, Lx.skip_blank hn hb, List.drop_succ_cons]
      rfl
    · rfl
theorem Lx.left_stop (l : List UInt8) (hb : ∀ c r, l = c :: r → Lx.blank c = false) (hp : ([47, 47] : List UInt8).isPrefixOf l = false) : Lx.left l = l := by
  cases l with
  | nil => rfl
  | cons c r =>
    rw [Lx.left, Lx.skip_tok (fun h => ?_) (hb c r rfl)]; rfl
    obtain ⟨rfl, h2⟩ := h
    cases r with
    | nil => simp at h2
    | cons d r => simp at h2; subst h2; simp [List.isPrefixOf] at hp
theorem Lx.trim_head (l : List UInt8) : ∀ c r, l.dropWhile Lx.blank = c :: r → Lx.blank c = false := by
  induction l with
  | nil => intro c r h; cases h
  | cons d l ih =>
    intro c r h
    rw [List.dropWhile_cons] at h
    split at h
    · exact ih c r h
    · rename_i hb; cases h; simpa using hb
theorem Lx.pre_two {l : List UInt8} (h : ([47, 47] : List UInt8).isPrefixOf l = true) : ∃ r, l = 47 :: 47 :: r := by
  rcases l with _ | ⟨a, _ | ⟨b, r⟩⟩ <;> simp [List.isPrefixOf] at h
  exact ⟨r, by rw [← h.1, ← h.2]⟩
theorem Lx.trim_le (l : List UInt8) : (l.dropWhile Lx.blank).length ≤ l.length := (List.dropWhile_sublist _).length_le
theorem Lx.left_le (l : List UInt8) : (Lx.left l).length ≤ l.length := by unfold Lx.left; simp
/-- the signs, longer ones ahead -/
def Lx.signs : List (List UInt8) := Lx.twos.map (fun p => [p.1, p.2]) ++ Lx.ones.map (fun c => [c])
def Lx.signIn (L : List (List UInt8)) (l : List UInt8) : List UInt8 := (L.find? fun x => x.isPrefixOf l).getD []
theorem Lx.signs_is (l : List UInt8) : Lx.signIn Lx.signs l = l.take (Lx.sign l) := by
  rcases l with _ | ⟨a, r⟩
  · decide
  · have h1 : ∀ (M : List UInt8) (l : List UInt8), l = a :: r → Lx.signIn (M.map fun c => [c]) l = if M.contains a then [a] else [] := by
      intro M l hl
      subst hl
      unfold Lx.signIn
      induction M with
      | nil => rfl
      | cons c M ih =>
        rw [List.map_cons, List.find?_cons]
        by_cases hc : c = a
        · subst hc; simp [List.isPrefixOf]
        · rw [show ([c] : List UInt8).isPrefixOf (a :: r) = false from by simp [List.isPrefixOf, hc]]
          simp only [ih, List.contains_cons, show (a == c) = false from by simpa using fun h => hc h.symm, Bool.false_or]
    have ha : ∀ (L M : List (List UInt8)) (l : List UInt8), Lx.signIn (L ++ M) l = if (L.find? fun x => x.isPrefixOf l).isSome then Lx.signIn L l else Lx.signIn M l := by
      intro L M l
      unfold Lx.signIn
      rw [List.find?_append]
      cases L.find? fun x => x.isPrefixOf l <;> rfl
    have h2 : ∀ (M : List (UInt8 × UInt8)) (b : UInt8) (r' : List UInt8), ((M.map fun p => [p.1, p.2]).find? fun x => x.isPrefixOf (a :: b :: r')) = if M.contains (a, b) then some [a, b] else none := by
      intro M b r'
      induction M with
      | nil => rfl
      | cons c M ih =>
        rw [List.map_cons, List.find?_cons]
        by_cases hc : c = (a, b)
        · subst hc; simp [List.isPrefixOf]
        · have hp : ([c.1, c.2] : List UInt8).isPrefixOf (a :: b :: r') = false := by
            obtain ⟨x, y⟩ := c
            simp only [List.isPrefixOf, Bool.and_true]
            by_cases hx : x = a
            · subst hx
              have : ¬ y = b := fun h => hc (by rw [h])
              simp [this]
            · simp [hx]
          rw [hp]
          simp only [ih, List.contains_cons, show ((a, b) == c) = false from by simpa using fun h => hc h.symm, Bool.false_or]
    unfold Lx.signs
    rw [ha]
    cases r with
    | nil =>
      have h0 : ((Lx.twos.map fun p => [p.1, p.2]).find? fun x => x.isPrefixOf [a]) = none := by
        rw [List.find?_eq_none]
        intro x hx
        obtain ⟨p, _, rfl⟩ := List.mem_map.1 hx
        simp [List.isPrefixOf]
      rw [h0, h1 _ _ rfl]
      rw [Lx.sign]
      simp only [Option.isSome_none, Bool.false_eq_true, if_false]
      split <;> rfl
    | cons b r =>
      unfold Lx.signIn
      rw [h2]
      rw [Lx.sign]
      by_cases ht : Lx.twos.contains (a, b) = true
      · rw [if_pos ht, if_pos ht]; rfl
      · rw [if_neg ht, if_neg ht]
        have := h1 Lx.ones _ rfl
        unfold Lx.signIn at this
        simp only [Option.isSome_none, Bool.false_eq_true, if_false, this]
        split <;> rfl
end Go.Proofs.YtjfdcnggnldgdaaGreatDoor
end
