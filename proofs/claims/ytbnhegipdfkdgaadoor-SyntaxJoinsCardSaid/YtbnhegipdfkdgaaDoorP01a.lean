/-
Plain mathematics of layer 11: a text as tokens. It names nothing of the translated program's numbers.
-/
import Derived.WalkKit
set_option linter.unusedVariables false
set_option linter.unusedSimpArgs false
namespace Go.Proofs.YtbnhegipdfkdgaaDoor

/-- a token -/
structure Lx.Tok where
  kind : Int
  pos : Nat
  num : Int
  text : List UInt8
  deriving DecidableEq
def Lx.blank (c : UInt8) : Bool := decide (c.toNat = 32) || decide (c.toNat = 9) || decide (c.toNat = 10) || decide (c.toNat = 13)
def Lx.letter (c : UInt8) : Bool := (decide (97 ≤ c.toNat) && decide (c.toNat ≤ 122)) || (decide (65 ≤ c.toNat) && decide (c.toNat ≤ 90)) || decide (c.toNat = 95)
def Lx.digit (c : UInt8) : Bool := decide (48 ≤ c.toNat) && decide (c.toNat ≤ 57)
def Lx.wordy (c : UInt8) : Bool := Lx.letter c || Lx.digit c
/-- how many bytes of blanks and remarks stand ahead (in a remark, or not) -/
def Lx.skip : Bool → List UInt8 → Nat
  | _, [] => 0
  | true, c :: r => Lx.skip (decide (c ≠ 10)) r + 1
  | false, c :: r => if c = 47 ∧ r.head? = some 47 then Lx.skip true r + 1 else if Lx.blank c then Lx.skip false r + 1 else 0
def Lx.run (l : List UInt8) : List UInt8 := l.takeWhile Lx.wordy
def Lx.hex (c : UInt8) : Bool := Lx.digit c || (decide (97 ≤ c.toNat) && decide (c.toNat ≤ 102))
def Lx.hval (c : UInt8) : Nat := if Lx.digit c then c.toNat - 48 else c.toNat - 87
def Lx.val (b : Nat) (l : List UInt8) : Nat := l.foldl (fun n c => n * b + Lx.hval c) 0
/-- a number's value; -1: it is none -/
def Lx.num (l : List UInt8) : Int :=
  if l.take 2 = [48, 120] then (if (l.drop 2).length ≤ 8 ∧ l.drop 2 ≠ [] ∧ (l.drop 2).all Lx.hex = true then (Lx.val 16 (l.drop 2) : Int) else -1)
  else if l ≠ [] ∧ l.length ≤ 10 ∧ (1 < l.length → l.head? ≠ some 48) ∧ l.all Lx.digit = true ∧ Lx.val 10 l < 4294967296 then (Lx.val 10 l : Int) else -1
def Lx.twos : List (UInt8 × UInt8) := [(60, 60), (62, 62), (61, 61), (33, 61), (60, 61), (62, 61)]
def Lx.ones : List UInt8 := [40, 41, 123, 125, 91, 93, 44, 59, 58, 61, 43, 45, 42, 38, 124, 94, 126, 33, 60, 62]
def Lx.sign : List UInt8 → Nat
  | [] => 0
  | [a] => if Lx.ones.contains a then 1 else 0
  | a :: b :: _ => if Lx.twos.contains (a, b) then 2 else if Lx.ones.contains a then 1 else 0
def Lx.words : List (List UInt8) := [[102, 110], [112, 117, 98], [115, 101, 99], [111, 117, 116], [108, 101, 116], [118, 97, 114], [105, 102], [101, 108, 115, 101], [102, 111, 114], [109, 97, 120], [114, 101, 116, 117, 114, 110], [117, 51, 50], [117, 56], [109, 97, 115, 107], [109, 117, 108, 104, 105], [99, 97, 114, 114, 121], [115, 101, 108, 101, 99, 116], [119, 111, 114, 100], [114, 111, 114]]
/-- the token that begins here, and how many bytes it has; 0: it is none -/
def Lx.one (p : Nat) (l : List UInt8) : Lx.Tok × Nat :=
  match l with
  | [] => (⟨0, p, 0, []⟩, 0)
  | c :: r =>
    if Lx.letter c then (⟨if Lx.words.contains (Lx.run l) then 3 else 1, p, 0, Lx.run l⟩, if (Lx.run l).length ≤ 40 then (Lx.run l).length else 0)
    else if Lx.digit c then (⟨2, p, Lx.num (Lx.run l), []⟩, if 0 ≤ Lx.num (Lx.run l) then (Lx.run l).length else 0)
    else (⟨4, p, 0, l.take (Lx.sign l)⟩, Lx.sign l)
def Lx.push (x : Lx.Tok) : Except Nat (List Lx.Tok) → Except Nat (List Lx.Tok)
  | .error q => .error q
  | .ok ts => .ok (x :: ts)
def Lx.join (a b : Except Nat (List Lx.Tok)) : Except Nat (List Lx.Tok) :=
  match a with
  | .error q => .error q
  | .ok ts => match b with
    | .error q => .error q
    | .ok us => .ok (ts ++ us)
/-- the tokens from a place on, or the place of what is none -/
def Lx.toks : Nat → Nat → List UInt8 → Except Nat (List Lx.Tok)
  | 0, p, _ => .error p
  | f + 1, p, l =>
    if l.drop (Lx.skip false l) = [] then .ok []
    else if (Lx.one (p + Lx.skip false l) (l.drop (Lx.skip false l))).2 = 0 then .error (p + Lx.skip false l)
    else Lx.push (Lx.one (p + Lx.skip false l) (l.drop (Lx.skip false l))).1 (Lx.toks f (p + Lx.skip false l + (Lx.one (p + Lx.skip false l) (l.drop (Lx.skip false l))).2) ((l.drop (Lx.skip false l)).drop (Lx.one (p + Lx.skip false l) (l.drop (Lx.skip false l))).2))
theorem Lx.skip_nil (m : Bool) : Lx.skip m [] = 0 := by cases m <;> rfl
theorem Lx.skip_rem (c : UInt8) (r : List UInt8) : Lx.skip true (c :: r) = Lx.skip (decide (c ≠ 10)) r + 1 := rfl
theorem Lx.skip_two {c : UInt8} {r : List UInt8} (h : c = 47 ∧ r.head? = some 47) : Lx.skip false (c :: r) = Lx.skip true r + 1 := by rw [Lx.skip, if_pos h]
theorem Lx.skip_blank {c : UInt8} {r : List UInt8} (h : ¬ (c = 47 ∧ r.head? = some 47)) (hb : Lx.blank c = true) : Lx.skip false (c :: r) = Lx.skip false r + 1 := by rw [Lx.skip, if_neg h, if_pos hb]
theorem Lx.skip_tok {c : UInt8} {r : List UInt8} (h : ¬ (c = 47 ∧ r.head? = some 47)) (hb : Lx.blank c = false) : Lx.skip false (c :: r) = 0 := by rw [Lx.skip, if_neg h, if_neg (by rw [hb]; decide)]
theorem Lx.toks_end {f p : Nat} {l : List UInt8} (h : l.drop (Lx.skip false l) = []) : Lx.toks (f + 1) p l = .ok [] := by rw [Lx.toks, if_pos h]
theorem Lx.toks_bad {f p k : Nat} {l u : List UInt8} (hk : Lx.skip false l = k) (h : l.drop k = u) (hu : u ≠ []) (h0 : (Lx.one (p + k) u).2 = 0) : Lx.toks (f + 1) p l = .error (p + k) := by
  subst hk; subst h; rw [Lx.toks, if_neg hu, if_pos h0]
theorem Lx.toks_good {f p k : Nat} {l u : List UInt8} (hk : Lx.skip false l = k) (h : l.drop k = u) (hu : u ≠ []) (h0 : ¬ (Lx.one (p + k) u).2 = 0) : Lx.toks (f + 1) p l = Lx.push (Lx.one (p + k) u).1 (Lx.toks f (p + k + (Lx.one (p + k) u).2) (u.drop (Lx.one (p + k) u).2)) := by
  subst hk; subst h; rw [Lx.toks, if_neg hu, if_neg h0]
theorem Lx.skip_le (m : Bool) (l : List UInt8) : Lx.skip m l ≤ l.length := by
  induction l generalizing m with
  | nil => cases m <;> simp [Lx.skip]
  | cons c r ih =>
    cases m
    · simp only [Lx.skip, List.length_cons]
      split
      · have := ih true; omega
      · split
        · have := ih false; omega
        · omega
    · simp only [Lx.skip, List.length_cons]
      have := ih (decide (c ≠ 10)); omega
theorem Lx.skip_head (m : Bool) (l : List UInt8) (h : Lx.skip m l < l.length) : ∃ c r, l.drop (Lx.skip m l) = c :: r ∧ Lx.blank c = false ∧ ¬ (c = 47 ∧ r.head? = some 47) := by
  induction l generalizing m with
  | nil => simp at h
  | cons c r ih =>
    cases m
    · simp only [Lx.skip, List.length_cons] at h ⊢
      split at h
      · rename_i h1; rw [if_pos h1]; exact ih true (by omega)
      · rename_i h1; rw [if_neg h1]
        split at h
        · rename_i h2; rw [if_pos h2]; exact ih false (by omega)
        · rename_i h2; rw [if_neg h2]; exact ⟨c, r, rfl, by simpa using h2, h1⟩
    · simp only [Lx.skip, List.length_cons] at h ⊢
      exact ih _ (by omega)
theorem Lx.skip_more (m : Bool) (l t : List UInt8) : (Lx.skip m l < l.length → Lx.skip m (l ++ 10 :: t) = Lx.skip m l) ∧ (Lx.skip m l = l.length → Lx.skip m (l ++ 10 :: t) = l.length + 1 + Lx.skip false t) := by
  induction l generalizing m with
  | nil =>
    refine ⟨fun h => absurd h (by simp), fun _ => ?_⟩
    cases m
    · rw [List.nil_append, Lx.skip_blank (by simp) (by decide), List.length_nil]; omega
    · rw [List.nil_append, Lx.skip_rem, List.length_nil, show decide ((10 : UInt8) ≠ 10) = false from by decide]; omega
  | cons c r ih =>
    have hh : (c = 47 ∧ (r ++ 10 :: t).head? = some 47) ↔ (c = 47 ∧ r.head? = some 47) := by
      cases r with
      | nil => simp
      | cons d r => simp
    rw [List.cons_append, List.length_cons]
    cases m
    · by_cases h1 : c = 47 ∧ r.head? = some 47
      · rw [Lx.skip_two (hh.2 h1), Lx.skip_two h1]
        have := ih true; omega
      · cases hb : Lx.blank c
        · rw [Lx.skip_tok (fun x => h1 (hh.1 x)) hb, Lx.skip_tok h1 hb]; omega
        · rw [Lx.skip_blank (fun x => h1 (hh.1 x)) hb, Lx.skip_blank h1 hb]
          have := ih false; omega
    · rw [Lx.skip_rem, Lx.skip_rem]
      have := ih (decide (c ≠ 10)); omega
theorem Lx.run_more (l t : List UInt8) : Lx.run (l ++ 10 :: t) = Lx.run l := by
  induction l with
  | nil => rfl
  | cons c r ih =>
    unfold Lx.run at ih ⊢
    simp only [List.cons_append, List.takeWhile_cons]
    split
    · rw [ih]
    · rfl
theorem Lx.run_le (l : List UInt8) : (Lx.run l).length ≤ l.length := (List.takeWhile_sublist _).length_le
theorem Lx.sign_le (l : List UInt8) : Lx.sign l ≤ l.length := by
  unfold Lx.sign
  split
  · simp
  · split <;> simp
  · split
    · simp
    · split <;> simp
theorem Lx.sign_more (a : UInt8) (r t : List UInt8) : Lx.sign (a :: r ++ 10 :: t) = Lx.sign (a :: r) := by
  cases r with
  | nil =>
    simp only [List.cons_append, List.nil_append, Lx.sign]
    rw [if_neg]
    simp [Lx.twos]
  | cons b r => rfl
theorem Lx.one_more (p : Nat) (a : UInt8) (r t : List UInt8) : Lx.one p (a :: r ++ 10 :: t) = Lx.one p (a :: r) := by
  have h1 := Lx.run_more (a :: r) t
  have h2 := Lx.sign_more a r t
  have h3 := Lx.sign_le (a :: r)
  have h4 : (a :: r ++ 10 :: t).take (Lx.sign (a :: r)) = (a :: r).take (Lx.sign (a :: r)) := List.take_append_of_le_length h3
  simp only [List.cons_append] at h1 h2 h4 ⊢
  unfold Lx.one
  simp only [h1, h2, h4]
theorem Lx.one_le (p : Nat) (l : List UInt8) : (Lx.one p l).2 ≤ l.length := by
  unfold Lx.one
  split
  · simp
  · have h1 := Lx.run_le (by assumption :: by assumption)
    split
    · simp only []; split <;> simp_all [Lx.run_le]
    · split
      · simp only []; split <;> simp_all [Lx.run_le]
      · exact Lx.sign_le _
theorem Lx.toks_fuel (f g p : Nat) (l : List UInt8) (hf : l.length < f) (hg : l.length < g) : Lx.toks f p l = Lx.toks g p l := by
  induction f generalizing g p l with
  | zero => omega
  | succ f ih =>
    obtain ⟨g, rfl⟩ : ∃ k, g = k + 1 := ⟨g - 1, by omega⟩
    by_cases h1 : l.drop (Lx.skip false l) = []
    · rw [Lx.toks_end h1, Lx.toks_end h1]
    · by_cases h2 : (Lx.one (p + Lx.skip false l) (l.drop (Lx.skip false l))).2 = 0
      · rw [Lx.toks_bad rfl rfl h1 h2, Lx.toks_bad rfl rfl h1 h2]
      · rw [Lx.toks_good rfl rfl h1 h2, Lx.toks_good rfl rfl h1 h2]
        have h3 := Lx.one_le (p + Lx.skip false l) (l.drop (Lx.skip false l))
        have h4 := Lx.skip_le false l
        rw [List.length_drop] at h3
        rw [ih g _ _ (by simp only [List.length_drop]; omega) (by simp only [List.length_drop]; omega)]
theorem Lx.join_push (x : Lx.Tok) (a b : Except Nat (List Lx.Tok)) : Lx.join (Lx.push x a) b = Lx.push x (Lx.join a b) := by
  cases a <;> cases b <;> rfl
theorem Lx.join_nil (b : Except Nat (List Lx.Tok)) : Lx.join (.ok []) b = b := by cases b <;> rfl
/-- two texts with a line's end between -/
theorem Lx.toks_more (f g h p : Nat) (l t : List UInt8) (hf : l.length < f) (hg : (l ++ 10 :: t).length < g) (hh : t.length < h) :
    Lx.toks g p (l ++ 10 :: t) = Lx.join (Lx.toks f p l) (Lx.toks h (p + l.length + 1) t) := by
  induction f generalizing g p l with
  | zero => omega
  | succ f ih =>
    obtain ⟨g, rfl⟩ : ∃ k, g = k + 1 := ⟨g - 1, by omega⟩
    have hk := Lx.skip_le false l
    by_cases h1 : l.drop (Lx.skip false l) = []
    · have h2 : l.length ≤ Lx.skip false l := by simpa using h1
      have hs := (Lx.skip_more false l t).2 (by omega)
      have hd : (l ++ 10 :: t).drop (l.length + 1 + Lx.skip false t) = t.drop (Lx.skip false t) := by
        rw [List.drop_append, List.drop_of_length_le (by omega), List.nil_append, show l.length + 1 + Lx.skip false t - l.length = Lx.skip false t + 1 from by omega]; rfl
      rw [Lx.toks_end h1, Lx.join_nil]
      obtain ⟨h, rfl⟩ : ∃ k, h = k + 1 := ⟨h - 1, by omega⟩
      have hp : p + (l.length + 1 + Lx.skip false t) = p + l.length + 1 + Lx.skip false t := by omega
      by_cases h3 : t.drop (Lx.skip false t) = []
      · rw [Lx.toks_end h3, Lx.toks_end (by rw [hs, hd, h3])]
      · by_cases h4 : (Lx.one (p + l.length + 1 + Lx.skip false t) (t.drop (Lx.skip false t))).2 = 0
        · rw [Lx.toks_bad rfl rfl h3 h4, Lx.toks_bad hs hd h3 (by rw [hp]; exact h4), hp]
        · rw [Lx.toks_good rfl rfl h3 h4, Lx.toks_good hs hd h3 (by rw [hp]; exact h4), hp]
          have h3 := Lx.one_le (p + l.length + 1 + Lx.skip false t) (t.drop (Lx.skip false t))
          have h4 := Lx.skip_le false t
          rw [List.length_drop] at h3
          simp only [List.length_append, List.length_cons] at hg
          rw [Lx.toks_fuel g h _ _ (by simp only [List.length_drop]; omega) (by simp only [List.length_drop]; omega)]
    · have h2 : Lx.skip false l < l.length := by
        apply Nat.lt_of_not_le; intro h; exact h1 (List.drop_of_length_le h)
      have hs := (Lx.skip_more false l t).1 h2
      obtain ⟨c, r, hcr, -, -⟩ := Lx.skip_head false l h2
      have hd : (l ++ 10 :: t).drop (Lx.skip false l) = c :: r ++ 10 :: t := by rw [List.drop_append_of_le_length (by omega), hcr]
      have hlen : (c :: r).length = l.length - Lx.skip false l := by rw [← hcr, List.length_drop]
      have hom := Lx.one_more (p + Lx.skip false l) c r t
      by_cases h5 : (Lx.one (p + Lx.skip false l) (c :: r)).2 = 0
      · rw [Lx.toks_bad rfl hcr (by simp) h5, Lx.toks_bad hs hd (by simp) (by rw [hom]; exact h5)]; rfl
      · rw [Lx.toks_good rfl hcr (by simp) h5, Lx.toks_good hs hd (by simp) (by rw [hom]; exact h5), Lx.join_push, hom]
        have h3 := Lx.one_le (p + Lx.skip false l) (c :: r)
        rw [List.drop_append_of_le_length h3]
        simp only [List.length_append, List.length_cons] at hg hlen
        rw [ih g (p + Lx.skip false l + (Lx.one (p + Lx.skip false l) (c :: r)).2) ((c :: r).drop (Lx.one (p + Lx.skip false l) (c :: r)).2) (by simp only [List.length_drop, List.length_cons]; omega) (by simp only [List.length_append, List.length_drop, List.length_cons]; omega)]
        have hp : p + Lx.skip false l + (Lx.one (p + Lx.skip false l) (c :: r)).2 + ((c :: r).drop (Lx.one (p + Lx.skip false l) (c :: r)).2).length + 1 = p + l.length + 1 := by
          simp only [List.length_drop, List.length_cons] at h3 ⊢; omega
        rw [hp]
/-- further on -/
def Lx.Tok.on (d : Nat) (x : Lx.Tok) : Lx.Tok := { x with pos := x.pos + d }
def Lx.onE (d : Nat) : Except Nat (List Lx.Tok) → Except Nat (List Lx.Tok)
  | .error q => .error (q + d)
  | .ok ts => .ok (ts.map (Lx.Tok.on d))
theorem Lx.one_on (p d : Nat) (l : List UInt8) : Lx.one (p + d) l = ((Lx.one p l).1.on d, (Lx.one p l).2) := by
  unfold Lx.one Lx.Tok.on
  split
  · rfl
  · split
    · rfl
    · split <;> rfl
theorem Lx.push_on (d : Nat) (x : Lx.Tok) (a : Except Nat (List Lx.Tok)) : Lx.push (x.on d) (Lx.onE d a) = Lx.onE d (Lx.push x a) := by cases a <;> rfl
theorem Lx.toks_on (f p d : Nat) (l : List UInt8) : Lx.toks f (p + d) l = Lx.onE d (Lx.toks f p l) := by
  induction f generalizing p l with
  | zero => rfl
  | succ f ih =>
    have hp : p + d + Lx.skip false l = p + Lx.skip false l + d := by omega
    have ho := Lx.one_on (p + Lx.skip false l) d (l.drop (Lx.skip false l))
    by_cases h1 : l.drop (Lx.skip false l) = []
    · rw [Lx.toks_end h1, Lx.toks_end h1]; rfl
    · by_cases h2 : (Lx.one (p + Lx.skip false l) (l.drop (Lx.skip false l))).2 = 0
      · rw [Lx.toks_bad rfl rfl h1 h2, Lx.toks_bad rfl rfl h1 (by rw [hp, ho]; exact h2), hp]; rfl
      · rw [Lx.toks_good rfl rfl h1 h2, Lx.toks_good rfl rfl h1 (by rw [hp, ho]; exact h2), hp, ho, ← Lx.push_on, ← ih]
        simp only []
        rw [show p + Lx.skip false l + d + (Lx.one (p + Lx.skip false l) (l.drop (Lx.skip false l))).2 = p + Lx.skip false l + (Lx.one (p + Lx.skip false l) (l.drop (Lx.skip false l))).2 + d from by omega]
/-- a text's tokens, or an error and its place -/
def Lx.lex (s : List UInt8) : Except (Int × Nat) (List Lx.Tok) :=
  if 65536 < s.length then .error (5, 0) else match Lx.toks (s.length + 1) 0 s with
    | .error q => .error (9, q)
    | .ok ts => .ok (ts ++ [⟨0, s.length, 0, []⟩])
/-! ### a token written -/
def Lx.dec : Nat → Nat → List UInt8 → List UInt8
  | 0, _, acc => acc
  | f + 1, n, acc => if n = 0 then acc else Lx.dec f (n / 10) (UInt8.ofNat (48 + n % 10) :: acc)
def Lx.text (x : Lx.Tok) : List UInt8 := if x.kind ≠ 2 then x.text else if x.num ≤ 0 then [48] else Lx.dec 10 x.num.toNat []
theorem Lx.dec_acc (f n : Nat) (acc : List UInt8) : Lx.dec f n acc = Lx.dec f n [] ++ acc := by
  induction f generalizing n acc with
  | zero => rfl
  | succ f ih =>
    simp only [Lx.dec]
    split
    · rfl
    · rw [ih, ih (n / 10) [_], List.append_assoc]; rfl
theorem Lx.val_add (b : Nat) (l : List UInt8) (c : UInt8) : Lx.val b (l ++ [c]) = Lx.val b l * b + Lx.hval c := by
  unfold Lx.val; rw [List.foldl_append]; rfl
theorem Lx.dig_of (k : Nat) (h : k < 10) : Lx.digit (UInt8.ofNat (48 + k)) = true ∧ Lx.hval (UInt8.ofNat (48 + k)) = k ∧ (UInt8.ofNat (48 + k) = 48 → k = 0) := by
  have : (UInt8.ofNat (48 + k)).toNat = 48 + k := by rw [UInt8.toNat_ofNat']; omega
  have h1 : Lx.digit (UInt8.ofNat (48 + k)) = true := by unfold Lx.digit; rw [this]; simp; omega
  refine ⟨h1, ?_, fun e => ?_⟩
  · unfold Lx.hval; rw [if_pos h1, this]; omega
  · have := congrArg UInt8.toNat e; rw [‹(UInt8.ofNat (48 + k)).toNat = 48 + k›] at this; simp at this; omega
theorem Lx.dec_is (f n : Nat) (h : n < 10 ^ f) : Lx.val 10 (Lx.dec f n []) = n ∧ (Lx.dec f n []).length ≤ f ∧ (Lx.dec f n []).all Lx.digit = true ∧ (0 < n → (Lx.dec f n []) ≠ [] ∧ (Lx.dec f n []).head? ≠ some 48) := by
  induction f generalizing n with
  | zero => simp at h; subst h; exact ⟨rfl, by simp [Lx.dec], rfl, fun h => absurd h (by simp)⟩
  | succ f ih =>
    by_cases h0 : n = 0
    · subst h0; simp only [Lx.dec]; exact ⟨rfl, by simp, rfl, fun h => absurd h (by simp)⟩
    · have h1 := ih (n / 10) (by rw [Nat.pow_succ] at h; omega)
      have h2 := Lx.dig_of (n % 10) (by omega)
      have e : Lx.dec (f + 1) n [] = Lx.dec f (n / 10) [] ++ [UInt8.ofNat (48 + n % 10)] := by
        simp only [Lx.dec]; rw [if_neg h0, Lx.dec_acc]
      rw [e]
      refine ⟨?_, ?_, ?_, fun _ => ⟨by simp, ?_⟩⟩
      · rw [Lx.val_add, h1.1, h2.2.1]; omega
      · rw [List.length_append]; simp; exact h1.2.1
      · rw [List.all_append, h1.2.2.1, List.all_cons, h2.1]; rfl
      · by_cases h3 : 0 < n / 10
        · have h4 := h1.2.2.2 h3
          cases hd : Lx.dec f (n / 10) [] with
          | nil => exact absurd hd h4.1
          | cons a r => rw [hd] at h4; simpa using h4.2
        · have h5 : Lx.dec f (n / 10) [] = [] := by
            have : n / 10 = 0 := by omega
            rw [this]; cases f <;> rfl
          rw [h5]; intro h6
          have h6 : UInt8.ofNat (48 + n % 10) = 48 := by simpa using h6
          have := h2.2.2 h6; omega
theorem Lx.num_dec (n : Nat) (h0 : 0 < n) (h : n < 4294967296) : Lx.num (Lx.dec 10 n []) = n := by
  have h1 := Lx.dec_is 10 n (by omega)
  have h2 := h1.2.2.2 h0
  unfold Lx.num
  rw [if_neg, if_pos ⟨h2.1, h1.2.1, fun _ => h2.2, h1.2.2.1, by rw [h1.1]; exact h⟩, h1.1]
  intro e
  cases hd : Lx.dec 10 n [] with
  | nil => exact h2.1 hd
  | cons a r =>
    rw [hd] at e h2
    cases r <;> simp at e h2
    exact h2 e.1
theorem Lx.num_lt (l : List UInt8) : -1 ≤ Lx.num l ∧ Lx.num l < 4294967296 := by
  have hg : ∀ (l : List UInt8) (n k : Nat), n < 16 ^ k → l.all Lx.hex = true → l.foldl (fun n c => n * 16 + Lx.hval c) n < 16 ^ (k + l.length) := by
    intro l
    induction l with
    | nil => intro n k h _; exact h
    | cons c r ih =>
      intro n k hn h
      rw [List.all_cons, Bool.and_eq_true] at h
      have h2 : Lx.hval c < 16 := by
        have := h.1
        simp only [Lx.hex, Lx.digit, Bool.or_eq_true, Bool.and_eq_true, decide_eq_true_eq] at this
        unfold Lx.hval
        split
        · rename_i g; simp only [Lx.digit, Bool.and_eq_true, decide_eq_true_eq] at g; omega
        · rename_i g; simp only [Lx.digit, Bool.and_eq_true, decide_eq_true_eq] at g; omega
      have := ih (n * 16 + Lx.hval c) (k + 1) (by rw [Nat.pow_succ]; omega) h.2
      rw [List.foldl_cons, List.length_cons, show k + (r.length + 1) = k + 1 + r.length from by omega]; exact this
  have hh : ∀ l : List UInt8, l.all Lx.hex = true → Lx.val 16 l < 16 ^ l.length := fun l h => by have := hg l 0 0 (by simp) h; rw [Nat.zero_add] at this; exact this
  unfold Lx.num
  split
  · split
    · rename_i h
      have h1 := hh _ h.2.2
      have h2 : 16 ^ (l.drop 2).length ≤ 16 ^ 8 := Nat.pow_le_pow_right (by decide) h.1
      have : (16 : Nat) ^ 8 = 4294967296 := by decide
      omega
    · omega
  · split
    · rename_i h; have := h.2.2.2.2; omega
    · omega
/-! ### what a token is, and how it is read again -/
def Lx.good (x : Lx.Tok) : Prop := (1 ≤ x.kind ∧ x.kind ≤ 4) ∧ 0 ≤ x.num ∧ x.num < 4294967296 ∧ (x.kind ≠ 2 → x.num = 0) ∧ (x.kind = 2 → x.text = []) ∧ Lx.text x ≠ [] ∧ (x.kind ≠ 2 → x.text.length ≤ 40) ∧
  ∀ (p : Nat) (r : List UInt8), Lx.skip false (Lx.text x ++ 32 :: r) = 0 ∧ Lx.one p (Lx.text x ++ 32 :: r) = ({ x with pos := p }, (Lx.text x).length)
theorem Lx.wordy_not {c : UInt8} (h : Lx.wordy c = true) : Lx.blank c = false ∧ c ≠ 47 := by
  simp only [Lx.wordy, Lx.letter, Lx.digit, Bool.or_eq_true, Bool.and_eq_true, decide_eq_true_eq] at h
  refine ⟨?_, ?_⟩
  · simp only [Lx.blank, Bool.or_eq_false_iff, decide_eq_false_iff_not]; omega
  · rintro rfl; revert h; decide
theorem Lx.run_all (l : List UInt8) : (Lx.run l).all Lx.wordy = true := List.all_takeWhile
theorem Lx.run_of {l : List UInt8} (h : l.all Lx.wordy = true) (r : List UInt8) : Lx.run (l ++ 32 :: r) = l := by
  unfold Lx.run
  induction l with
  | nil => rfl
  | cons c l ih => rw [List.all_cons, Bool.and_eq_true] at h; rw [List.cons_append, List.takeWhile_cons, h.1, if_pos rfl, ih h.2]
theorem Lx.skip_wordy {c : UInt8} (r : List UInt8) (h : Lx.wordy c = true) : Lx.skip false (c :: r) = 0 := Lx.skip_tok (fun x => (Lx.wordy_not h).2 x.1) (Lx.wordy_not h).1
theorem Lx.letter_digit {c : UInt8} (h : Lx.digit c = true) : Lx.letter c = false := by
  simp only [Lx.letter, Lx.digit, Bool.or_eq_false_iff, Bool.and_eq_true, Bool.and_eq_false_iff, decide_eq_true_eq, decide_eq_false_iff_not] at h ⊢
  omega
theorem Lx.ones_not {c : UInt8} (h : Lx.ones.contains c = true) : Lx.blank c = false ∧ c ≠ 47 ∧ Lx.letter c = false ∧ Lx.digit c = false := by
  have : ∀ d ∈ Lx.ones, Lx.blank d = false ∧ d ≠ 47 ∧ Lx.letter d = false ∧ Lx.digit d = false := by decide
  exact this c (by simpa using h)
theorem Lx.twos_not {a b : UInt8} (h : Lx.twos.contains (a, b) = true) : Lx.blank a = false ∧ a ≠ 47 ∧ Lx.letter a = false ∧ Lx.digit a = false := by
  have : ∀ d ∈ Lx.twos, Lx.blank d.1 = false ∧ d.1 ≠ 47 ∧ Lx.letter d.1 = false ∧ Lx.digit d.1 = false := by decide
  exact this (a, b) (by simpa using h)
theorem Lx.run_cons {c : UInt8} {r : List UInt8} (h : Lx.wordy c = true) : Lx.run (c :: r) = c :: Lx.run r := by
  unfold Lx.run; rw [List.takeWhile_cons, if_pos h]
theorem Lx.one_good (p : Nat) (c : UInt8) (r : List UInt8) (h : ¬ (Lx.one p (c :: r)).2 = 0) : Lx.good (Lx.one p (c :: r)).1 := by
  unfold Lx.one at h ⊢
  simp only [] at h ⊢
  by_cases h1 : Lx.letter c = true
  · rw [if_pos h1] at h ⊢
    simp only [] at h ⊢
    have hc : Lx.wordy c = true := by unfold Lx.wordy; rw [h1]; rfl
    have hl : (Lx.run (c :: r)).length ≤ 40 := by
      apply Decidable.byContradiction; intro g; rw [if_neg g] at h; exact h rfl
    have hk : ∀ q, Lx.text ⟨if Lx.words.contains (Lx.run (c :: r)) = true then 3 else 1, q, 0, Lx.run (c :: r)⟩ = Lx.run (c :: r) := by
      intro q; unfold Lx.text; rw [if_pos]; (simp only []; split <;> simp)
    refine ⟨?_, by simp, by simp, fun _ => rfl, ?_, ?_, fun _ => hl, fun q u => ?_⟩
    · simp only []; split <;> decide
    · simp only []; split <;> simp
    · rw [hk, Lx.run_cons hc]; simp
    · rw [hk]
      have hr := Lx.run_of (Lx.run_all (c :: r)) u
      rw [Lx.run_cons hc] at hr hl ⊢
      rw [List.cons_append] at hr ⊢
      refine ⟨Lx.skip_wordy _ hc, ?_⟩
      unfold Lx.one
      simp only []
      rw [if_pos h1, hr, if_pos hl]
  · have h1' : Lx.letter c = false := by simpa using h1
    rw [if_neg h1] at h ⊢
    by_cases h2 : Lx.digit c = true
    · rw [if_pos h2] at h ⊢
      simp only [] at h ⊢
      have hn : 0 ≤ Lx.num (Lx.run (c :: r)) := by
        apply Decidable.byContradiction; intro g; rw [if_neg g] at h; exact h rfl
      have hn2 := (Lx.num_lt (Lx.run (c :: r))).2
      generalize Lx.num (Lx.run (c :: r)) = v at *
      have hk : ∀ q, Lx.text ⟨2, q, v, []⟩ = if v ≤ 0 then [48] else Lx.dec 10 v.toNat [] := by intro q; rfl
      have hd : ∃ a l, Lx.text ⟨2, p, v, []⟩ = a :: l ∧ (a :: l).all Lx.digit = true ∧ Lx.num (a :: l) = v := by
        rw [hk]
        by_cases h0 : v ≤ 0
        · rw [if_pos h0]; refine ⟨48, [], rfl, by decide, ?_⟩
          have : v = 0 := by omega
          subst this; decide
        · rw [if_neg h0]
          have g := Lx.dec_is 10 v.toNat (by omega)
          have g2 := g.2.2.2 (by omega)
          have g3 := Lx.num_dec v.toNat (by omega) (by omega)
          cases e : Lx.dec 10 v.toNat [] with
          | nil => exact absurd e g2.1
          | cons a l => rw [e] at g g3; exact ⟨a, l, rfl, g.2.2.1, by rw [g3]; omega⟩
      obtain ⟨a, l, e, ha, hv⟩ := hd
      refine ⟨by simp, hn, hn2, fun g => absurd rfl g, fun _ => rfl, ?_, fun g => absurd rfl g, fun q u => ?_⟩
      · rw [e]; simp
      · rw [e]
        have hw : (a :: l).all Lx.wordy = true := by
          rw [List.all_eq_true] at ha ⊢
          intro y hy; unfold Lx.wordy; rw [ha y hy, Bool.or_true]
        have hr := Lx.run_of hw u
        have haw : Lx.wordy a = true := by rw [List.all_cons, Bool.and_eq_true] at hw; exact hw.1
        have had : Lx.digit a = true := by rw [List.all_cons, Bool.and_eq_true] at ha; exact ha.1
        rw [List.cons_append] at hr ⊢
        refine ⟨Lx.skip_wordy _ haw, ?_⟩
        unfold Lx.one
        simp only []
        rw [if_neg (by rw [Lx.letter_digit had]; decide), if_pos had, hr, hv, if_pos hn]
    · rw [if_neg h2] at h ⊢
      simp only [] at h ⊢
      cases r with
      | nil =>
        simp only [Lx.sign] at h ⊢
        by_cases g : Lx.ones.contains c = true
        · rw [if_pos g] at h ⊢
          have gn := Lx.ones_not g
          refine ⟨by simp, by simp, by simp, fun _ => rfl, fun g => absurd g (by simp), by simp [Lx.text], fun _ => by simp, fun q u => ?_⟩
          show Lx.skip false (c :: 32 :: u) = 0 ∧ Lx.one q (c :: 32 :: u) = _
          refine ⟨Lx.skip_tok (fun x => gn.2.1 x.1) gn.1, ?_⟩
          unfold Lx.one
          simp only [Lx.sign]
          rw [if_neg h1, if_neg h2, if_neg (by simp [Lx.twos]), if_pos g]; rfl
        · rw [if_neg g] at h; exact absurd rfl h
      | cons b r =>
        simp only [Lx.sign] at h ⊢
        by_cases g : Lx.twos.contains (c, b) = true
        · rw [if_pos g] at h ⊢
          have gn := Lx.twos_not g
          refine ⟨by simp, by simp, by simp, fun _ => rfl, fun g => absurd g (by simp), by simp [Lx.text], fun _ => by simp, fun q u => ?_⟩
          show Lx.skip false (c :: b :: 32 :: u) = 0 ∧ Lx.one q (c :: b :: 32 :: u) = _
          refine ⟨Lx.skip_tok (fun x => gn.2.1 x.1) gn.1, ?_⟩
          unfold Lx.one
          simp only [Lx.sign]
          rw [if_neg h1, if_neg h2, if_pos g]; rfl
        · rw [if_neg g] at h ⊢
          by_cases g : Lx.ones.contains c = true
          · rw [if_pos g] at h ⊢
            have gn := Lx.ones_not g
            refine ⟨by simp, by simp, by simp, fun _ => rfl, fun g => absurd g (by simp), by simp [Lx.text], fun _ => by simp, fun q u => ?_⟩
            show Lx.skip false (c :: 32 :: u) = 0 ∧ Lx.one q (c :: 32 :: u) = _
            refine ⟨Lx.skip_tok (fun x => gn.2.1 x.1) gn.1, ?_⟩
            unfold Lx.one
            simp only [Lx.sign]
            rw [if_neg h1, if_neg h2, if_neg (by simp [Lx.twos]), if_pos g]; rfl
          · rw [if_neg g] at h; exact absurd rfl h
/-- tokens written with a blank behind each -/
def Lx.all (ts : List Lx.Tok) : List UInt8 := ts.flatMap fun x => Lx.text x ++ [32]
/-- the places at which they begin -/
def Lx.again : Nat → List Lx.Tok → List Lx.Tok
  | _, [] => []
  | q, x :: r => { x with pos := q } :: Lx.again (q + (Lx.text x).length + 1) r
theorem Lx.all_cons (x : Lx.Tok) (ts : List Lx.Tok) : Lx.all (x :: ts) = Lx.text x ++ 32 :: Lx.all ts := by
  unfold Lx.all; rw [List.flatMap_cons, List.append_assoc]; rfl
theorem Lx.toks_blank (f g p : Nat) (l : List UInt8) (hf : l.length + 1 < f) (hg : l.length < g) : Lx.toks f p (32 :: l) = Lx.toks g (p + 1) l := by
  obtain ⟨f, rfl⟩ : ∃ k, f = k + 1 := ⟨f - 1, by omega⟩
  obtain ⟨g, rfl⟩ : ∃ k, g = k + 1 := ⟨g - 1, by omega⟩
  have hs : Lx.skip false (32 :: l) = Lx.skip false l + 1 := Lx.skip_blank (by simp) (by decide)
  have hd : (32 :: l).drop (Lx.skip false l + 1) = l.drop (Lx.skip false l) := rfl
  have hp : p + (Lx.skip false l + 1) = p + 1 + Lx.skip false l := by omega
  by_cases h1 : l.drop (Lx.skip false l) = []
  · rw [Lx.toks_end h1, Lx.toks_end (by rw [hs, hd, h1])]
  · by_cases h2 : (Lx.one (p + 1 + Lx.skip false l) (l.drop (Lx.skip false l))).2 = 0
    · rw [Lx.toks_bad rfl rfl h1 h2, Lx.toks_bad hs hd h1 (by rw [hp]; exact h2), hp]
    · rw [Lx.toks_good rfl rfl h1 h2, Lx.toks_good hs hd h1 (by rw [hp]; exact h2), hp]
      have h3 := Lx.one_le (p + 1 + Lx.skip false l) (l.drop (Lx.skip false l))
      have h4 := Lx.skip_le false l
      rw [List.length_drop] at h3
      rw [Lx.toks_fuel f g _ _ (by simp only [List.length_drop]; omega) (by simp only [List.length_drop]; omega)]
theorem Lx.toks_again (g q : Nat) (ts : List Lx.Tok) (h : ∀ x ∈ ts, Lx.good x) (hg : (Lx.all ts).length < g) : Lx.toks g q (Lx.all ts) = .ok (Lx.again q ts) := by
  induction ts generalizing g q with
  | nil =>
    obtain ⟨g, rfl⟩ : ∃ k, g = k + 1 := ⟨g - 1, by omega⟩
    exact Lx.toks_end rfl
  | cons x ts ih =>
    obtain ⟨g, rfl⟩ : ∃ k, g = k + 1 := ⟨g - 1, by omega⟩
    have hx := h x (List.mem_cons_self ..)
    obtain ⟨hs, ho⟩ := hx.2.2.2.2.2.2.2 q (Lx.all ts)
    have hne : (Lx.text x).length ≠ 0 := fun e => hx.2.2.2.2.2.1 (List.length_eq_zero_iff.1 e)
    rw [Lx.all_cons] at hg ⊢
    rw [List.length_append, List.length_cons] at hg
    rw [Lx.toks_good hs (List.drop_zero) (by simp) (by rw [Nat.add_zero, ho]; exact hne), Nat.add_zero, ho]
    simp only []
    rw [List.drop_left, Lx.toks_blank g g _ _ (by omega) (by omega), ih _ _ (fun y hy => h y (List.mem_cons_of_mem _ hy)) (by omega)]
    rfl
/-- where a token stands -/
def Lx.stands (s : List UInt8) (p : Nat) (x : Lx.Tok) : Prop := p ≤ x.pos ∧ x.pos < s.length ∧ (x.kind ≠ 2 → x.pos + x.text.length ≤ s.length ∧ (s.drop x.pos).take x.text.length = x.text)
theorem Lx.one_text (p : Nat) (l : List UInt8) : (Lx.one p l).1.pos = p ∧ ((Lx.one p l).1.text.length ≤ l.length ∧ l.take (Lx.one p l).1.text.length = (Lx.one p l).1.text) := by
  have hr : ∀ l : List UInt8, l.take (Lx.run l).length = Lx.run l := fun l => by
    have h : Lx.run l ++ l.dropWhile Lx.wordy = l := List.takeWhile_append_dropWhile
    have := List.take_left (l₁ := Lx.run l) (l₂ := l.dropWhile Lx.wordy)
    rwa [h] at this
  unfold Lx.one
  split
  · simp
  · split
    · exact ⟨rfl, Lx.run_le _, hr _⟩
    · split
      · simp
      · have := Lx.sign_le (by assumption :: by assumption)
        refine ⟨rfl, by rw [List.length_take]; omega, ?_⟩
        simp only [List.length_take]
        rw [Nat.min_eq_left (Lx.sign_le _)]
theorem Lx.toks_where (f p : Nat) (l s : List UInt8) (ts : List Lx.Tok) (hp : p ≤ s.length) (hl : l = s.drop p) (h : Lx.toks f p l = .ok ts) : (∀ x ∈ ts, Lx.good x ∧ Lx.stands s p x) ∧ ts.Pairwise (fun a b => a.pos < b.pos) := by
  induction f generalizing p l ts with
  | zero => exact absurd h (by simp [Lx.toks])
  | succ f ih =>
    by_cases h1 : l.drop (Lx.skip false l) = []
    · rw [Lx.toks_end h1] at h; cases h; exact ⟨fun _ h => absurd h (by simp), List.Pairwise.nil⟩
    · by_cases h2 : (Lx.one (p + Lx.skip false l) (l.drop (Lx.skip false l))).2 = 0
      · rw [Lx.toks_bad rfl rfl h1 h2] at h; cases h
      · rw [Lx.toks_good rfl rfl h1 h2] at h
        have h3 := Lx.one_le (p + Lx.skip false l) (l.drop (Lx.skip false l))
        have h5 := Lx.one_text (p + Lx.skip false l) (l.drop (Lx.skip false l))
        have h4 := Lx.skip_le false l
        have hll : l.length = s.length - p := by rw [hl, List.length_drop]
        have hlt : Lx.skip false l < l.length := by
          apply Nat.lt_of_not_le; intro h; exact h1 (List.drop_of_length_le h)
        have hgd : Lx.good (Lx.one (p + Lx.skip false l) (l.drop (Lx.skip false l))).1 := by
          cases e : l.drop (Lx.skip false l) with
          | nil => exact absurd e h1
          | cons c r => rw [e] at h2; exact Lx.one_good _ _ _ h2
        have hdd : l.drop (Lx.skip false l) = s.drop (p + Lx.skip false l) := by rw [hl, List.drop_drop]
        generalize Lx.one (p + Lx.skip false l) (l.drop (Lx.skip false l)) = x at *
        rw [List.length_drop] at h3
        cases e : Lx.toks f (p + Lx.skip false l + x.2) ((l.drop (Lx.skip false l)).drop x.2) with
        | error q => rw [e] at h; cases h
        | ok us =>
          rw [e] at h; cases h
          obtain ⟨ha, hb⟩ := ih _ _ _ (by omega) (by rw [hdd, List.drop_drop]) e
          refine ⟨fun y hy => ?_, List.Pairwise.cons (fun y hy => ?_) hb⟩
          · rcases List.mem_cons.1 hy with rfl | hy
            · refine ⟨hgd, by omega, by omega, fun _ => ?_⟩
              rw [h5.1, ← hdd]; rw [List.length_drop] at h5; exact ⟨by omega, h5.2.2⟩
            · have := ha y hy; exact ⟨this.1, by have := this.2.1; omega, this.2.2⟩
          · have := (ha y hy).2.1; omega
/-! ### a text in a list between blanks -/
def Lx.inL (L t : List UInt8) : Bool := (List.range (L.length + 1)).any fun i => decide ((L.drop i).take (t.length + 2) = 32 :: t ++ [32])
def Lx.between (ws : List (List UInt8)) : List UInt8 := 32 :: ws.flatMap fun w => w ++ [32]
theorem Lx.take_blank (w t r : List UInt8) (hw : (32 : UInt8) ∉ w) (ht : (32 : UInt8) ∉ t) (h : (w ++ 32 :: r).take (t.length + 1) = t ++ [32]) : w = t := by
  induction w generalizing t with
  | nil =>
    cases t with
    | nil => rfl
    | cons a t => simp at h; exact absurd (by rw [h.1]; simp) ht
  | cons c w ih =>
    cases t with
    | nil => simp at h; exact absurd (by rw [h]; simp) hw
    | cons a t =>
      simp only [List.cons_append, List.length_cons, List.take_succ_cons, List.cons.injEq] at h
      rw [h.1, ih t (fun g => hw (List.mem_cons_of_mem _ g)) (fun g => ht (List.mem_cons_of_mem _ g)) h.2]
theorem Lx.flat_of (ws : List (List UInt8)) (t : List UInt8) (i : Nat) (hw : ∀ w ∈ ws, (32 : UInt8) ∉ w) (ht : (32 : UInt8) ∉ t) (h : ((Lx.between ws).drop i).take (t.length + 2) = 32 :: t ++ [32]) : t ∈ ws := by
  induction ws generalizing i with
  | nil =>
    unfold Lx.between at h
    cases i with
    | zero => simp at h
    | succ i => simp at h
  | cons w ws ih =>
    have e : Lx.between (w :: ws) = 32 :: w ++ Lx.between ws := by unfold Lx.between; simp
    rw [e] at h
    cases i with
    | zero =>
      have hb : Lx.between ws = 32 :: ws.flatMap fun w => w ++ [32] := rfl
      rw [List.drop_zero, hb] at h
      simp only [List.cons_append, List.take_succ_cons, List.cons.injEq, true_and] at h
      rw [Lx.take_blank w t _ (hw w (List.mem_cons_self ..)) ht h]
      exact List.mem_cons_self ..
    | succ i =>
      rw [List.cons_append, List.drop_succ_cons] at h
      by_cases hi : i < w.length
      · rw [List.drop_append_of_le_length (by omega)] at h
        cases g : w.drop i with
        | nil => have := List.drop_eq_nil_iff.1 g; omega
        | cons a u =>
          rw [g] at h
          simp only [List.cons_append, List.take_succ_cons, List.cons.injEq] at h
          have : a ∈ w := List.mem_of_mem_drop (i := i) (by rw [g]; exact List.mem_cons_self ..)
          rw [h.1] at this
          exact absurd this (hw w (List.mem_cons_self ..))
      · rw [List.drop_append, List.drop_of_length_le (by omega), List.nil_append] at h
        exact List.mem_cons_of_mem _ (ih _ (fun v hv => hw v (List.mem_cons_of_mem _ hv)) h)
theorem Lx.flat_in (ws : List (List UInt8)) (t : List UInt8) (h : t ∈ ws) : ∃ i, i ≤ (Lx.between ws).length ∧ ((Lx.between ws).drop i).take (t.length + 2) = 32 :: t ++ [32] := by
  induction ws with
  | nil => cases h
  | cons w ws ih =>
    have e : Lx.between (w :: ws) = 32 :: w ++ Lx.between ws := by unfold Lx.between; simp
    rw [e]
    rcases List.mem_cons.1 h with rfl | h
    · refine ⟨0, Nat.zero_le _, ?_⟩
      have hb : Lx.between ws = 32 :: ws.flatMap fun w => w ++ [32] := rfl
      rw [List.drop_zero, hb, List.cons_append, List.take_succ_cons, List.cons_append, List.take_append, List.take_of_length_le (by omega), show t.length + 1 - t.length = 1 from by omega]; rfl
    · obtain ⟨i, hi, g⟩ := ih h
      refine ⟨i + (32 :: w).length, by rw [List.length_append]; omega, ?_⟩
      rw [List.drop_append, List.drop_of_length_le (by omega), List.nil_append, show i + (32 :: w).length - (32 :: w).length = i from by omega, g]
theorem Lx.inL_is (ws : List (List UInt8)) (t : List UInt8) (hw : ∀ w ∈ ws, (32 : UInt8) ∉ w) (ht : (32 : UInt8) ∉ t) : Lx.inL (Lx.between ws) t = ws.contains t := by
  rw [Bool.eq_iff_iff, List.contains_iff_mem]
  unfold Lx.inL
  rw [List.any_eq_true]
  constructor
  · rintro ⟨i, -, h⟩; exact Lx.flat_of ws t i hw ht (by simpa using h)
  · intro h
    obtain ⟨i, hi, g⟩ := Lx.flat_in ws t h
    exact ⟨i, by rw [List.mem_range]; omega, by simpa using g⟩
theorem Lx.inL_words (t : List UInt8) (h : t.all Lx.wordy = true) : Lx.inL (Lx.between Lx.words) t = Lx.words.contains t :=
  Lx.inL_is _ _ (by decide) (fun g => by rw [List.all_eq_true] at h; exact absurd (h 32 g) (by decide))
def Lx.twosL : List (List UInt8) := Lx.twos.map fun p => [p.1, p.2]
def Lx.onesL : List (List UInt8) := Lx.ones.map fun c => [c]
theorem Lx.inL_two (a b : UInt8) (ha : a ≠ 32) : Lx.inL (Lx.between Lx.twosL) [a, b] = Lx.twos.contains (a, b) := by
  by_cases hb : b = 32
  · subst hb
    have h1 : Lx.twos.contains (a, 32) = false := by simp [Lx.twos]
    rw [h1]
    unfold Lx.inL
    rw [List.any_eq_false]
    intro i hi h
    have h := of_decide_eq_true h
    have hd : ∀ j, j < 20 → (((Lx.between Lx.twosL).drop j).drop 2).take 2 ≠ [32, 32] := by decide
    have hl : i < 20 := by rw [List.mem_range] at hi; exact hi
    have := congrArg (fun l => (l.drop 2).take 2) h
    simp only [List.drop_take, List.length_cons, List.length_nil] at this
    exact hd i hl (by simpa [List.take_take] using this)
  · rw [Lx.inL_is _ _ (by decide) (by simp; exact ⟨fun e => ha e.symm, fun e => hb e.symm⟩), Bool.eq_iff_iff, List.contains_iff_mem, List.contains_iff_mem]
    simp [Lx.twosL]
theorem Lx.inL_one (a : UInt8) (ha : a ≠ 32) : Lx.inL (Lx.between Lx.onesL) [a] = Lx.ones.contains a := by
  rw [Lx.inL_is _ _ (by decide) (by simp; exact fun e => ha e.symm), Bool.eq_iff_iff, List.contains_iff_mem, List.contains_iff_mem]
  simp [Lx.onesL]
/-! ### two texts, with a line's end between -/
theorem Lx.lex_joins (s t : List UInt8) (hs : s.length ≤ 20000) (ht : t.length ≤ 20000) :
    match Lx.lex s with
    | .error e => Lx.lex (s ++ 10 :: t) = .error e
    | .ok ts => ∃ us, ts = us ++ [⟨0, s.length, 0, []⟩] ∧ match Lx.lex t with
      | .error e => Lx.lex (s ++ 10 :: t) = .error (e.1, e.2 + (s.length + 1))
      | .ok vs => Lx.lex (s ++ 10 :: t) = .ok (us ++ vs.map (Lx.Tok.on (s.length + 1))) := by
  have hl : (s ++ 10 :: t).length = s.length + 1 + t.length := by rw [List.length_append, List.length_cons]; omega
  have h := Lx.toks_more (s.length + 1) ((s ++ 10 :: t).length + 1) (t.length + 1) 0 s t (by omega) (by omega) (by omega)
  have h2 := Lx.toks_on (t.length + 1) 0 (s.length + 1) t
  rw [Nat.zero_add] at h2
  rw [show 0 + s.length + 1 = s.length + 1 from by omega, h2] at h
  unfold Lx.lex
  rw [if_neg (by omega), if_neg (by omega), if_neg (by omega), h]
  cases e : Lx.toks (s.length + 1) 0 s with
  | error q => rfl
  | ok us =>
    refine ⟨us, rfl, ?_⟩
    cases e2 : Lx.toks (t.length + 1) 0 t with
    | error q => rfl
    | ok vs =>
      simp only [Lx.onE, Lx.join, hl]
      rw [List.map_append, List.append_assoc]
      simp only [List.map_cons, List.map_nil, Lx.Tok.on]
      rw [show s.length + 1 + t.length = t.length + (s.length + 1) from by omega]
end Go.Proofs.YtbnhegipdfkdgaaDoor
