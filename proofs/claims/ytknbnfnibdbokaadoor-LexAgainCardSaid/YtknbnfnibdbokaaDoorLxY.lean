/-
  Plain mathematics for the laws of layer 11: errors and places of lex's answers; two texts joined.
-/
import Derived.Test.YtknbnfnibdbokaaDoorLxJ
import Derived.Test.YtknbnfnibdbokaaDoorLxW
namespace Go.Proofs.YtknbnfnibdbokaaDoor
open Go.ChangeShapes Go.WideShapes Go.ChangeAt Go.RowKit
set_option linter.unusedVariables false
set_option linter.unusedSimpArgs false

theorem nilC (W : World) : SliceC tkC 4 W (.slice none 0 0) [] := ⟨none, 0, rfl, fun k hk => absurd hk (Nat.not_lt_zero _)⟩
theorem sl_mk {q : Option Addr} {ts : List Lx.Tok} {W : World} (cap : Nat) (s : ∀ k (hk : k < ts.length), ∃ a, q = some a ∧ OnC W (a.add (k * 4)) (tkC ts[k])) : SliceC tkC 4 W (.slice q ts.length cap) ts := ⟨q, cap, rfl, s⟩
theorem Lx.toks_err (f : Nat) : ∀ (p : Nat) (l : List UInt8) (q : Nat), l.length < f → Lx.toks f p l = .error q → q ≤ p + l.length := by
  induction f with
  | zero => intro p l q hf; omega
  | succ f ih =>
    intro p l q hf h
    have h4 := Lx.skip_le false l
    by_cases h1 : l.drop (Lx.skip false l) = []
    · rw [Lx.toks_end h1] at h; cases h
    · by_cases h2 : (Lx.one (p + Lx.skip false l) (l.drop (Lx.skip false l))).2 = 0
      · rw [Lx.toks_bad rfl rfl h1 h2] at h; cases h; omega
      · rw [Lx.toks_good rfl rfl h1 h2] at h
        have h3 := Lx.one_le (p + Lx.skip false l) (l.drop (Lx.skip false l))
        rw [List.length_drop] at h3
        cases e : Lx.toks f (p + Lx.skip false l + (Lx.one (p + Lx.skip false l) (l.drop (Lx.skip false l))).2) ((l.drop (Lx.skip false l)).drop (Lx.one (p + Lx.skip false l) (l.drop (Lx.skip false l))).2) with
        | error q2 =>
          rw [e] at h
          cases h
          have h5 := ih _ _ _ (by rw [List.length_drop, List.length_drop]; omega) e
          rw [List.length_drop, List.length_drop] at h5
          omega
        | ok us => rw [e] at h; cases h
theorem Lx.lex_err {l : List UInt8} {q : Int} {n : Nat} (h : Lx.lex l = .error (q, n)) : (q = 5 ∨ q = 9) ∧ n ≤ l.length := by
  unfold Lx.lex at h
  split at h
  · cases h; exact ⟨Or.inl rfl, Nat.zero_le _⟩
  · cases e : Lx.toks (l.length + 1) 0 l with
    | error q2 =>
      rw [e] at h
      cases h
      have := Lx.toks_err _ _ _ _ (by omega) e
      exact ⟨Or.inr rfl, by omega⟩
    | ok us => rw [e] at h; cases h
theorem Lx.lex_pos {l : List UInt8} {ts : List Lx.Tok} (h : Lx.lex l = .ok ts) : ∀ x ∈ ts, x.pos ≤ l.length := by
  unfold Lx.lex at h
  split at h
  · cases h
  · cases e : Lx.toks (l.length + 1) 0 l with
    | error q2 => rw [e] at h; cases h
    | ok us =>
      rw [e] at h
      cases h
      intro x hx
      rcases List.mem_append.1 hx with hx | hx
      · have := ((Lx.toks_where _ 0 l l us (Nat.zero_le _) rfl e).1 x hx).2.2.1
        omega
      · rw [List.mem_singleton.1 hx]; exact Nat.le_refl _
/-- a slice's address, and the tokens that lie there -/
def TkS (W : World) (q : Option Addr) (ts : List Lx.Tok) : Prop := ∀ k (hk : k < ts.length), ∃ a, q = some a ∧ OnC W (a.add (k * 4)) (tkC ts[k])
theorem TkS.kept {W W' : World} {q : Option Addr} {ts : List Lx.Tok} (h : TkS W q ts) (hb : Below W.heap.size W W') : TkS W' q ts := fun k hk => by
  obtain ⟨a, h1, h2⟩ := h k hk
  exact ⟨a, h1, h2.kept hb⟩
theorem TkS.get {W : World} {q : Option Addr} {ts : List Lx.Tok} {k : Nat} {x : Lx.Tok} (h : TkS W q ts) (hx : ts[k]? = some x) : ∃ a, q = some a ∧ TkAt W (a.add (k * 4)) x.kind x.pos x.num (Lx.S x.text) := by
  obtain ⟨hk, rfl⟩ := List.getElem?_eq_some_iff.1 hx
  obtain ⟨a, h1, h2⟩ := h k hk
  refine ⟨a, h1, ?_⟩
  generalize ts[k] = y at h2
  obtain ⟨k', p, n, t⟩ := y
  exact TkAt.of h2
theorem lex_ok (s : ByteArray) (hs : s.size ≤ 281474976710656) {ts : List Lx.Tok} {n : Nat} (h : Lx.lex s.data.toList = .ok ts) (hn : ts.length = n) (w : World) :
    Calls Tryd.prog 6 #[.string s] w fun e w' => ∃ (q : Option Addr) (cap : Nat), e = .returned (.tuple #[.slice q n cap, .agg (bdA 0 0)]) ∧ TkS w' q ts ∧ Below w.heap.size w w' := by
  refine (lex_any s hs w).mono ?_
  rintro e w' ⟨v, x, p, rfl, hr, hb⟩
  rw [h] at hr
  obtain ⟨rfl, rfl, q, cap, rfl, hat⟩ := hr
  subst hn
  exact ⟨q, cap, rfl, hat, hb⟩
theorem lex_no (s : ByteArray) (hs : s.size ≤ 281474976710656) {q : Int} {n : Nat} (h : Lx.lex s.data.toList = .error (q, n)) (w : World) :
    Calls Tryd.prog 6 #[.string s] w fun e w' => e = .returned (.tuple #[.slice none 0 0, .agg (bdA q n)]) ∧ Below w.heap.size w w' := by
  refine (lex_any s hs w).mono ?_
  rintro e w' ⟨v, x, p, rfl, hr, hb⟩
  rw [h] at hr
  obtain ⟨rfl, rfl, rfl⟩ := hr
  exact ⟨rfl, hb⟩
theorem join_list (s t : ByteArray) : (s ++ ({ data := #[10] } : ByteArray) ++ t).data.toList = s.data.toList ++ 10 :: t.data.toList := by
  rw [Lx.app_list, Lx.app_list, List.append_assoc]; rfl
end Go.Proofs.YtknbnfnibdbokaaDoor
