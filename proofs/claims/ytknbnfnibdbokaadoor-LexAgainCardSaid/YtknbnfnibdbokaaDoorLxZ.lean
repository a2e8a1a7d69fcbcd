/-
  For the law LexAgain: tokens written and read again.
-/
import Derived.Test.YtknbnfnibdbokaaDoorLxY
import Derived.Test.YtknbnfnibdbokaaDoorLxT
namespace Go.Proofs.YtknbnfnibdbokaaDoor
open Go.ChangeShapes Go.WideShapes Go.ChangeAt Go.RowKit
set_option linter.unusedVariables false
set_option linter.unusedSimpArgs false

/-- where the token of that number stands in the text written -/
def Lx.at' (us : List Lx.Tok) (j : Nat) : Nat := (Lx.all (us.take j)).length
theorem Lx.all_app (a b : List Lx.Tok) : Lx.all (a ++ b) = Lx.all a ++ Lx.all b := by unfold Lx.all; rw [List.flatMap_append]
theorem Lx.all_step (us : List Lx.Tok) (k : Nat) (x : Lx.Tok) (h : us[k]? = some x) : Lx.all (us.take (k + 1)) = Lx.all (us.take k) ++ (Lx.text x ++ [32]) := by
  rw [List.take_add_one, h, Option.toList, Lx.all_app]; unfold Lx.all; simp
theorem Lx.again_get (us : List Lx.Tok) : ∀ (q i : Nat), (Lx.again q us)[i]? = us[i]?.map fun x => { x with pos := q + Lx.at' us i } := by
  induction us with
  | nil => intro q i; simp [Lx.again]
  | cons x us ih =>
    intro q i
    rw [Lx.again]
    cases i with
    | zero => simp [Lx.at', Lx.all]
    | succ i =>
      rw [List.getElem?_cons_succ, List.getElem?_cons_succ, ih]
      congr 1
      funext y
      have : Lx.at' (x :: us) (i + 1) = (Lx.text x).length + 1 + Lx.at' us i := by
        unfold Lx.at'
        rw [List.take_succ_cons, Lx.all_cons, List.length_append, List.length_cons]; omega
      rw [this]
      congr 1
      omega
theorem Lx.again_len (us : List Lx.Tok) : ∀ q, (Lx.again q us).length = us.length := by
  induction us with
  | nil => intro q; rfl
  | cons x us ih => intro q; rw [Lx.again, List.length_cons, List.length_cons, ih]
theorem Lx.lex_again (us : List Lx.Tok) (h : ∀ x ∈ us, Lx.good x) (hl : (Lx.all us).length ≤ 65536) : Lx.lex (Lx.all us) = .ok (Lx.again 0 us ++ [⟨0, (Lx.all us).length, 0, []⟩]) := by
  unfold Lx.lex
  rw [if_neg (by omega), Lx.toks_again _ 0 us h (by omega)]
theorem Lx.lex_shape {l : List UInt8} {ts : List Lx.Tok} (h : Lx.lex l = .ok ts) : ∃ us, ts = us ++ [⟨0, l.length, 0, []⟩] ∧ (∀ x ∈ us, Lx.good x ∧ Lx.stands l 0 x) ∧ us.Pairwise (fun a b => a.pos < b.pos) := by
  unfold Lx.lex at h
  split at h
  · cases h
  · cases e : Lx.toks (l.length + 1) 0 l with
    | error q2 => rw [e] at h; cases h
    | ok us =>
      rw [e] at h
      cases h
      have := Lx.toks_where _ 0 l l us (Nat.zero_le _) rfl e
      exact ⟨us, rfl, this.1, this.2⟩
theorem Lx.text_len {x : Lx.Tok} (h : Lx.good x) : (Lx.text x).length ≤ 40 := by
  obtain ⟨h1, h2, h3, h4, h5, h6, h7, h8⟩ := h
  unfold Lx.text
  split
  · rename_i hk; exact h7 hk
  · split
    · simp
    · have := (Lx.dec_is 10 x.num.toNat (by omega)).2.1
      omega
theorem S_app (a b : List UInt8) : Lx.S a ++ Lx.S b = Lx.S (a ++ b) := by
  rw [← Lx.S_of (Lx.S a ++ Lx.S b), Lx.app_list]; rfl
theorem S_write (a b : List UInt8) : Lx.S a ++ Lx.S b ++ ({ data := #[32] } : ByteArray) = Lx.S (a ++ (b ++ [32])) := by
  rw [show ({ data := #[32] } : ByteArray) = Lx.S [32] from rfl, S_app, S_app, List.append_assoc]
theorem rtext_tok (k : Int) (p : Nat) (n : Int) (t : List UInt8) (hn : n < 4294967296) (w : World) :
    Calls Tryd.prog 10 #[.agg (tkA k p n (Lx.S t))] w fun e w' => e = .returned (.string (Lx.S (Lx.text ⟨k, p, n, t⟩))) ∧ Below w.heap.size w w' := by
  refine (rtext_any k p n (Lx.S t) hn w).mono ?_
  rintro e w' ⟨rfl, hb⟩
  refine ⟨?_, hb⟩
  unfold Lx.text
  simp only
  split
  · rfl
  · split <;> rfl
theorem TkS.drewN {W : World} {q : Option Addr} {ts : List Lx.Tok} (h : TkS W q ts) (n : Nat) : TkS (W.drewN n) q ts := h
theorem Blk.drewN {W : World} {b n : Nat} {t : TypeId} {cs : Array Value} (h : Blk W b t n cs) (m : Nat) : Blk (W.drewN m) b t n cs := ⟨h.at', h.size⟩
def natC (n : Nat) : List Value := [.int .i64 (n : Int)]
theorem natC_len (n : Nat) : (natC n).length = 1 := rfl
theorem own_lt {W : World} {base : Nat} {e : TypeId} {size : Nat} {v : Value} {n : Nat} {xs : List Value} (h : W.ownsRow base e size v n xs) : ∀ j, v.ownBlock = some j → j < W.heap.size := by
  rcases h.2 with ⟨rfl, h0⟩ | ⟨g, cap, cur, rfl, hb, hg, hc, hm, hs, ht⟩
  · intro j hj; cases hj
  · intro j hj; cases hj; exact (Array.getElem?_eq_some_iff.1 hg).1
/-- a block of a struct's cells stands, where another row is written -/
theorem Blk.grown {W W' : World} {b n : Nat} {t : TypeId} {cs : Array Value} {row : Option Nat} (h : Blk W b t n cs) (hg : W.grownBy W' row) (hne : ∀ j, row = some j → j < b) : Blk W' b t n cs :=
  ⟨(hg.block b h.lt (fun e => absurd (hne b e.symm) (Nat.lt_irrefl _))).trans h.at', h.size⟩
/-- the places so far, as numbers -/
def Lx.ats (us : List Lx.Tok) (k : Nat) : List Nat := (List.range k).map (Lx.at' us)
theorem Lx.ats_len (us : List Lx.Tok) (k : Nat) : (Lx.ats us k).length = k := by simp [Lx.ats]
theorem Lx.ats_step (us : List Lx.Tok) (k : Nat) : Lx.ats us (k + 1) = Lx.ats us k ++ [Lx.at' us k] := by simp [Lx.ats, List.range_succ]
theorem Lx.ats_get (us : List Lx.Tok) (k j : Nat) (h : j < k) : (Lx.ats us k)[j]? = some (Lx.at' us j) := by
  simp [Lx.ats, h]
theorem Tryd.infoInt : (Tryd.prog.info? 3).map (fun i => (i.zero, i.size, i.bytes)) = some (some (.int .i64 0), 1, 8) := by kernel_rfl
end Go.Proofs.YtknbnfnibdbokaaDoor
