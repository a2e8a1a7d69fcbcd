/-
  Plain mathematics of layer 7: a memory as the byte of each address; loads, stores, steps. It names nothing of the translated program.
-/
import Derived.Test.YtchljdcjlkfbfaaMemQ
import Derived.Test.YtchljdcjlkfbfaaWordM
import Derived.Test.YtchljdcjlkfbfaaMryW
namespace Go.Proofs.Ytchljdcjlkfbfaa
open Go.RowKit
set_option linter.unusedVariables false

structure My.St where
  i : Int
  o : Int
  r : Int
  fl : ByteArray
  inp : ByteArray
structure My.Step where
  kind : Int
  a : Int
  n : Int
  v : Int
def My.sev (s : My.St) : List Mm.Rg := Mm.seven s.i s.o s.r (s.fl.size : Nat)
def My.merr (s : My.St) : Int := Mm.err s.i s.o s.r (s.fl.size : Nat)
def My.good (s : My.St) : Prop := My.merr s = 0 ∧ (s.inp.size : Int) = s.i
/-- New's error -/
def My.err (s : My.St) : Int := if My.merr s = 0 then (if (s.inp.size : Int) = s.i then 0 else 2) else My.merr s
/-- a byte of a word -/
def My.wb (v : Int) (j : Nat) : UInt8 := (Wd.bytes v).data.toList.getD j 0
/-- the byte of each address at first -/
def My.first (s : My.St) (a : Int) : UInt8 :=
  if a < (s.fl.size : Nat) then s.fl.data.toList.getD a.toNat 0 else if 536936448 ≤ a ∧ a < 536936448 + (s.inp.size : Nat) then s.inp.data.toList.getD (a - 536936448).toNat 0 else 0
/-- an access's error -/
def My.fe (s : My.St) (a n : Int) (wr : Bool) : Int := (Mm.find (My.sev s) a n wr).2
def My.put (M : Int → UInt8) (a n v : Int) : Int → UInt8 := fun b => if a ≤ b ∧ b < a + n then My.wb v (b - a).toNat else M b
def My.does (s : My.St) (M : Int → UInt8) (x : My.Step) : Int → UInt8 := if x.kind ≠ 0 ∧ My.fe s x.a x.n true = 0 then My.put M x.a x.n x.v else M
def My.after (s : My.St) (L : List My.Step) : Int → UInt8 := L.foldl (My.does s) (My.first s)
def My.num (M : Int → UInt8) (a n : Int) : Int := if n = 1 then Wd.four (M a) 0 0 0 else Wd.four (M a) (M (a + 1)) (M (a + 2)) (M (a + 3))
def My.load (s : My.St) (M : Int → UInt8) (a n : Int) : Int × Int := if My.fe s a n false = 0 then (My.num M a n, 0) else (0, My.fe s a n false)
/-- a step's answer -/
def My.ans (s : My.St) (M : Int → UInt8) (x : My.Step) : Int × Int := if x.kind = 0 then My.load s M x.a x.n else (0, My.fe s x.a x.n true)
def My.ansAt (s : My.St) (L : List My.Step) (k : Nat) : Int × Int := My.ans s (My.after s (L.take k)) (L.getD k ⟨0, 0, 0, 0⟩)
/-- the answers of the first k steps -/
def My.answers (s : My.St) (L : List My.Step) (k : Nat) : List (Int × Int) := (List.range k).map (My.ansAt s L)
/-- the bytes of a row of addresses -/
def My.row (M : Int → UInt8) (b : Int) (n : Nat) : List UInt8 := (List.range n).map fun j => M (b + (j : Nat))

theorem My.row_len (M : Int → UInt8) (b : Int) (n : Nat) : (My.row M b n).length = n := by simp [My.row]
theorem My.row_get (M : Int → UInt8) (b : Int) (n j : Nat) (h : j < n) : (My.row M b n)[j]? = some (M (b + (j : Nat))) := by simp [My.row, h]
theorem My.row_get' (M : Int → UInt8) (b : Int) (n j : Nat) (h : j < n) : (My.row M b n)[j]'(by rw [My.row_len]; exact h) = M (b + (j : Nat)) := by simp [My.row]
theorem My.wb_0 (v : Int) : My.wb v 0 = UInt8.ofNat (Wd.wrap v % 256).toNat := rfl
theorem My.bytes_len (v : Int) : (Wd.bytes v).data.toList.length = 4 := rfl
theorem My.wb_get (v : Int) (j : Nat) (h : j < 4) : (Wd.bytes v).data.toList[j]? = some (My.wb v j) := by
  unfold My.wb
  rw [List.getD_eq_getElem?_getD, List.getElem?_eq_getElem (by rw [My.bytes_len]; exact h)]
  rfl
/-- bytes laid over a row -/
theorem My.row_put (M : Int → UInt8) (b : Int) (len o n : Nat) (v : Int) (h : o + n ≤ len) (hn : n ≤ 4) :
    (My.row M b len).take o ++ (Wd.bytes v).data.toList.take n ++ (My.row M b len).drop (o + n) = My.row (My.put M (b + (o : Nat)) (n : Nat) v) b len := by
  have hl : ((Wd.bytes v).data.toList.take n).length = n := by rw [List.length_take, My.bytes_len]; omega
  have ht : ((My.row M b len).take o).length = o := by rw [List.length_take, My.row_len]; omega
  apply List.ext_getElem?
  intro j
  by_cases hj : j < len
  · rw [My.row_get _ _ _ _ hj]
    unfold My.put
    by_cases h1 : j < o
    · rw [if_neg (by omega), List.append_assoc, List.getElem?_append_left (by rw [ht]; exact h1), List.getElem?_take, if_pos h1, My.row_get _ _ _ _ hj]
    · by_cases h2 : j < o + n
      · rw [if_pos (by omega), List.append_assoc, List.getElem?_append_right (by rw [ht]; omega), ht, List.getElem?_append_left (by rw [hl]; omega), List.getElem?_take, if_pos (by omega), My.wb_get _ _ (by omega)]
        congr 2
        omega
      · rw [if_neg (by omega), List.getElem?_append_right (by rw [List.length_append, ht, hl]; omega), List.length_append, ht, hl, List.getElem?_drop, My.row_get _ _ _ _ (by omega)]
        congr 3
        omega
  · have e : (My.row (My.put M (b + (o : Nat)) (n : Nat) v) b len)[j]? = none := List.getElem?_eq_none (by rw [My.row_len]; omega)
    rw [e, List.getElem?_eq_none]
    rw [List.length_append, List.length_append, ht, hl, List.length_drop, My.row_len]
    omega
theorem My.row_same {M M' : Int → UInt8} {b : Int} {len : Nat} (h : ∀ j : Nat, j < len → M' (b + (j : Nat)) = M (b + (j : Nat))) : My.row M' b len = My.row M b len := by
  unfold My.row
  apply List.map_congr_left
  intro j hj
  exact h j (by simpa using hj)
theorem My.row_cut (M : Int → UInt8) (b : Int) (len o n : Nat) (h : o + n ≤ len) : ((My.row M b len).drop o).take n = My.row M (b + (o : Nat)) n := by
  apply List.ext_getElem?
  intro j
  rw [List.getElem?_take]
  split
  · rw [List.getElem?_drop, My.row_get _ _ _ _ (by omega), My.row_get _ _ _ _ (by assumption)]
    congr 2
    omega
  · rw [List.getElem?_eq_none (by rw [My.row_len]; omega)]

theorem My.okay {s : My.St} (h : My.good s) : Mm.okay s.i s.o s.r (s.fl.size : Nat) := Mm.okay_of h.1
theorem My.sev_len (s : My.St) : (My.sev s).length = 7 := rfl
/-- where a region begins, how long it is -/
def My.bs (s : My.St) (k : Nat) : Int := ((My.sev s).getD k ⟨0, 0, false⟩).base
def My.ln (s : My.St) (k : Nat) : Nat := ((My.sev s).getD k ⟨0, 0, false⟩).len.toNat
theorem My.bs_at (s : My.St) (k : Nat) (hk : k < (My.sev s).length) : (My.sev s)[k].base = My.bs s k := by
  unfold My.bs; rw [List.getD_eq_getElem?_getD, List.getElem?_eq_getElem hk]; rfl
theorem My.ln_at {s : My.St} (h : My.good s) (k : Nat) (hk : k < (My.sev s).length) : (My.sev s)[k].len = (My.ln s k : Nat) := by
  unfold My.ln; rw [List.getD_eq_getElem?_getD, List.getElem?_eq_getElem hk]
  have ok := My.okay h
  show _ = (((My.sev s)[k].len.toNat : Nat) : Int)
  unfold Mm.okay at ok
  have h0 : 0 ≤ (My.sev s)[k].len := by
    rcases Mm.seven_cases (My.okay h) k hk with ⟨_, _, h2, _⟩ | ⟨_, _, h2, _⟩
    · have : (My.sev s)[k].len = (s.fl.size : Nat) := h2
      omega
    · exact h2
  omega
theorem My.bs_bd {s : My.St} (h : My.good s) (k : Nat) (hk : k < 7) : 0 ≤ My.bs s k ∧ My.bs s k ≤ 538968064 ∧ My.ln s k ≤ 262144 := by
  have ok := My.okay h
  unfold Mm.okay at ok
  unfold My.bs My.ln My.sev Mm.seven
  rcases (by omega : k = 0 ∨ k = 1 ∨ k = 2 ∨ k = 3 ∨ k = 4 ∨ k = 5 ∨ k = 6) with rfl | rfl | rfl | rfl | rfl | rfl | rfl <;> simp <;> omega
/-- no two regions meet -/
theorem My.apart {s : My.St} (h : My.good s) {j k : Nat} (hj : j < 7) (hk : k < 7) {a : Int} (h1 : My.bs s j ≤ a) (h2 : a < My.bs s j + (My.ln s j : Nat)) (h3 : My.bs s k ≤ a) (h4 : a < My.bs s k + (My.ln s k : Nat)) : j = k := by
  refine Mm.apart (My.okay h) (a := a) hj hk ?_ ?_ ?_ ?_
  · exact (My.bs_at s j hj).symm ▸ h1
  · show a < (My.sev s)[j].base + (My.sev s)[j].len
    rw [My.bs_at s j hj, My.ln_at h j hj]; exact h2
  · exact (My.bs_at s k hk).symm ▸ h3
  · show a < (My.sev s)[k].base + (My.sev s)[k].len
    rw [My.bs_at s k hk, My.ln_at h k hk]; exact h4
theorem My.find_two (s : My.St) (a n : Int) (wr : Bool) : (Mm.find (My.sev s) a n wr).2 = 0 ∨ ((Mm.find (My.sev s) a n wr).1 = 0 ∧ ((Mm.find (My.sev s) a n wr).2 = 2 ∨ (Mm.find (My.sev s) a n wr).2 = 8)) := by
  unfold Mm.find
  split
  · right; exact ⟨rfl, Or.inl rfl⟩
  · split
    · right; exact ⟨rfl, Or.inr rfl⟩
    · rcases Mm.look_two a n wr (My.sev s) 0 with h | h
      · left; exact h
      · right; rw [h]; exact ⟨rfl, Or.inr rfl⟩
/-- an access that there is: its region, its first byte's place there -/
theorem My.found {s : My.St} (h : My.good s) {a n : Int} {wr : Bool} (hf : My.fe s a n wr = 0) :
    ∃ k o m : Nat, k < 7 ∧ Mm.find (My.sev s) a n wr = ((k : Int), 0) ∧ a = My.bs s k + (o : Nat) ∧ n = (m : Nat) ∧ (m = 1 ∨ m = 4) ∧ o + m ≤ My.ln s k ∧ (wr = true → 1 ≤ k) ∧ 0 ≤ a ∧ a ≤ 539230208 := by
  have hf' : (Mm.find (My.sev s) a n wr).2 = 0 := hf
  unfold Mm.find at hf'
  split at hf'
  · cases hf'
  · rename_i h1
    split at hf'
    · cases hf'
    · rename_i h2
      obtain ⟨X, E, hXE⟩ : ∃ X E, Mm.look a n wr (My.sev s) 0 = (X, E) := ⟨_, _, rfl⟩
      rw [hXE] at hf'
      obtain ⟨k, hk, hX, hh, hw⟩ := Mm.look_ok hXE hf'
      have hh' := Mm.has_iff.1 hh
      rw [My.bs_at s k hk, My.ln_at h k hk] at hh'
      have hb := My.bs_bd h k hk
      have hn : n = 1 ∨ n = 4 := by omega
      refine ⟨k, (a - My.bs s k).toNat, n.toNat, hk, ?_, by omega, by omega, by omega, by omega, ?_, by omega, by omega⟩
      · unfold Mm.find
        rw [if_neg h1, if_neg h2, hXE, hX]
        have : E = 0 := hf'
        rw [this]; congr 1; omega
      · intro hwr
        rcases Mm.seven_cases (My.okay h) k hk with ⟨h0, _, _, hx⟩ | ⟨h0, _⟩
        · have := hw hwr
          rw [show (My.sev s)[k].write = false from hx] at this
          cases this
        · exact h0
/-- a store leaves the other regions -/
theorem My.put_far {s : My.St} (h : My.good s) (M : Int → UInt8) {k k' o m : Nat} (hk : k < 7) (hk' : k' < 7) (hne : k' ≠ k) (ho : o + m ≤ My.ln s k) (v : Int) :
    My.row (My.put M (My.bs s k + (o : Nat)) (m : Nat) v) (My.bs s k') (My.ln s k') = My.row M (My.bs s k') (My.ln s k') := by
  apply My.row_same
  intro j hj
  unfold My.put
  rw [if_neg]
  rintro ⟨h1, h2⟩
  exact hne (My.apart h hk' hk (a := My.bs s k' + (j : Nat)) (by omega) (by omega) (by omega) (by omega))
theorem My.row_zero (b : Int) (n : Nat) {M : Int → UInt8} (h : ∀ j : Nat, j < n → M (b + (j : Nat)) = 0) : My.row M b n = List.replicate n 0 := by
  apply List.ext_getElem?
  intro j
  by_cases hj : j < n
  · rw [My.row_get _ _ _ _ hj, h j hj]; simp [hj]
  · rw [List.getElem?_eq_none (by rw [My.row_len]; omega), List.getElem?_eq_none (by simp; omega)]
theorem My.bl (b : ByteArray) : b.data.toList.length = b.size := rfl
theorem My.row_flash (s : My.St) : My.row (My.first s) 0 s.fl.size = s.fl.data.toList := by
  apply List.ext_getElem?
  intro j
  by_cases hj : j < s.fl.size
  · rw [My.row_get _ _ _ _ hj]
    unfold My.first
    rw [if_pos (by omega), List.getD_eq_getElem?_getD, show ((0 : Int) + (j : Nat)).toNat = j by omega, List.getElem?_eq_getElem (by rw [My.bl]; exact hj)]
    rfl
  · rw [List.getElem?_eq_none (by rw [My.row_len]; omega), List.getElem?_eq_none (by rw [My.bl]; omega)]
theorem My.row_input {s : My.St} (h : My.good s) : My.row (My.first s) 536936448 s.inp.size = s.inp.data.toList := by
  have ok := My.okay h
  unfold Mm.okay at ok
  apply List.ext_getElem?
  intro j
  by_cases hj : j < s.inp.size
  · rw [My.row_get _ _ _ _ hj]
    unfold My.first
    rw [if_neg (by omega), if_pos (by omega), List.getD_eq_getElem?_getD, show ((536936448 : Int) + (j : Nat) - 536936448).toNat = j by omega, List.getElem?_eq_getElem (by rw [My.bl]; exact hj)]
    rfl
  · rw [List.getElem?_eq_none (by rw [My.row_len]; omega), List.getElem?_eq_none (by rw [My.bl]; omega)]
theorem My.row_none {s : My.St} (h : My.good s) {k : Nat} (hk : k < 7) (h2 : 2 ≤ k) : My.row (My.first s) (My.bs s k) (My.ln s k) = List.replicate (My.ln s k) 0 := by
  have ok := My.okay h
  unfold Mm.okay at ok
  have hi := h.2
  apply My.row_zero
  intro j hj
  unfold My.first
  have hb : 537001984 ≤ My.bs s k := by
    unfold My.bs My.sev Mm.seven
    rcases (by omega : k = 2 ∨ k = 3 ∨ k = 4 ∨ k = 5 ∨ k = 6) with rfl | rfl | rfl | rfl | rfl <;> simp
  rw [if_neg (by omega), if_neg (by omega)]
theorem My.bs_0 (s : My.St) : My.bs s 0 = 0 := rfl
theorem My.bs_1 (s : My.St) : My.bs s 1 = 536936448 := rfl
theorem My.ln_0 (s : My.St) : My.ln s 0 = s.fl.size := by show ((s.fl.size : Nat) : Int).toNat = _; omega
theorem My.ln_1 {s : My.St} (h : My.good s) : My.ln s 1 = s.inp.size := by show s.i.toNat = _; have := h.2; omega

theorem My.after_nil (s : My.St) : My.after s [] = My.first s := rfl
theorem My.after_snoc (s : My.St) (L : List My.Step) (k : Nat) (hk : k < L.length) : My.after s (L.take (k + 1)) = My.does s (My.after s (L.take k)) L[k] := by
  unfold My.after
  rw [List.take_add_one, List.getElem?_eq_getElem hk, List.foldl_append]
  rfl
theorem My.getD_at (L : List My.Step) (k : Nat) (hk : k < L.length) : L.getD k ⟨0, 0, 0, 0⟩ = L[k] := by rw [List.getD_eq_getElem?_getD, List.getElem?_eq_getElem hk]; rfl
theorem My.answers_snoc (s : My.St) (L : List My.Step) (k : Nat) : My.answers s L (k + 1) = My.answers s L k ++ [My.ansAt s L k] := by
  unfold My.answers; rw [List.range_succ, List.map_append]; rfl
theorem My.answers_len (s : My.St) (L : List My.Step) (k : Nat) : (My.answers s L k).length = k := by simp [My.answers]
/-- the number, byte by byte from the highest -/
def My.hi (M : Int → UInt8) (a : Int) (n : Nat) : Nat → Int
  | 0 => 0
  | d + 1 => 256 * My.hi M a n d + (M (a + ((n - 1 - d : Nat) : Nat))).toNat
theorem My.hi_bd (M : Int → UInt8) (a : Int) (n : Nat) (d : Nat) (hd : d ≤ 4) : 0 ≤ My.hi M a n d ∧ My.hi M a n d < 4294967296 := by
  have step : ∀ d, 0 ≤ My.hi M a n d ∧ My.hi M a n d < 256 ^ d := by
    intro d
    induction d with
    | zero => exact ⟨Int.le_refl 0, (by decide : (0 : Int) < 256 ^ 0)⟩
    | succ d ih =>
      have hb := (M (a + ((n - 1 - d : Nat) : Nat))).toNat_lt
      show 0 ≤ 256 * My.hi M a n d + _ ∧ 256 * My.hi M a n d + _ < _
      rw [Int.pow_succ]
      omega
  have h := step d
  rcases (by omega : d = 0 ∨ d = 1 ∨ d = 2 ∨ d = 3 ∨ d = 4) with rfl | rfl | rfl | rfl | rfl <;> exact ⟨h.1, Int.lt_of_lt_of_le h.2 (by decide)⟩
theorem My.hi_1 (M : Int → UInt8) (a : Int) : My.hi M a 1 1 = My.num M a 1 := by
  show 256 * 0 + ((M (a + 0)).toNat : Int) = Wd.four (M a) 0 0 0
  unfold Wd.four
  rw [show a + 0 = a by omega]
  show _ = ((M a).toNat : Int) + 256 * (0 : Nat) + 65536 * (0 : Nat) + 16777216 * (0 : Nat)
  omega
theorem My.hi_4 (M : Int → UInt8) (a : Int) : My.hi M a 4 4 = My.num M a 4 := by
  show 256 * (256 * (256 * (256 * 0 + ((M (a + 3)).toNat : Int)) + ((M (a + 2)).toNat : Int)) + ((M (a + 1)).toNat : Int)) + ((M (a + 0)).toNat : Int) = Wd.four (M a) (M (a + 1)) (M (a + 2)) (M (a + 3))
  unfold Wd.four
  rw [show a + 0 = a by omega]
  omega
end Go.Proofs.Ytchljdcjlkfbfaa
