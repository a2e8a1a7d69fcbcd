/-
Plain mathematics of bytes as instructions: what the calls of package decode tell, as functions on numbers. It names nothing of the translated program.
Plain mathematics of bytes as instructions: bits that fit a row of the table are those of the instruction that is read of them. It names nothing of the translated program.
Plain mathematics of bytes as instructions: what is decoded is an instruction of just those bits, and an instruction's bits are decoded as it. It names nothing of the translated program.
Plain mathematics of bytes as instructions: an instruction's bytes, with whatever behind them, are decoded as it, and what is decoded has just those bytes. It names nothing of the translated program.
Plain mathematics of bytes as instructions: bits as noughts and ones, as the document writes them. It names nothing of the translated program.
Plain mathematics of bytes as instructions: the document's own reading of bits, letter by letter. It names nothing of the translated program.
Plain mathematics of bytes as instructions: what the document reads of bits, letter by letter, is what the program reads of them. It names nothing of the translated program.
-/
import Derived.Test.YtplfpaffjaldoaaThumbM
import Derived.Lib.Hide
section
namespace Go.Proofs.Ytplfpaffjaldoaa.De
open Go.RowKit

def byt (s : ByteArray) (k : Nat) : Nat := if h : k < s.size then s[k].toNat else 0
theorem byt_eq (s : ByteArray) (k : Nat) (h : k < s.size) : s[k].toNat = byt s k := by unfold byt; rw [dif_pos h]
theorem byt_lt (s : ByteArray) (k : Nat) : byt s k < 256 := by unfold byt; split; exact UInt8.toNat_lt _; decide
/-- the k-th 16 bits of bytes -/
def half (s : ByteArray) (k : Nat) : Nat := byt s (2 * k) + 256 * byt s (2 * k + 1)
theorem half_lt (s : ByteArray) (k : Nat) : half s k < 65536 := by unfold half; have := byt_lt s (2 * k); have := byt_lt s (2 * k + 1); omega
def size (s : ByteArray) : Nat := if s.size < 2 then 0 else if half s 0 < 59392 then 2 else 4
/-- the bits of an instruction of so many bytes -/
def word (s : ByteArray) (n : Nat) : Nat := if n = 4 then half s 0 * 65536 + half s 1 else half s 0
theorem word_lt (s : ByteArray) (n : Nat) : word s n < 4294967296 := by
  unfold word; have := half_lt s 0; have := half_lt s 1; split <;> omega
/-- so many bits from one on -/
def pt (w f c : Nat) : Nat := w / 2 ^ f % 2 ^ c
theorem pt_lt (w f c : Nat) : pt w f c < 2 ^ c := Nat.mod_lt _ (Nat.two_pow_pos c)
def hit (w m b : Nat) : Bool := (w &&& m) == b
def rows : List (Int × Nat × Nat) :=
  [(1, 4294967295, 48896), (2, 4294967040, 48640), (3, 4226842624, 4064280576), (4, 4226842624, 4072669184), (5, 4294934576, 3931045888), (6, 4294934576, 3931045904), (7, 4294934576, 3931045920), (8, 4294934576, 3931045936), (9, 4294963440, 3933143040), (10, 4293980400, 3925868544), (11, 4293980400, 3927965696), (12, 4293980400, 3930062848), (13, 4293980400, 3934257152), (14, 4293980400, 3942645760), (15, 4293980400, 3953131520), (16, 4293980400, 4211142656), (17, 4293918960, 4221566976), (18, 4293951520, 4083154944), (19, 4294967232, 26624), (20, 4294967232, 24576), (21, 4294967232, 30720), (22, 4294967232, 28672), (23, 4294967232, 17024), (24, 4294965248, 57344), (24, 4160802816, 4026568704), (25, 4294963200, 53248), (25, 4160802816, 4026564608)]
def findIn (w : Nat) : List (Int × Nat × Nat) → Int
  | [] => 0
  | r :: l => if hit w r.2.1 r.2.2 then r.1 else findIn w l
def find (w : Nat) : Int := findIn w rows
def shift (w : Nat) : Nat := pt w 12 3 * 4 + pt w 6 2
def alike (a b : Nat) : Nat := if a = b then 1 else 0
def signed (n c : Nat) : Int := if n < 2 ^ (c - 1) then (n : Int) else (n : Int) - 2 ^ c
def imm16 (x : Nat) : Nat := pt x 16 4 * 4096 + pt x 26 1 * 2048 + pt x 12 3 * 256 + pt x 0 8
def b24w (x : Nat) : Nat := pt x 26 1 * 16777216 + alike (pt x 13 1) (pt x 26 1) * 8388608 + alike (pt x 11 1) (pt x 26 1) * 4194304 + pt x 16 10 * 4096 + pt x 0 11 * 2
def b24n (x : Nat) : Nat := pt x 0 11 * 2
def b25w (x : Nat) : Nat := pt x 26 1 * 1048576 + pt x 11 1 * 524288 + pt x 13 1 * 262144 + pt x 16 6 * 4096 + pt x 0 11 * 2
def b25n (x : Nat) : Nat := pt x 0 8 * 2
theorem alike_lt (a b : Nat) : alike a b < 2 := by unfold alike; split <;> decide
open Th (Ins none0)
def readB (op : Int) (w : Nat) : Ins :=
  if op == 24 then
    (if 65536 ≤ w then { none0 with op := op, wide := true, imm := signed (b24w w) 25 }
     else { none0 with op := op, imm := signed (b24n w) 12 })
  else
    (if 65536 ≤ w then { none0 with op := op, wide := true, cond := pt w 22 4, imm := signed (b25w w) 21 }
     else { none0 with op := op, cond := pt w 8 4, imm := signed (b25n w) 9 })
def read (op : Int) (w : Nat) : Ins :=
  if op == 2 then { none0 with op := op, imm := pt w 0 8 }
  else if op == 3 || op == 4 then { none0 with op := op, rd := pt w 8 4, imm := imm16 w }
  else if op == 5 || op == 6 || op == 7 || op == 8 then { none0 with op := op, rd := pt w 8 4, rm := pt w 0 4, imm := shift w }
  else if op == 9 then { none0 with op := op, rd := pt w 8 4, rm := pt w 0 4 }
  else if op == 10 || op == 11 || op == 12 || op == 13 || op == 14 || op == 15 || op == 16 then { none0 with op := op, rd := pt w 8 4, rn := pt w 16 4, rm := pt w 0 4 }
  else if op == 17 then { none0 with op := op, rd := pt w 12 4, ra := pt w 8 4, rn := pt w 16 4, rm := pt w 0 4 }
  else if op == 18 then { none0 with op := op, rd := pt w 8 4, rn := pt w 16 4, imm := shift w, ra := (pt w 0 5 : Int) + 1 - shift w }
  else if op == 19 || op == 20 || op == 21 || op == 22 then { none0 with op := op, rd := pt w 0 3, rn := pt w 3 3 }
  else if op == 23 then { none0 with op := op, rn := pt w 0 3, rm := pt w 3 3 }
  else if op == 24 || op == 25 then readB op w
  else { none0 with op := op }
def there (i : Ins) : Bool :=
  if decide (12 < i.rd) || decide (12 < i.rn) || decide (12 < i.rm) || decide (13 < i.cond) then false
  else if i.op == 0 then false
  else if i.op == 6 || i.op == 7 || i.op == 8 then decide (1 ≤ i.imm)
  else if i.op == 17 then decide (i.ra ≤ 12) && i.ra != i.rd
  else if i.op == 18 then decide (1 ≤ i.ra)
  else true
/-- what bytes are: an instruction, how many bytes it has, and the error -/
def told (s : ByteArray) : Ins := read (find (word s (size s))) (word s (size s))
def err (s : ByteArray) : Int := if size s = 0 ∨ s.size < size s then 3 else if there (told s) then 0 else 7
def ins (s : ByteArray) : Ins := if err s = 0 then told s else none0
def len (s : ByteArray) : Nat := if err s = 0 then size s else 0

theorem and_u32 (x m : Nat) (hx : x < 4294967296) (hm : m < 4294967296) : bits .and .u32 (x : Int) (m : Int) = ((x &&& m : Nat) : Int) := by
  show IntKind.u32.wrap ((BitVec.ofInt 32 (x : Int) &&& BitVec.ofInt 32 (m : Int)).toNat : Int) = _
  have e : ∀ y : Nat, y < 4294967296 → (BitVec.ofInt 32 (y : Int)).toNat = y := fun y hy => by
    rw [BitVec.toNat_ofInt]; omega
  have hl : x &&& m < 2 ^ 32 := Nat.and_lt_two_pow _ hm
  rw [BitVec.toNat_and, e x hx, e m hm, IntKind.wrap_u32]
  omega
theorem or_u32 (x m : Nat) (hx : x < 4294967296) (hm : m < 4294967296) : bits .or .u32 (x : Int) (m : Int) = ((x ||| m : Nat) : Int) := by
  show IntKind.u32.wrap ((BitVec.ofInt 32 (x : Int) ||| BitVec.ofInt 32 (m : Int)).toNat : Int) = _
  have e : ∀ y : Nat, y < 4294967296 → (BitVec.ofInt 32 (y : Int)).toNat = y := fun y hy => by
    rw [BitVec.toNat_ofInt]; omega
  have hl : x ||| m < 2 ^ 32 := Nat.or_lt_two_pow hx hm
  rw [BitVec.toNat_or, e x hx, e m hm, IntKind.wrap_u32]
  omega
end Go.Proofs.Ytplfpaffjaldoaa.De
end
section
namespace Go.Proofs.Ytplfpaffjaldoaa.De
open Go.RowKit
open Th (Ins none0 check num size fv off)
set_option linter.unusedVariables false

theorem run_of (x m b lo len v M : Nat) (h : x &&& m = b) (hM : 2 ^ len - 1 = M) (hm : m / 2 ^ lo % 2 ^ len = M) (hb : b / 2 ^ lo % 2 ^ len = v) : pt x lo len = v := by
  subst hM
  unfold pt
  rw [← hb, ← h, ← Nat.shiftRight_eq_div_pow, ← Nat.shiftRight_eq_div_pow, Nat.shiftRight_and_distrib, Nat.and_mod_two_pow, Nat.shiftRight_eq_div_pow m, hm, Nat.and_two_pow_sub_one_eq_mod, Nat.mod_mod]
theorem seg (x a l A L B : Nat) (hA : 2 ^ a = A) (hL : 2 ^ l = L) (hB : 2 ^ (a + l) = B) : x / A = x / B * L + pt x a l := by
  subst hA; subst hL; subst hB
  unfold pt
  rw [Nat.pow_add, ← Nat.div_div_eq_div_mul]
  have := Nat.div_add_mod (x / 2 ^ a) (2 ^ l)
  rw [Nat.mul_comm] at this
  exact this.symm
theorem dig (n h d l r q : Nat) (e : n = (h * q + d) * r + l) (hl : l < r) (hd : d < q) : n / r % q = d := by
  have hr : 0 < r := by omega
  rw [e, Nat.mul_comm _ r, Nat.mul_add_div hr, Nat.div_eq_of_lt hl, Nat.add_zero, Nat.mul_comm h q, Nat.mul_add_mod, Nat.mod_eq_of_lt hd]
theorem fv_nat (n r q : Nat) : fv (n : Int) r q = n / r % q := rfl
set_option maxRecDepth 100000 in
theorem rowA1 (x : Nat) (hx : x < 4294967296) (h : hit x 4294967295 48896 = true) (ht : there (read 1 x) = true) : check (read 1 x) = 0 ∧ num (read 1 x) = x := by
  have h' : x &&& 4294967295 = 48896 := eq_of_beq h
  have hr : read 1 x = ⟨1, 0, 0, 0, 0, 0, 0, false⟩ := rfl
  rw [hr] at ht ⊢
  clear hr
  unfold there at ht
  have s0 := seg x 0 32 1 4294967296 4294967296 (by decide) (by decide) (by decide)
  have f0 : pt x 0 32 = 48896 := run_of x 4294967295 48896 0 32 48896 4294967295 h' (by decide) (by decide) (by decide)
  have z : x / 4294967296 = 0 := Nat.div_eq_of_lt hx
  rw [Nat.div_one] at s0
  rw [z] at s0
  generalize hp0 : pt x 0 32 = p0 at *
  clear h h'
  simp at ht
  refine ⟨(Th.ok1 _ _ _ _ _ _ _).2 ⟨by first | rfl | omega, by first | rfl | omega, by first | rfl | omega, by first | rfl | omega, by first | rfl | omega, by first | rfl | omega, by first | rfl | omega⟩, ?_⟩
  rw [Th.num1]
  (try simp only [fv_nat])
  (try unfold fv)
  omega
set_option maxRecDepth 100000 in
theorem rowA2 (x : Nat) (hx : x < 4294967296) (h : hit x 4294967040 48640 = true) (ht : there (read 2 x) = true) : check (read 2 x) = 0 ∧ num (read 2 x) = x := by
  have h' : x &&& 4294967040 = 48640 := eq_of_beq h
  have hr : read 2 x = ⟨2, 0, 0, 0, 0, ((pt x 0 8 : Nat) : Int), 0, false⟩ := rfl
  rw [hr] at ht ⊢
  clear hr
  unfold there at ht
  have s0 := seg x 0 8 1 256 256 (by decide) (by decide) (by decide)
  have f0 : pt x 0 8 < 256 := pt_lt x 0 8
  have s1 := seg x 8 24 256 16777216 4294967296 (by decide) (by decide) (by decide)
  have f1 : pt x 8 24 = 190 := run_of x 4294967040 48640 8 24 190 16777215 h' (by decide) (by decide) (by decide)
  have z : x / 4294967296 = 0 := Nat.div_eq_of_lt hx
  rw [Nat.div_one] at s0
  rw [z] at s1
  generalize x / 256 = q0 at *
  generalize hp0 : pt x 0 8 = p0 at *
  generalize hp1 : pt x 8 24 = p1 at *
  clear h h'
  simp at ht
  refine ⟨(Th.ok2 _ _ _ _ _ _ _).2 ⟨by first | rfl | omega, by first | rfl | omega, by first | rfl | omega, by first | rfl | omega, by first | rfl | omega, by first | rfl | omega, by first | rfl | omega⟩, ?_⟩
  rw [Th.num2]
  (try simp only [fv_nat])
  (try unfold fv)
  omega
set_option maxRecDepth 100000 in
theorem rowA3 (x : Nat) (hx : x < 4294967296) (h : hit x 4226842624 4064280576 = true) (ht : there (read 3 x) = true) : check (read 3 x) = 0 ∧ num (read 3 x) = x := by
  have h' : x &&& 4226842624 = 4064280576 := eq_of_beq h
  have hr : read 3 x = ⟨3, ((pt x 8 4 : Nat) : Int), 0, 0, 0, ((imm16 x : Nat) : Int), 0, false⟩ := rfl
  rw [hr] at ht ⊢
  clear hr
  unfold there at ht
  unfold imm16 at *
  have s0 := seg x 0 8 1 256 256 (by decide) (by decide) (by decide)
  have f0 : pt x 0 8 < 256 := pt_lt x 0 8
  have s1 := seg x 8 4 256 16 4096 (by decide) (by decide) (by decide)
  have f1 : pt x 8 4 < 16 := pt_lt x 8 4
  have s2 := seg x 12 3 4096 8 32768 (by decide) (by decide) (by decide)
  have f2 : pt x 12 3 < 8 := pt_lt x 12 3
  have s3 := seg x 15 1 32768 2 65536 (by decide) (by decide) (by decide)
  have f3 : pt x 15 1 = 0 := run_of x 4226842624 4064280576 15 1 0 1 h' (by decide) (by decide) (by decide)
  have s4 := seg x 16 4 65536 16 1048576 (by decide) (by decide) (by decide)
  have f4 : pt x 16 4 < 16 := pt_lt x 16 4
  have s5 := seg x 20 6 1048576 64 67108864 (by decide) (by decide) (by decide)
  have f5 : pt x 20 6 = 36 := run_of x 4226842624 4064280576 20 6 36 63 h' (by decide) (by decide) (by decide)
  have s6 := seg x 26 1 67108864 2 134217728 (by decide) (by decide) (by decide)
  have f6 : pt x 26 1 < 2 := pt_lt x 26 1
  have s7 := seg x 27 5 134217728 32 4294967296 (by decide) (by decide) (by decide)
  have f7 : pt x 27 5 = 30 := run_of x 4226842624 4064280576 27 5 30 31 h' (by decide) (by decide) (by decide)
  have z : x / 4294967296 = 0 := Nat.div_eq_of_lt hx
  rw [Nat.div_one] at s0
  rw [z] at s7
  generalize x / 256 = q0 at *
  generalize x / 4096 = q1 at *
  generalize x / 32768 = q2 at *
  generalize x / 65536 = q3 at *
  generalize x / 1048576 = q4 at *
  generalize x / 67108864 = q5 at *
  generalize x / 134217728 = q6 at *
  generalize hp0 : pt x 0 8 = p0 at *
  generalize hp1 : pt x 8 4 = p1 at *
  generalize hp2 : pt x 12 3 = p2 at *
  generalize hp3 : pt x 15 1 = p3 at *
  generalize hp4 : pt x 16 4 = p4 at *
  generalize hp5 : pt x 20 6 = p5 at *
  generalize hp6 : pt x 26 1 = p6 at *
  generalize hp7 : pt x 27 5 = p7 at *
  clear h h'
  simp at ht
  refine ⟨(Th.ok3 _ _ _ _ _ _ _).2 ⟨by first | rfl | omega, by first | rfl | omega, by first | rfl | omega, by first | rfl | omega, by first | rfl | omega, by first | rfl | omega, by first | rfl | omega⟩, ?_⟩
  rw [Th.num3]
  have g0 : fv ((p4 * 4096 + p6 * 2048 + p2 * 256 + p0 : Nat) : Int) 2048 2 = p6 := by rw [fv_nat]; exact dig _ (p4 * 1) p6 (p2 * 256 + p0 * 1) 2048 2 (by omega) (by omega) (by omega)
  have g1 : fv ((p4 * 4096 + p6 * 2048 + p2 * 256 + p0 : Nat) : Int) 4096 16 = p4 := by rw [fv_nat]; exact dig _ (0) p4 (p6 * 2048 + p2 * 256 + p0 * 1) 4096 16 (by omega) (by omega) (by omega)
  have g2 : fv ((p4 * 4096 + p6 * 2048 + p2 * 256 + p0 : Nat) : Int) 256 8 = p2 := by rw [fv_nat]; exact dig _ (p4 * 2 + p6 * 1) p2 (p0 * 1) 256 8 (by omega) (by omega) (by omega)
  have g3 : fv ((p4 * 4096 + p6 * 2048 + p2 * 256 + p0 : Nat) : Int) 1 256 = p0 := by rw [fv_nat]; exact dig _ (p4 * 16 + p6 * 8 + p2 * 1) p0 (0) 1 256 (by omega) (by omega) (by omega)
  have g4 : fv ((p1 : Nat) : Int) 1 16 = p1 := by rw [fv_nat]; omega
  rw [g0, g1, g2, g3, g4]
  omega
set_option maxRecDepth 100000 in
theorem rowA4 (x : Nat) (hx : x < 4294967296) (h : hit x 4226842624 4072669184 = true) (ht : there (read 4 x) = true) : check (read 4 x) = 0 ∧ num (read 4 x) = x := by
  have h' : x &&& 4226842624 = 4072669184 := eq_of_beq h
  have hr : read 4 x = ⟨4, ((pt x 8 4 : Nat) : Int), 0, 0, 0, ((imm16 x : Nat) : Int), 0, false⟩ := rfl
  rw [hr] at ht ⊢
  clear hr
  unfold there at ht
  unfold imm16 at *
  have s0 := seg x 0 8 1 256 256 (by decide) (by decide) (by decide)
  have f0 : pt x 0 8 < 256 := pt_lt x 0 8
  have s1 := seg x 8 4 256 16 4096 (by decide) (by decide) (by decide)
  have f1 : pt x 8 4 < 16 := pt_lt x 8 4
  have s2 := seg x 12 3 4096 8 32768 (by decide) (by decide) (by decide)
  have f2 : pt x 12 3 < 8 := pt_lt x 12 3
  have s3 := seg x 15 1 32768 2 65536 (by decide) (by decide) (by decide)
  have f3 : pt x 15 1 = 0 := run_of x 4226842624 4072669184 15 1 0 1 h' (by decide) (by decide) (by decide)
  have s4 := seg x 16 4 65536 16 1048576 (by decide) (by decide) (by decide)
  have f4 : pt x 16 4 < 16 := pt_lt x 16 4
  have s5 := seg x 20 6 1048576 64 67108864 (by decide) (by decide) (by decide)
  have f5 : pt x 20 6 = 44 := run_of x 4226842624 4072669184 20 6 44 63 h' (by decide) (by decide) (by decide)
  have s6 := seg x 26 1 67108864 2 134217728 (by decide) (by decide) (by decide)
  have f6 : pt x 26 1 < 2 := pt_lt x 26 1
  have s7 := seg x 27 5 134217728 32 4294967296 (by decide) (by decide) (by decide)
  have f7 : pt x 27 5 = 30 := run_of x 4226842624 4072669184 27 5 30 31 h' (by decide) (by decide) (by decide)
  have z : x / 4294967296 = 0 := Nat.div_eq_of_lt hx
  rw [Nat.div_one] at s0
  rw [z] at s7
  generalize x / 256 = q0 at *
  generalize x / 4096 = q1 at *
  generalize x / 32768 = q2 at *
  generalize x / 65536 = q3 at *
  generalize x / 1048576 = q4 at *
  generalize x / 67108864 = q5 at *
  generalize x / 134217728 = q6 at *
  generalize hp0 : pt x 0 8 = p0 at *
  generalize hp1 : pt x 8 4 = p1 at *
  generalize hp2 : pt x 12 3 = p2 at *
  generalize hp3 : pt x 15 1 = p3 at *
  generalize hp4 : pt x 16 4 = p4 at *
  generalize hp5 : pt x 20 6 = p5 at *
  generalize hp6 : pt x 26 1 = p6 at *
  generalize hp7 : pt x 27 5 = p7 at *
  clear h h'
  simp at ht
  refine ⟨(Th.ok4 _ _ _ _ _ _ _).2 ⟨by first | rfl | omega, by first | rfl | omega, by first | rfl | omega, by first | rfl | omega, by first | rfl | omega, by first | rfl | omega, by first | rfl | omega⟩, ?_⟩
  rw [Th.num4]
  have g0 : fv ((p4 * 4096 + p6 * 2048 + p2 * 256 + p0 : Nat) : Int) 2048 2 = p6 := by rw [fv_nat]; exact dig _ (p4 * 1) p6 (p2 * 256 + p0 * 1) 2048 2 (by omega) (by omega) (by omega)
  have g1 : fv ((p4 * 4096 + p6 * 2048 + p2 * 256 + p0 : Nat) : Int) 4096 16 = p4 := by rw [fv_nat]; exact dig _ (0) p4 (p6 * 2048 + p2 * 256 + p0 * 1) 4096 16 (by omega) (by omega) (by omega)
  have g2 : fv ((p4 * 4096 + p6 * 2048 + p2 * 256 + p0 : Nat) : Int) 256 8 = p2 := by rw [fv_nat]; exact dig _ (p4 * 2 + p6 * 1) p2 (p0 * 1) 256 8 (by omega) (by omega) (by omega)
  have g3 : fv ((p4 * 4096 + p6 * 2048 + p2 * 256 + p0 : Nat) : Int) 1 256 = p0 := by rw [fv_nat]; exact dig _ (p4 * 16 + p6 * 8 + p2 * 1) p0 (0) 1 256 (by omega) (by omega) (by omega)
  have g4 : fv ((p1 : Nat) : Int) 1 16 = p1 := by rw [fv_nat]; omega
  rw [g0, g1, g2, g3, g4]
  omega
set_option maxRecDepth 100000 in
theorem rowA5 (x : Nat) (hx : x < 4294967296) (h : hit x 4294934576 3931045888 = true) (ht : there (read 5 x) = true) : check (read 5 x) = 0 ∧ num (read 5 x) = x := by
  have h' : x &&& 4294934576 = 3931045888 := eq_of_beq h
  have hr : read 5 x = ⟨5, ((pt x 8 4 : Nat) : Int), 0, ((pt x 0 4 : Nat) : Int), 0, ((shift x : Nat) : Int), 0, false⟩ := rfl
  rw [hr] at ht ⊢
  clear hr
  unfold there at ht
  unfold shift at *
  have s0 := seg x 0 4 1 16 16 (by decide) (by decide) (by decide)
  have f0 : pt x 0 4 < 16 := pt_lt x 0 4
  have s1 := seg x 4 2 16 4 64 (by decide) (by decide) (by decide)
  have f1 : pt x 4 2 = 0 := run_of x 4294934576 3931045888 4 2 0 3 h' (by decide) (by decide) (by decide)
  have s2 := seg x 6 2 64 4 256 (by decide) (by decide) (by decide)
  have f2 : pt x 6 2 < 4 := pt_lt x 6 2
  have s3 := seg x 8 4 256 16 4096 (by decide) (by decide) (by decide)
  have f3 : pt x 8 4 < 16 := pt_lt x 8 4
  have s4 := seg x 12 3 4096 8 32768 (by decide) (by decide) (by decide)
  have f4 : pt x 12 3 < 8 := pt_lt x 12 3
  have s5 := seg x 15 17 32768 131072 4294967296 (by decide) (by decide) (by decide)
  have f5 : pt x 15 17 = 119966 := run_of x 4294934576 3931045888 15 17 119966 131071 h' (by decide) (by decide) (by decide)
  have z : x / 4294967296 = 0 := Nat.div_eq_of_lt hx
  rw [Nat.div_one] at s0
  rw [z] at s5
  generalize x / 16 = q0 at *
  generalize x / 64 = q1 at *
  generalize x / 256 = q2 at *
  generalize x / 4096 = q3 at *
  generalize x / 32768 = q4 at *
  generalize hp0 : pt x 0 4 = p0 at *
  generalize hp1 : pt x 4 2 = p1 at *
  generalize hp2 : pt x 6 2 = p2 at *
  generalize hp3 : pt x 8 4 = p3 at *
  generalize hp4 : pt x 12 3 = p4 at *
  generalize hp5 : pt x 15 17 = p5 at *
  clear h h'
  simp at ht
  refine ⟨(Th.ok5 _ _ _ _ _ _ _).2 ⟨by first | rfl | omega, by first | rfl | omega, by first | rfl | omega, by first | rfl | omega, by first | rfl | omega, by first | rfl | omega, by first | rfl | omega⟩, ?_⟩
  rw [Th.num5]
  (try simp only [fv_nat])
  (try unfold fv)
  omega
set_option maxRecDepth 100000 in
theorem rowA6 (x : Nat) (hx : x < 4294967296) (h : hit x 4294934576 3931045904 = true) (ht : there (read 6 x) = true) : check (read 6 x) = 0 ∧ num (read 6 x) = x := by
  have h' : x &&& 4294934576 = 3931045904 := eq_of_beq h
  have hr : read 6 x = ⟨6, ((pt x 8 4 : Nat) : Int), 0, ((pt x 0 4 : Nat) : Int), 0, ((shift x : Nat) : Int), 0, false⟩ := rfl
  rw [hr] at ht ⊢
  clear hr
  unfold there at ht
  unfold shift at *
  have s0 := seg x 0 4 1 16 16 (by decide) (by decide) (by decide)
  have f0 : pt x 0 4 < 16 := pt_lt x 0 4
  have s1 := seg x 4 2 16 4 64 (by decide) (by decide) (by decide)
  have f1 : pt x 4 2 = 1 := run_of x 4294934576 3931045904 4 2 1 3 h' (by decide) (by decide) (by decide)
  have s2 := seg x 6 2 64 4 256 (by decide) (by decide) (by decide)
  have f2 : pt x 6 2 < 4 := pt_lt x 6 2
  have s3 := seg x 8 4 256 16 4096 (by decide) (by decide) (by decide)
  have f3 : pt x 8 4 < 16 := pt_lt x 8 4
  have s4 := seg x 12 3 4096 8 32768 (by decide) (by decide) (by decide)
  have f4 : pt x 12 3 < 8 := pt_lt x 12 3
  have s5 := seg x 15 17 32768 131072 4294967296 (by decide) (by decide) (by decide)
  have f5 : pt x 15 17 = 119966 := run_of x 4294934576 3931045904 15 17 119966 131071 h' (by decide) (by decide) (by decide)
  have z : x / 4294967296 = 0 := Nat.div_eq_of_lt hx
  rw [Nat.div_one] at s0
  rw [z] at s5
  generalize x / 16 = q0 at *
  generalize x / 64 = q1 at *
  generalize x / 256 = q2 at *
  generalize x / 4096 = q3 at *
  generalize x / 32768 = q4 at *
  generalize hp0 : pt x 0 4 = p0 at *
  generalize hp1 : pt x 4 2 = p1 at *
  generalize hp2 : pt x 6 2 = p2 at *
  generalize hp3 : pt x 8 4 = p3 at *
  generalize hp4 : pt x 12 3 = p4 at *
  generalize hp5 : pt x 15 17 = p5 at *
  clear h h'
  simp at ht
  refine ⟨(Th.ok6 _ _ _ _ _ _ _).2 ⟨by first | rfl | omega, by first | rfl | omega, by first | rfl | omega, by first | rfl | omega, by first | rfl | omega, by first | rfl | omega, by first | rfl | omega⟩, ?_⟩
  rw [Th.num6]
  (try simp only [fv_nat])
  (try unfold fv)
  omega
set_option maxRecDepth 100000 in
theorem rowA7 (x : Nat) (hx : x < 4294967296) (h : hit x 4294934576 3931045920 = true) (ht : there (read 7 x) = true) : check (read 7 x) = 0 ∧ num (read 7 x) = x := by
  have h' : x &&& 4294934576 = 3931045920 := eq_of_beq h
  have hr : read 7 x = ⟨7, ((pt x 8 4 : Nat) : Int), 0, ((pt x 0 4 : Nat) : Int), 0, ((shift x : Nat) : Int), 0, false⟩ := rfl
  rw [hr] at ht ⊢
  clear hr
  unfold there at ht
  unfold shift at *
  have s0 := seg x 0 4 1 16 16 (by decide) (by decide) (by decide)
  have f0 : pt x 0 4 < 16 := pt_lt x 0 4
  have s1 := seg x 4 2 16 4 64 (by decide) (by decide) (by decide)
  have f1 : pt x 4 2 = 2 := run_of x 4294934576 3931045920 4 2 2 3 h' (by decide) (by decide) (by decide)
  have s2 := seg x 6 2 64 4 256 (by decide) (by decide) (by decide)
  have f2 : pt x 6 2 < 4 := pt_lt x 6 2
  have s3 := seg x 8 4 256 16 4096 (by decide) (by decide) (by decide)
  have f3 : pt x 8 4 < 16 := pt_lt x 8 4
  have s4 := seg x 12 3 4096 8 32768 (by decide) (by decide) (by decide)
  have f4 : pt x 12 3 < 8 := pt_lt x 12 3
  have s5 := seg x 15 17 32768 131072 4294967296 (by decide) (by decide) (by decide)
  have f5 : pt x 15 17 = 119966 := run_of x 4294934576 3931045920 15 17 119966 131071 h' (by decide) (by decide) (by decide)
  have z : x / 4294967296 = 0 := Nat.div_eq_of_lt hx
  rw [Nat.div_one] at s0
  rw [z] at s5
  generalize x / 16 = q0 at *
  generalize x / 64 = q1 at *
  generalize x / 256 = q2 at *
  generalize x / 4096 = q3 at *
  generalize x / 32768 = q4 at *
  generalize hp0 : pt x 0 4 = p0 at *
  generalize hp1 : pt x 4 2 = p1 at *
  generalize hp2 : pt x 6 2 = p2 at *
  generalize hp3 : pt x 8 4 = p3 at *
  generalize hp4 : pt x 12 3 = p4 at *
  generalize hp5 : pt x 15 17 = p5 at *
  clear h h'
  simp at ht
  refine ⟨(Th.ok7 _ _ _ _ _ _ _).2 ⟨by first | rfl | omega, by first | rfl | omega, by first | rfl | omega, by first | rfl | omega, by first | rfl | omega, by first | rfl | omega, by first | rfl | omega⟩, ?_⟩
  rw [Th.num7]
  (try simp only [fv_nat])
  (try unfold fv)
  omega
set_option maxRecDepth 100000 in
theorem rowA8 (x : Nat) (hx : x < 4294967296) (h : hit x 4294934576 3931045936 = true) (ht : there (read 8 x) = true) : check (read 8 x) = 0 ∧ num (read 8 x) = x := by
  have h' : x &&& 4294934576 = 3931045936 := eq_of_beq h
  have hr : read 8 x = ⟨8, ((pt x 8 4 : Nat) : Int), 0, ((pt x 0 4 : Nat) : Int), 0, ((shift x : Nat) : Int), 0, false⟩ := rfl
  rw [hr] at ht ⊢
  clear hr
  unfold there at ht
  unfold shift at *
  have s0 := seg x 0 4 1 16 16 (by decide) (by decide) (by decide)
  have f0 : pt x 0 4 < 16 := pt_lt x 0 4
  have s1 := seg x 4 2 16 4 64 (by decide) (by decide) (by decide)
  have f1 : pt x 4 2 = 3 := run_of x 4294934576 3931045936 4 2 3 3 h' (by decide) (by decide) (by decide)
  have s2 := seg x 6 2 64 4 256 (by decide) (by decide) (by decide)
  have f2 : pt x 6 2 < 4 := pt_lt x 6 2
  have s3 := seg x 8 4 256 16 4096 (by decide) (by decide) (by decide)
  have f3 : pt x 8 4 < 16 := pt_lt x 8 4
  have s4 := seg x 12 3 4096 8 32768 (by decide) (by decide) (by decide)
  have f4 : pt x 12 3 < 8 := pt_lt x 12 3
  have s5 := seg x 15 17 32768 131072 4294967296 (by decide) (by decide) (by decide)
  have f5 : pt x 15 17 = 119966 := run_of x 4294934576 3931045936 15 17 119966 131071 h' (by decide) (by decide) (by decide)
  have z : x / 4294967296 = 0 := Nat.div_eq_of_lt hx
  rw [Nat.div_one] at s0
  rw [z] at s5
  generalize x / 16 = q0 at *
  generalize x / 64 = q1 at *
  generalize x / 256 = q2 at *
  generalize x / 4096 = q3 at *
  generalize x / 32768 = q4 at *
  generalize hp0 : pt x 0 4 = p0 at *
  generalize hp1 : pt x 4 2 = p1 at *
  generalize hp2 : pt x 6 2 = p2 at *
  generalize hp3 : pt x 8 4 = p3 at *
  generalize hp4 : pt x 12 3 = p4 at *
  generalize hp5 : pt x 15 17 = p5 at *
  clear h h'
  simp at ht
  refine ⟨(Th.ok8 _ _ _ _ _ _ _).2 ⟨by first | rfl | omega, by first | rfl | omega, by first | rfl | omega, by first | rfl | omega, by first | rfl | omega, by first | rfl | omega, by first | rfl | omega⟩, ?_⟩
  rw [Th.num8]
  (try simp only [fv_nat])
  (try unfold fv)
  omega
set_option maxRecDepth 100000 in
theorem rowA9 (x : Nat) (hx : x < 4294967296) (h : hit x 4294963440 3933143040 = true) (ht : there (read 9 x) = true) : check (read 9 x) = 0 ∧ num (read 9 x) = x := by
  have h' : x &&& 4294963440 = 3933143040 := eq_of_beq h
  have hr : read 9 x = ⟨9, ((pt x 8 4 : Nat) : Int), 0, ((pt x 0 4 : Nat) : Int), 0, 0, 0, false⟩ := rfl
  rw [hr] at ht ⊢
  clear hr
  unfold there at ht
  have s0 := seg x 0 4 1 16 16 (by decide) (by decide) (by decide)
  have f0 : pt x 0 4 < 16 := pt_lt x 0 4
  have s1 := seg x 4 4 16 16 256 (by decide) (by decide) (by decide)
  have f1 : pt x 4 4 = 0 := run_of x 4294963440 3933143040 4 4 0 15 h' (by decide) (by decide) (by decide)
  have s2 := seg x 8 4 256 16 4096 (by decide) (by decide) (by decide)
  have f2 : pt x 8 4 < 16 := pt_lt x 8 4
  have s3 := seg x 12 20 4096 1048576 4294967296 (by decide) (by decide) (by decide)
  have f3 : pt x 12 20 = 960240 := run_of x 4294963440 3933143040 12 20 960240 1048575 h' (by decide) (by decide) (by decide)
  have z : x / 4294967296 = 0 := Nat.div_eq_of_lt hx
  rw [Nat.div_one] at s0
  rw [z] at s3
  generalize x / 16 = q0 at *
  generalize x / 256 = q1 at *
  generalize x / 4096 = q2 at *
  generalize hp0 : pt x 0 4 = p0 at *
  generalize hp1 : pt x 4 4 = p1 at *
  generalize hp2 : pt x 8 4 = p2 at *
  generalize hp3 : pt x 12 20 = p3 at *
  clear h h'
  simp at ht
  refine ⟨(Th.ok9 _ _ _ _ _ _ _).2 ⟨by first | rfl | omega, by first | rfl | omega, by first | rfl | omega, by first | rfl | omega, by first | rfl | omega, by first | rfl | omega, by first | rfl | omega⟩, ?_⟩
  rw [Th.num9]
  (try simp only [fv_nat])
  (try unfold fv)
  omega
set_option maxRecDepth 100000 in
theorem rowA10 (x : Nat) (hx : x < 4294967296) (h : hit x 4293980400 3925868544 = true) (ht : there (read 10 x) = true) : check (read 10 x) = 0 ∧ num (read 10 x) = x := by
  have h' : x &&& 4293980400 = 3925868544 := eq_of_beq h
  have hr : read 10 x = ⟨10, ((pt x 8 4 : Nat) : Int), ((pt x 16 4 : Nat) : Int), ((pt x 0 4 : Nat) : Int), 0, 0, 0, false⟩ := rfl
  rw [hr] at ht ⊢
  clear hr
  unfold there at ht
  have s0 := seg x 0 4 1 16 16 (by decide) (by decide) (by decide)
  have f0 : pt x 0 4 < 16 := pt_lt x 0 4
  have s1 := seg x 4 4 16 16 256 (by decide) (by decide) (by decide)
  have f1 : pt x 4 4 = 0 := run_of x 4293980400 3925868544 4 4 0 15 h' (by decide) (by decide) (by decide)
  have s2 := seg x 8 4 256 16 4096 (by decide) (by decide) (by decide)
  have f2 : pt x 8 4 < 16 := pt_lt x 8 4
  have s3 := seg x 12 4 4096 16 65536 (by decide) (by decide) (by decide)
  have f3 : pt x 12 4 = 0 := run_of x 4293980400 3925868544 12 4 0 15 h' (by decide) (by decide) (by decide)
  have s4 := seg x 16 4 65536 16 1048576 (by decide) (by decide) (by decide)
  have f4 : pt x 16 4 < 16 := pt_lt x 16 4
  have s5 := seg x 20 12 1048576 4096 4294967296 (by decide) (by decide) (by decide)
  have f5 : pt x 20 12 = 3744 := run_of x 4293980400 3925868544 20 12 3744 4095 h' (by decide) (by decide) (by decide)
  have z : x / 4294967296 = 0 := Nat.div_eq_of_lt hx
  rw [Nat.div_one] at s0
  rw [z] at s5
  generalize x / 16 = q0 at *
  generalize x / 256 = q1 at *
  generalize x / 4096 = q2 at *
  generalize x / 65536 = q3 at *
  generalize x / 1048576 = q4 at *
  generalize hp0 : pt x 0 4 = p0 at *
  generalize hp1 : pt x 4 4 = p1 at *
  generalize hp2 : pt x 8 4 = p2 at *
  generalize hp3 : pt x 12 4 = p3 at *
  generalize hp4 : pt x 16 4 = p4 at *
  generalize hp5 : pt x 20 12 = p5 at *
  clear h h'
  simp at ht
  refine ⟨(Th.ok10 _ _ _ _ _ _ _).2 ⟨by first | rfl | omega, by first | rfl | omega, by first | rfl | omega, by first | rfl | omega, by first | rfl | omega, by first | rfl | omega, by first | rfl | omega⟩, ?_⟩
  rw [Th.num10]
  (try simp only [fv_nat])
  (try unfold fv)
  omega
set_option maxRecDepth 100000 in
theorem rowA11 (x : Nat) (hx : x < 4294967296) (h : hit x 4293980400 3927965696 = true) (ht : there (read 11 x) = true) : check (read 11 x) = 0 ∧ num (read 11 x) = x := by
  have h' : x &&& 4293980400 = 3927965696 := eq_of_beq h
  have hr : read 11 x = ⟨11, ((pt x 8 4 : Nat) : Int), ((pt x 16 4 : Nat) : Int), ((pt x 0 4 : Nat) : Int), 0, 0, 0, false⟩ := rfl
  rw [hr] at ht ⊢
  clear hr
  unfold there at ht
  have s0 := seg x 0 4 1 16 16 (by decide) (by decide) (by decide)
  have f0 : pt x 0 4 < 16 := pt_lt x 0 4
  have s1 := seg x 4 4 16 16 256 (by decide) (by decide) (by decide)
  have f1 : pt x 4 4 = 0 := run_of x 4293980400 3927965696 4 4 0 15 h' (by decide) (by decide) (by decide)
  have s2 := seg x 8 4 256 16 4096 (by decide) (by decide) (by decide)
  have f2 : pt x 8 4 < 16 := pt_lt x 8 4
  have s3 := seg x 12 4 4096 16 65536 (by decide) (by decide) (by decide)
  have f3 : pt x 12 4 = 0 := run_of x 4293980400 3927965696 12 4 0 15 h' (by decide) (by decide) (by decide)
  have s4 := seg x 16 4 65536 16 1048576 (by decide) (by decide) (by decide)
  have f4 : pt x 16 4 < 16 := pt_lt x 16 4
  have s5 := seg x 20 12 1048576 4096 4294967296 (by decide) (by decide) (by decide)
  have f5 : pt x 20 12 = 3746 := run_of x 4293980400 3927965696 20 12 3746 4095 h' (by decide) (by decide) (by decide)
  have z : x / 4294967296 = 0 := Nat.div_eq_of_lt hx
  rw [Nat.div_one] at s0
  rw [z] at s5
  generalize x / 16 = q0 at *
  generalize x / 256 = q1 at *
  generalize x / 4096 = q2 at *
  generalize x / 65536 = q3 at *
  generalize x / 1048576 = q4 at *
  generalize hp0 : pt x 0 4 = p0 at *
  generalize hp1 : pt x 4 4 = p1 at *
  generalize hp2 : pt x 8 4 = p2 at *
  generalize hp3 : pt x 12 4 = p3 at *
  generalize hp4 : pt x 16 4 = p4 at *
  generalize hp5 : pt x 20 12 = p5 at *
  clear h h'
  simp at ht
  refine ⟨(Th.ok11 _ _ _ _ _ _ _).2 ⟨by first | rfl | omega, by first | rfl | omega, by first | rfl | omega, by first | rfl | omega, by first | rfl | omega, by first | rfl | omega, by first | rfl | omega⟩, ?_⟩
  rw [Th.num11]
  (try simp only [fv_nat])
  (try unfold fv)
  omega
set_option maxRecDepth 100000 in
theorem rowA12 (x : Nat) (hx : x < 4294967296) (h : hit x 4293980400 3930062848 = true) (ht : there (read 12 x) = true) : check (read 12 x) = 0 ∧ num (read 12 x) = x := by
  have h' : x &&& 4293980400 = 3930062848 := eq_of_beq h
  have hr : read 12 x = ⟨12, ((pt x 8 4 : Nat) : Int), ((pt x 16 4 : Nat) : Int), ((pt x 0 4 : Nat) : Int), 0, 0, 0, false⟩ := rfl
  rw [hr] at ht ⊢
  clear hr
  unfold there at ht
  have s0 := seg x 0 4 1 16 16 (by decide) (by decide) (by decide)
  have f0 : pt x 0 4 < 16 := pt_lt x 0 4
  have s1 := seg x 4 4 16 16 256 (by decide) (by decide) (by decide)
  have f1 : pt x 4 4 = 0 := run_of x 4293980400 3930062848 4 4 0 15 h' (by decide) (by decide) (by decide)
  have s2 := seg x 8 4 256 16 4096 (by decide) (by decide) (by decide)
  have f2 : pt x 8 4 < 16 := pt_lt x 8 4
  have s3 := seg x 12 4 4096 16 65536 (by decide) (by decide) (by decide)
  have f3 : pt x 12 4 = 0 := run_of x 4293980400 3930062848 12 4 0 15 h' (by decide) (by decide) (by decide)
  have s4 := seg x 16 4 65536 16 1048576 (by decide) (by decide) (by decide)
  have f4 : pt x 16 4 < 16 := pt_lt x 16 4
  have s5 := seg x 20 12 1048576 4096 4294967296 (by decide) (by decide) (by decide)
  have f5 : pt x 20 12 = 3748 := run_of x 4293980400 3930062848 20 12 3748 4095 h' (by decide) (by decide) (by decide)
  have z : x / 4294967296 = 0 := Nat.div_eq_of_lt hx
  rw [Nat.div_one] at s0
  rw [z] at s5
  generalize x / 16 = q0 at *
  generalize x / 256 = q1 at *
  generalize x / 4096 = q2 at *
  generalize x / 65536 = q3 at *
  generalize x / 1048576 = q4 at *
  generalize hp0 : pt x 0 4 = p0 at *
  generalize hp1 : pt x 4 4 = p1 at *
  generalize hp2 : pt x 8 4 = p2 at *
  generalize hp3 : pt x 12 4 = p3 at *
  generalize hp4 : pt x 16 4 = p4 at *
  generalize hp5 : pt x 20 12 = p5 at *
  clear h h'
  simp at ht
  refine ⟨(Th.ok12 _ _ _ _ _ _ _).2 ⟨by first | rfl | omega, by first | rfl | omega, by first | rfl | omega, by first | rfl | omega, by first | rfl | omega, by first | rfl | omega, by first | rfl | omega⟩, ?_⟩
  rw [Th.num12]
  (try simp only [fv_nat])
  (try unfold fv)
  omega
set_option maxRecDepth 100000 in
theorem rowA13 (x : Nat) (hx : x < 4294967296) (h : hit x 4293980400 3934257152 = true) (ht : there (read 13 x) = true) : check (read 13 x) = 0 ∧ num (read 13 x) = x := by
  have h' : x &&& 4293980400 = 3934257152 := eq_of_beq h
  have hr : read 13 x = ⟨13, ((pt x 8 4 : Nat) : Int), ((pt x 16 4 : Nat) : Int), ((pt x 0 4 : Nat) : Int), 0, 0, 0, false⟩ := rfl
  rw [hr] at ht ⊢
  clear hr
  unfold there at ht
  have s0 := seg x 0 4 1 16 16 (by decide) (by decide) (by decide)
  have f0 : pt x 0 4 < 16 := pt_lt x 0 4
  have s1 := seg x 4 4 16 16 256 (by decide) (by decide) (by decide)
  have f1 : pt x 4 4 = 0 := run_of x 4293980400 3934257152 4 4 0 15 h' (by decide) (by decide) (by decide)
  have s2 := seg x 8 4 256 16 4096 (by decide) (by decide) (by decide)
  have f2 : pt x 8 4 < 16 := pt_lt x 8 4
  have s3 := seg x 12 4 4096 16 65536 (by decide) (by decide) (by decide)
  have f3 : pt x 12 4 = 0 := run_of x 4293980400 3934257152 12 4 0 15 h' (by decide) (by decide) (by decide)
  have s4 := seg x 16 4 65536 16 1048576 (by decide) (by decide) (by decide)
  have f4 : pt x 16 4 < 16 := pt_lt x 16 4
  have s5 := seg x 20 12 1048576 4096 4294967296 (by decide) (by decide) (by decide)
  have f5 : pt x 20 12 = 3752 := run_of x 4293980400 3934257152 20 12 3752 4095 h' (by decide) (by decide) (by decide)
  have z : x / 4294967296 = 0 := Nat.div_eq_of_lt hx
  rw [Nat.div_one] at s0
  rw [z] at s5
  generalize x / 16 = q0 at *
  generalize x / 256 = q1 at *
  generalize x / 4096 = q2 at *
  generalize x / 65536 = q3 at *
  generalize x / 1048576 = q4 at *
  generalize hp0 : pt x 0 4 = p0 at *
  generalize hp1 : pt x 4 4 = p1 at *
  generalize hp2 : pt x 8 4 = p2 at *
  generalize hp3 : pt x 12 4 = p3 at *
  generalize hp4 : pt x 16 4 = p4 at *
  generalize hp5 : pt x 20 12 = p5 at *
  clear h h'
  simp at ht
  refine ⟨(Th.ok13 _ _ _ _ _ _ _).2 ⟨by first | rfl | omega, by first | rfl | omega, by first | rfl | omega, by first | rfl | omega, by first | rfl | omega, by first | rfl | omega, by first | rfl | omega⟩, ?_⟩
  rw [Th.num13]
  (try simp only [fv_nat])
  (try unfold fv)
  omega
set_option maxRecDepth 100000 in
theorem rowA14 (x : Nat) (hx : x < 4294967296) (h : hit x 4293980400 3942645760 = true) (ht : there (read 14 x) = true) : check (read 14 x) = 0 ∧ num (read 14 x) = x := by
  have h' : x &&& 4293980400 = 3942645760 := eq_of_beq h
  have hr : read 14 x = ⟨14, ((pt x 8 4 : Nat) : Int), ((pt x 16 4 : Nat) : Int), ((pt x 0 4 : Nat) : Int), 0, 0, 0, false⟩ := rfl
  rw [hr] at ht ⊢
  clear hr
  unfold there at ht
  have s0 := seg x 0 4 1 16 16 (by decide) (by decide) (by decide)
  have f0 : pt x 0 4 < 16 := pt_lt x 0 4
  have s1 := seg x 4 4 16 16 256 (by decide) (by decide) (by decide)
  have f1 : pt x 4 4 = 0 := run_of x 4293980400 3942645760 4 4 0 15 h' (by decide) (by decide) (by decide)
  have s2 := seg x 8 4 256 16 4096 (by decide) (by decide) (by decide)
  have f2 : pt x 8 4 < 16 := pt_lt x 8 4
  have s3 := seg x 12 4 4096 16 65536 (by decide) (by decide) (by decide)
  have f3 : pt x 12 4 = 0 := run_of x 4293980400 3942645760 12 4 0 15 h' (by decide) (by decide) (by decide)
  have s4 := seg x 16 4 65536 16 1048576 (by decide) (by decide) (by decide)
  have f4 : pt x 16 4 < 16 := pt_lt x 16 4
  have s5 := seg x 20 12 1048576 4096 4294967296 (by decide) (by decide) (by decide)
  have f5 : pt x 20 12 = 3760 := run_of x 4293980400 3942645760 20 12 3760 4095 h' (by decide) (by decide) (by decide)
  have z : x / 4294967296 = 0 := Nat.div_eq_of_lt hx
  rw [Nat.div_one] at s0
  rw [z] at s5
  generalize x / 16 = q0 at *
  generalize x / 256 = q1 at *
  generalize x / 4096 = q2 at *
  generalize x / 65536 = q3 at *
  generalize x / 1048576 = q4 at *
  generalize hp0 : pt x 0 4 = p0 at *
  generalize hp1 : pt x 4 4 = p1 at *
  generalize hp2 : pt x 8 4 = p2 at *
  generalize hp3 : pt x 12 4 = p3 at *
  generalize hp4 : pt x 16 4 = p4 at *
  generalize hp5 : pt x 20 12 = p5 at *
  clear h h'
  simp at ht
  refine ⟨(Th.ok14 _ _ _ _ _ _ _).2 ⟨by first | rfl | omega, by first | rfl | omega, by first | rfl | omega, by first | rfl | omega, by first | rfl | omega, by first | rfl | omega, by first | rfl | omega⟩, ?_⟩
  rw [Th.num14]
  (try simp only [fv_nat])
  (try unfold fv)
  omega
set_option maxRecDepth 100000 in
theorem rowA15 (x : Nat) (hx : x < 4294967296) (h : hit x 4293980400 3953131520 = true) (ht : there (read 15 x) = true) : check (read 15 x) = 0 ∧ num (read 15 x) = x := by
  have h' : x &&& 4293980400 = 3953131520 := eq_of_beq h
  have hr : read 15 x = ⟨15, ((pt x 8 4 : Nat) : Int), ((pt x 16 4 : Nat) : Int), ((pt x 0 4 : Nat) : Int), 0, 0, 0, false⟩ := rfl
  rw [hr] at ht ⊢
  clear hr
  unfold there at ht
  have s0 := seg x 0 4 1 16 16 (by decide) (by decide) (by decide)
  have f0 : pt x 0 4 < 16 := pt_lt x 0 4
  have s1 := seg x 4 4 16 16 256 (by decide) (by decide) (by decide)
  have f1 : pt x 4 4 = 0 := run_of x 4293980400 3953131520 4 4 0 15 h' (by decide) (by decide) (by decide)
  have s2 := seg x 8 4 256 16 4096 (by decide) (by decide) (by decide)
  have f2 : pt x 8 4 < 16 := pt_lt x 8 4
  have s3 := seg x 12 4 4096 16 65536 (by decide) (by decide) (by decide)
  have f3 : pt x 12 4 = 0 := run_of x 4293980400 3953131520 12 4 0 15 h' (by decide) (by decide) (by decide)
  have s4 := seg x 16 4 65536 16 1048576 (by decide) (by decide) (by decide)
  have f4 : pt x 16 4 < 16 := pt_lt x 16 4
  have s5 := seg x 20 12 1048576 4096 4294967296 (by decide) (by decide) (by decide)
  have f5 : pt x 20 12 = 3770 := run_of x 4293980400 3953131520 20 12 3770 4095 h' (by decide) (by decide) (by decide)
  have z : x / 4294967296 = 0 := Nat.div_eq_of_lt hx
  rw [Nat.div_one] at s0
  rw [z] at s5
  generalize x / 16 = q0 at *
  generalize x / 256 = q1 at *
  generalize x / 4096 = q2 at *
  generalize x / 65536 = q3 at *
  generalize x / 1048576 = q4 at *
  generalize hp0 : pt x 0 4 = p0 at *
  generalize hp1 : pt x 4 4 = p1 at *
  generalize hp2 : pt x 8 4 = p2 at *
  generalize hp3 : pt x 12 4 = p3 at *
  generalize hp4 : pt x 16 4 = p4 at *
  generalize hp5 : pt x 20 12 = p5 at *
  clear h h'
  simp at ht
  refine ⟨(Th.ok15 _ _ _ _ _ _ _).2 ⟨by first | rfl | omega, by first | rfl | omega, by first | rfl | omega, by first | rfl | omega, by first | rfl | omega, by first | rfl | omega, by first | rfl | omega⟩, ?_⟩
  rw [Th.num15]
  (try simp only [fv_nat])
  (try unfold fv)
  omega
set_option maxRecDepth 100000 in
theorem rowA16 (x : Nat) (hx : x < 4294967296) (h : hit x 4293980400 4211142656 = true) (ht : there (read 16 x) = true) : check (read 16 x) = 0 ∧ num (read 16 x) = x := by
  have h' : x &&& 4293980400 = 4211142656 := eq_of_beq h
  have hr : read 16 x = ⟨16, ((pt x 8 4 : Nat) : Int), ((pt x 16 4 : Nat) : Int), ((pt x 0 4 : Nat) : Int), 0, 0, 0, false⟩ := rfl
  rw [hr] at ht ⊢
  clear hr
  unfold there at ht
  have s0 := seg x 0 4 1 16 16 (by decide) (by decide) (by decide)
  have f0 : pt x 0 4 < 16 := pt_lt x 0 4
  have s1 := seg x 4 4 16 16 256 (by decide) (by decide) (by decide)
  have f1 : pt x 4 4 = 0 := run_of x 4293980400 4211142656 4 4 0 15 h' (by decide) (by decide) (by decide)
  have s2 := seg x 8 4 256 16 4096 (by decide) (by decide) (by decide)
  have f2 : pt x 8 4 < 16 := pt_lt x 8 4
  have s3 := seg x 12 4 4096 16 65536 (by decide) (by decide) (by decide)
  have f3 : pt x 12 4 = 15 := run_of x 4293980400 4211142656 12 4 15 15 h' (by decide) (by decide) (by decide)
  have s4 := seg x 16 4 65536 16 1048576 (by decide) (by decide) (by decide)
  have f4 : pt x 16 4 < 16 := pt_lt x 16 4
  have s5 := seg x 20 12 1048576 4096 4294967296 (by decide) (by decide) (by decide)
  have f5 : pt x 20 12 = 4016 := run_of x 4293980400 4211142656 20 12 4016 4095 h' (by decide) (by decide) (by decide)
  have z : x / 4294967296 = 0 := Nat.div_eq_of_lt hx
  rw [Nat.div_one] at s0
  rw [z] at s5
  generalize x / 16 = q0 at *
  generalize x / 256 = q1 at *
  generalize x / 4096 = q2 at *
  generalize x / 65536 = q3 at *
  generalize x / 1048576 = q4 at *
  generalize hp0 : pt x 0 4 = p0 at *
  generalize hp1 : pt x 4 4 = p1 at *
  generalize hp2 : pt x 8 4 = p2 at *
  generalize hp3 : pt x 12 4 = p3 at *
  generalize hp4 : pt x 16 4 = p4 at *
  generalize hp5 : pt x 20 12 = p5 at *
  clear h h'
  simp at ht
  refine ⟨(Th.ok16 _ _ _ _ _ _ _).2 ⟨by first | rfl | omega, by first | rfl | omega, by first | rfl | omega, by first | rfl | omega, by first | rfl | omega, by first | rfl | omega, by first | rfl | omega⟩, ?_⟩
  rw [Th.num16]
  (try simp only [fv_nat])
  (try unfold fv)
  omega
set_option maxRecDepth 100000 in
theorem rowA17 (x : Nat) (hx : x < 4294967296) (h : hit x 4293918960 4221566976 = true) (ht : there (read 17 x) = true) : check (read 17 x) = 0 ∧ num (read 17 x) = x := by
  have h' : x &&& 4293918960 = 4221566976 := eq_of_beq h
  have hr : read 17 x = ⟨17, ((pt x 12 4 : Nat) : Int), ((pt x 16 4 : Nat) : Int), ((pt x 0 4 : Nat) : Int), ((pt x 8 4 : Nat) : Int), 0, 0, false⟩ := rfl
  rw [hr] at ht ⊢
  clear hr
  unfold there at ht
  have s0 := seg x 0 4 1 16 16 (by decide) (by decide) (by decide)
  have f0 : pt x 0 4 < 16 := pt_lt x 0 4
  have s1 := seg x 4 4 16 16 256 (by decide) (by decide) (by decide)
  have f1 : pt x 4 4 = 0 := run_of x 4293918960 4221566976 4 4 0 15 h' (by decide) (by decide) (by decide)
  have s2 := seg x 8 4 256 16 4096 (by decide) (by decide) (by decide)
  have f2 : pt x 8 4 < 16 := pt_lt x 8 4
  have s3 := seg x 12 4 4096 16 65536 (by decide) (by decide) (by decide)
  have f3 : pt x 12 4 < 16 := pt_lt x 12 4
  have s4 := seg x 16 4 65536 16 1048576 (by decide) (by decide) (by decide)
  have f4 : pt x 16 4 < 16 := pt_lt x 16 4
  have s5 := seg x 20 12 1048576 4096 4294967296 (by decide) (by decide) (by decide)
  have f5 : pt x 20 12 = 4026 := run_of x 4293918960 4221566976 20 12 4026 4095 h' (by decide) (by decide) (by decide)
  have z : x / 4294967296 = 0 := Nat.div_eq_of_lt hx
  rw [Nat.div_one] at s0
  rw [z] at s5
  generalize x / 16 = q0 at *
  generalize x / 256 = q1 at *
  generalize x / 4096 = q2 at *
  generalize x / 65536 = q3 at *
  generalize x / 1048576 = q4 at *
  generalize hp0 : pt x 0 4 = p0 at *
  generalize hp1 : pt x 4 4 = p1 at *
  generalize hp2 : pt x 8 4 = p2 at *
  generalize hp3 : pt x 12 4 = p3 at *
  generalize hp4 : pt x 16 4 = p4 at *
  generalize hp5 : pt x 20 12 = p5 at *
  clear h h'
  simp at ht
  refine ⟨(Th.ok17 _ _ _ _ _ _ _).2 ⟨by first | rfl | omega, by first | rfl | omega, by first | rfl | omega, by first | rfl | omega, by first | rfl | omega, by first | rfl | omega, by first | rfl | omega⟩, ?_⟩
  rw [Th.num17]
  (try simp only [fv_nat])
  (try unfold fv)
  omega
set_option maxRecDepth 100000 in
theorem rowA18 (x : Nat) (hx : x < 4294967296) (h : hit x 4293951520 4083154944 = true) (ht : there (read 18 x) = true) : check (read 18 x) = 0 ∧ num (read 18 x) = x := by
  have h' : x &&& 4293951520 = 4083154944 := eq_of_beq h
  have hr : read 18 x = ⟨18, ((pt x 8 4 : Nat) : Int), ((pt x 16 4 : Nat) : Int), 0, ((pt x 0 5 : Nat) : Int) + 1 - ((shift x : Nat) : Int), ((shift x : Nat) : Int), 0, false⟩ := rfl
  rw [hr] at ht ⊢
  clear hr
  unfold there at ht
  unfold shift at *
  have s0 := seg x 0 5 1 32 32 (by decide) (by decide) (by decide)
  have f0 : pt x 0 5 < 32 := pt_lt x 0 5
  have s1 := seg x 5 1 32 2 64 (by decide) (by decide) (by decide)
  have f1 : pt x 5 1 = 0 := run_of x 4293951520 4083154944 5 1 0 1 h' (by decide) (by decide) (by decide)
  have s2 := seg x 6 2 64 4 256 (by decide) (by decide) (by decide)
  have f2 : pt x 6 2 < 4 := pt_lt x 6 2
  have s3 := seg x 8 4 256 16 4096 (by decide) (by decide) (by decide)
  have f3 : pt x 8 4 < 16 := pt_lt x 8 4
  have s4 := seg x 12 3 4096 8 32768 (by decide) (by decide) (by decide)
  have f4 : pt x 12 3 < 8 := pt_lt x 12 3
  have s5 := seg x 15 1 32768 2 65536 (by decide) (by decide) (by decide)
  have f5 : pt x 15 1 = 0 := run_of x 4293951520 4083154944 15 1 0 1 h' (by decide) (by decide) (by decide)
  have s6 := seg x 16 4 65536 16 1048576 (by decide) (by decide) (by decide)
  have f6 : pt x 16 4 < 16 := pt_lt x 16 4
  have s7 := seg x 20 12 1048576 4096 4294967296 (by decide) (by decide) (by decide)
  have f7 : pt x 20 12 = 3894 := run_of x 4293951520 4083154944 20 12 3894 4095 h' (by decide) (by decide) (by decide)
  have z : x / 4294967296 = 0 := Nat.div_eq_of_lt hx
  rw [Nat.div_one] at s0
  rw [z] at s7
  generalize x / 32 = q0 at *
  generalize x / 64 = q1 at *
  generalize x / 256 = q2 at *
  generalize x / 4096 = q3 at *
  generalize x / 32768 = q4 at *
  generalize x / 65536 = q5 at *
  generalize x / 1048576 = q6 at *
  generalize hp0 : pt x 0 5 = p0 at *
  generalize hp1 : pt x 5 1 = p1 at *
  generalize hp2 : pt x 6 2 = p2 at *
  generalize hp3 : pt x 8 4 = p3 at *
  generalize hp4 : pt x 12 3 = p4 at *
  generalize hp5 : pt x 15 1 = p5 at *
  generalize hp6 : pt x 16 4 = p6 at *
  generalize hp7 : pt x 20 12 = p7 at *
  clear h h'
  simp at ht
  refine ⟨(Th.ok18 _ _ _ _ _ _ _).2 ⟨by first | rfl | omega, by first | rfl | omega, by first | rfl | omega, by first | rfl | omega, by first | rfl | omega, by first | rfl | omega, by first | rfl | omega⟩, ?_⟩
  rw [Th.num18]
  have g0 : fv ((p4 * 4 + p2 : Nat) : Int) 4 8 = p4 := by rw [fv_nat]; exact dig _ (0) p4 (p2 * 1) 4 8 (by omega) (by omega) (by omega)
  have g1 : fv ((p4 * 4 + p2 : Nat) : Int) 1 4 = p2 := by rw [fv_nat]; exact dig _ (p4 * 1) p2 (0) 1 4 (by omega) (by omega) (by omega)
  have g2 : fv ((p3 : Nat) : Int) 1 16 = p3 := by rw [fv_nat]; omega
  have g3 : fv ((p6 : Nat) : Int) 1 16 = p6 := by rw [fv_nat]; omega
  have gi : ((p4 * 4 + p2 : Nat) : Int) + (((p0 : Nat) : Int) + 1 - ((p4 * 4 + p2 : Nat) : Int)) - 1 = ((p0 : Nat) : Int) := by omega
  have g4 : fv (((p4 * 4 + p2 : Nat) : Int) + (((p0 : Nat) : Int) + 1 - ((p4 * 4 + p2 : Nat) : Int)) - 1) 1 32 = p0 := by rw [gi, fv_nat]; omega
  rw [g0, g1, g2, g3, g4]
  omega
set_option maxRecDepth 100000 in
theorem rowA19 (x : Nat) (hx : x < 4294967296) (h : hit x 4294967232 26624 = true) (ht : there (read 19 x) = true) : check (read 19 x) = 0 ∧ num (read 19 x) = x := by
  have h' : x &&& 4294967232 = 26624 := eq_of_beq h
  have hr : read 19 x = ⟨19, ((pt x 0 3 : Nat) : Int), ((pt x 3 3 : Nat) : Int), 0, 0, 0, 0, false⟩ := rfl
  rw [hr] at ht ⊢
  clear hr
  unfold there at ht
  have s0 := seg x 0 3 1 8 8 (by decide) (by decide) (by decide)
  have f0 : pt x 0 3 < 8 := pt_lt x 0 3
  have s1 := seg x 3 3 8 8 64 (by decide) (by decide) (by decide)
  have f1 : pt x 3 3 < 8 := pt_lt x 3 3
  have s2 := seg x 6 26 64 67108864 4294967296 (by decide) (by decide) (by decide)
  have f2 : pt x 6 26 = 416 := run_of x 4294967232 26624 6 26 416 67108863 h' (by decide) (by decide) (by decide)
  have z : x / 4294967296 = 0 := Nat.div_eq_of_lt hx
  rw [Nat.div_one] at s0
  rw [z] at s2
  generalize x / 8 = q0 at *
  generalize x / 64 = q1 at *
  generalize hp0 : pt x 0 3 = p0 at *
  generalize hp1 : pt x 3 3 = p1 at *
  generalize hp2 : pt x 6 26 = p2 at *
  clear h h'
  simp at ht
  refine ⟨(Th.ok19 _ _ _ _ _ _ _).2 ⟨by first | rfl | omega, by first | rfl | omega, by first | rfl | omega, by first | rfl | omega, by first | rfl | omega, by first | rfl | omega, by first | rfl | omega⟩, ?_⟩
  rw [Th.num19]
  (try simp only [fv_nat])
  (try unfold fv)
  omega
set_option maxRecDepth 100000 in
theorem rowA20 (x : Nat) (hx : x < 4294967296) (h : hit x 4294967232 24576 = true) (ht : there (read 20 x) = true) : check (read 20 x) = 0 ∧ num (read 20 x) = x := by
  have h' : x &&& 4294967232 = 24576 := eq_of_beq h
  have hr : read 20 x = ⟨20, ((pt x 0 3 : Nat) : Int), ((pt x 3 3 : Nat) : Int), 0, 0, 0, 0, false⟩ := rfl
  rw [hr] at ht ⊢
  clear hr
  unfold there at ht
  have s0 := seg x 0 3 1 8 8 (by decide) (by decide) (by decide)
  have f0 : pt x 0 3 < 8 := pt_lt x 0 3
  have s1 := seg x 3 3 8 8 64 (by decide) (by decide) (by decide)
  have f1 : pt x 3 3 < 8 := pt_lt x 3 3
  have s2 := seg x 6 26 64 67108864 4294967296 (by decide) (by decide) (by decide)
  have f2 : pt x 6 26 = 384 := run_of x 4294967232 24576 6 26 384 67108863 h' (by decide) (by decide) (by decide)
  have z : x / 4294967296 = 0 := Nat.div_eq_of_lt hx
  rw [Nat.div_one] at s0
  rw [z] at s2
  generalize x / 8 = q0 at *
  generalize x / 64 = q1 at *
  generalize hp0 : pt x 0 3 = p0 at *
  generalize hp1 : pt x 3 3 = p1 at *
  generalize hp2 : pt x 6 26 = p2 at *
  clear h h'
  simp at ht
  refine ⟨(Th.ok20 _ _ _ _ _ _ _).2 ⟨by first | rfl | omega, by first | rfl | omega, by first | rfl | omega, by first | rfl | omega, by first | rfl | omega, by first | rfl | omega, by first | rfl | omega⟩, ?_⟩
  rw [Th.num20]
  (try simp only [fv_nat])
  (try unfold fv)
  omega
set_option maxRecDepth 100000 in
theorem rowA21 (x : Nat) (hx : x < 4294967296) (h : hit x 4294967232 30720 = true) (ht : there (read 21 x) = true) : check (read 21 x) = 0 ∧ num (read 21 x) = x := by
  have h' : x &&& 4294967232 = 30720 := eq_of_beq h
  have hr : read 21 x = ⟨21, ((pt x 0 3 : Nat) : Int), ((pt x 3 3 : Nat) : Int), 0, 0, 0, 0, false⟩ := rfl
  rw [hr] at ht ⊢
  clear hr
  unfold there at ht
  have s0 := seg x 0 3 1 8 8 (by decide) (by decide) (by decide)
  have f0 : pt x 0 3 < 8 := pt_lt x 0 3
  have s1 := seg x 3 3 8 8 64 (by decide) (by decide) (by decide)
  have f1 : pt x 3 3 < 8 := pt_lt x 3 3
  have s2 := seg x 6 26 64 67108864 4294967296 (by decide) (by decide) (by decide)
  have f2 : pt x 6 26 = 480 := run_of x 4294967232 30720 6 26 480 67108863 h' (by decide) (by decide) (by decide)
  have z : x / 4294967296 = 0 := Nat.div_eq_of_lt hx
  rw [Nat.div_one] at s0
  rw [z] at s2
  generalize x / 8 = q0 at *
  generalize x / 64 = q1 at *
  generalize hp0 : pt x 0 3 = p0 at *
  generalize hp1 : pt x 3 3 = p1 at *
  generalize hp2 : pt x 6 26 = p2 at *
  clear h h'
  simp at ht
  refine ⟨(Th.ok21 _ _ _ _ _ _ _).2 ⟨by first | rfl | omega, by first | rfl | omega, by first | rfl | omega, by first | rfl | omega, by first | rfl | omega, by first | rfl | omega, by first | rfl | omega⟩, ?_⟩
  rw [Th.num21]
  (try simp only [fv_nat])
  (try unfold fv)
  omega
set_option maxRecDepth 100000 in
theorem rowA22 (x : Nat) (hx : x < 4294967296) (h : hit x 4294967232 28672 = true) (ht : there (read 22 x) = true) : check (read 22 x) = 0 ∧ num (read 22 x) = x := by
  have h' : x &&& 4294967232 = 28672 := eq_of_beq h
  have hr : read 22 x = ⟨22, ((pt x 0 3 : Nat) : Int), ((pt x 3 3 : Nat) : Int), 0, 0, 0, 0, false⟩ := rfl
  rw [hr] at ht ⊢
  clear hr
  unfold there at ht
  have s0 := seg x 0 3 1 8 8 (by decide) (by decide) (by decide)
  have f0 : pt x 0 3 < 8 := pt_lt x 0 3
  have s1 := seg x 3 3 8 8 64 (by decide) (by decide) (by decide)
  have f1 : pt x 3 3 < 8 := pt_lt x 3 3
  have s2 := seg x 6 26 64 67108864 4294967296 (by decide) (by decide) (by decide)
  have f2 : pt x 6 26 = 448 := run_of x 4294967232 28672 6 26 448 67108863 h' (by decide) (by decide) (by decide)
  have z : x / 4294967296 = 0 := Nat.div_eq_of_lt hx
  rw [Nat.div_one] at s0
  rw [z] at s2
  generalize x / 8 = q0 at *
  generalize x / 64 = q1 at *
  generalize hp0 : pt x 0 3 = p0 at *
  generalize hp1 : pt x 3 3 = p1 at *
  generalize hp2 : pt x 6 26 = p2 at *
  clear h h'
  simp at ht
  refine ⟨(Th.ok22 _ _ _ _ _ _ _).2 ⟨by first | rfl | omega, by first | rfl | omega, by first | rfl | omega, by first | rfl | omega, by first | rfl | omega, by first | rfl | omega, by first | rfl | omega⟩, ?_⟩
  rw [Th.num22]
  (try simp only [fv_nat])
  (try unfold fv)
  omega
set_option maxRecDepth 100000 in
theorem rowA23 (x : Nat) (hx : x < 4294967296) (h : hit x 4294967232 17024 = true) (ht : there (read 23 x) = true) : check (read 23 x) = 0 ∧ num (read 23 x) = x := by
  have h' : x &&& 4294967232 = 17024 := eq_of_beq h
  have hr : read 23 x = ⟨23, 0, ((pt x 0 3 : Nat) : Int), ((pt x 3 3 : Nat) : Int), 0, 0, 0, false⟩ := rfl
  rw [hr] at ht ⊢
  clear hr
  unfold there at ht
  have s0 := seg x 0 3 1 8 8 (by decide) (by decide) (by decide)
  have f0 : pt x 0 3 < 8 := pt_lt x 0 3
  have s1 := seg x 3 3 8 8 64 (by decide) (by decide) (by decide)
  have f1 : pt x 3 3 < 8 := pt_lt x 3 3
  have s2 := seg x 6 26 64 67108864 4294967296 (by decide) (by decide) (by decide)
  have f2 : pt x 6 26 = 266 := run_of x 4294967232 17024 6 26 266 67108863 h' (by decide) (by decide) (by decide)
  have z : x / 4294967296 = 0 := Nat.div_eq_of_lt hx
  rw [Nat.div_one] at s0
  rw [z] at s2
  generalize x / 8 = q0 at *
  generalize x / 64 = q1 at *
  generalize hp0 : pt x 0 3 = p0 at *
  generalize hp1 : pt x 3 3 = p1 at *
  generalize hp2 : pt x 6 26 = p2 at *
  clear h h'
  simp at ht
  refine ⟨(Th.ok23 _ _ _ _ _ _ _).2 ⟨by first | rfl | omega, by first | rfl | omega, by first | rfl | omega, by first | rfl | omega, by first | rfl | omega, by first | rfl | omega, by first | rfl | omega⟩, ?_⟩
  rw [Th.num23]
  (try simp only [fv_nat])
  (try unfold fv)
  omega
theorem signed_is (n c H F : Nat) (hH : 2 ^ (c - 1) = H) (hF : 2 ^ c = F) : signed n c = if n < H then (n : Int) else (n : Int) - (F : Int) := by
  subst hH; subst hF
  unfold signed
  rw [Wd.pow_cast]
set_option maxRecDepth 100000 in
theorem rowA24n (x : Nat) (hx : x < 4294967296) (h : hit x 4294965248 57344 = true) (ht : there (read 24 x) = true) : check (read 24 x) = 0 ∧ num (read 24 x) = x := by
  have h' : x &&& 4294965248 = 57344 := eq_of_beq h
  have ft : pt x 11 21 = 28 := run_of x 4294965248 57344 11 21 28 2097151 h' (by decide) (by decide) (by decide)
  have st := seg x 11 21 2048 2097152 4294967296 (by decide) (by decide) (by decide)
  have hw : ¬ 65536 ≤ x := by omega
  clear ft st
  have hr : read 24 x = ⟨24, 0, 0, 0, 0, signed (b24n x) 12, 0, false⟩ := by
    show readB 24 x = _
    unfold readB; rw [if_neg hw]; rfl
  rw [hr] at ht ⊢
  clear hr
  unfold there at ht
  have hs := signed_is (b24n x) 12 2048 4096 (by decide) (by decide)
  generalize signed (b24n x) 12 = I at *
  unfold b24n at hs
  have s0 := seg x 0 11 1 2048 2048 (by decide) (by decide) (by decide)
  have f0 : pt x 0 11 < 2048 := pt_lt x 0 11
  have s1 := seg x 11 21 2048 2097152 4294967296 (by decide) (by decide) (by decide)
  have f1 : pt x 11 21 = 28 := run_of x 4294965248 57344 11 21 28 2097151 h' (by decide) (by decide) (by decide)
  have z : x / 4294967296 = 0 := Nat.div_eq_of_lt hx
  rw [Nat.div_one] at s0
  rw [z] at s1
  generalize x / 2048 = q0 at *
  generalize hp0 : pt x 0 11 = p0 at *
  generalize hp1 : pt x 11 21 = p1 at *
  clear h h'
  simp at ht
  by_cases hc : p0 * 2 < 2048
  · rw [if_pos hc] at hs
    have ho : off I = ((p0 * 2 : Nat) : Int) := by unfold off; rw [if_neg (by omega)]; omega
    have g0 : fv (off I) 2 2048 = p0 := by rw [ho, fv_nat]; exact dig _ (0) p0 (0) 2 2048 (by omega) (by clear hs ho hc s0 s1; omega) (by omega)
    refine ⟨(Th.ok24 _ _ _ _ _ _ _).2 ⟨rfl, rfl, rfl, rfl, ⟨by omega, ?_, ?_⟩, ?_⟩, ?_⟩
    · intro hx; first | (cases hx; done) | omega
    · intro hx; first | (cases hx; done) | omega
    · first | rfl | omega | exact ⟨rfl, Or.inl rfl⟩ | exact ⟨by omega, by simp⟩ | exact ⟨⟨by omega, by omega⟩, by simp⟩
    rw [Th.num24n, g0]
    omega
  · rw [if_neg hc] at hs
    have ho : off I = ((p0 * 2 + 33550336 : Nat) : Int) := by unfold off; rw [if_pos (by omega)]; omega
    have g0 : fv (off I) 2 2048 = p0 := by rw [ho, fv_nat]; exact dig _ (8191) p0 (0) 2 2048 (by omega) (by clear hs ho hc s0 s1; omega) (by omega)
    refine ⟨(Th.ok24 _ _ _ _ _ _ _).2 ⟨rfl, rfl, rfl, rfl, ⟨by omega, ?_, ?_⟩, ?_⟩, ?_⟩
    · intro hx; first | (cases hx; done) | omega
    · intro hx; first | (cases hx; done) | omega
    · first | rfl | omega | exact ⟨rfl, Or.inl rfl⟩ | exact ⟨by omega, by simp⟩ | exact ⟨⟨by omega, by omega⟩, by simp⟩
    rw [Th.num24n, g0]
    omega
set_option maxRecDepth 100000 in
theorem rowA24w (x : Nat) (hx : x < 4294967296) (h : hit x 4160802816 4026568704 = true) (ht : there (read 24 x) = true) : check (read 24 x) = 0 ∧ num (read 24 x) = x := by
  have h' : x &&& 4160802816 = 4026568704 := eq_of_beq h
  have ft : pt x 27 5 = 30 := run_of x 4160802816 4026568704 27 5 30 31 h' (by decide) (by decide) (by decide)
  have st := seg x 27 5 134217728 32 4294967296 (by decide) (by decide) (by decide)
  have hw : 65536 ≤ x := by omega
  clear ft st
  have hr : read 24 x = ⟨24, 0, 0, 0, 0, signed (b24w x) 25, 0, true⟩ := by
    show readB 24 x = _
    unfold readB; rw [if_pos hw]; rfl
  rw [hr] at ht ⊢
  clear hr
  unfold there at ht
  have hs := signed_is (b24w x) 25 16777216 33554432 (by decide) (by decide)
  generalize signed (b24w x) 25 = I at *
  unfold b24w at hs
  have s0 := seg x 0 11 1 2048 2048 (by decide) (by decide) (by decide)
  have f0 : pt x 0 11 < 2048 := pt_lt x 0 11
  have s1 := seg x 11 1 2048 2 4096 (by decide) (by decide) (by decide)
  have f1 : pt x 11 1 < 2 := pt_lt x 11 1
  have s2 := seg x 12 1 4096 2 8192 (by decide) (by decide) (by decide)
  have f2 : pt x 12 1 = 1 := run_of x 4160802816 4026568704 12 1 1 1 h' (by decide) (by decide) (by decide)
  have s3 := seg x 13 1 8192 2 16384 (by decide) (by decide) (by decide)
  have f3 : pt x 13 1 < 2 := pt_lt x 13 1
  have s4 := seg x 14 2 16384 4 65536 (by decide) (by decide) (by decide)
  have f4 : pt x 14 2 = 2 := run_of x 4160802816 4026568704 14 2 2 3 h' (by decide) (by decide) (by decide)
  have s5 := seg x 16 10 65536 1024 67108864 (by decide) (by decide) (by decide)
  have f5 : pt x 16 10 < 1024 := pt_lt x 16 10
  have s6 := seg x 26 1 67108864 2 134217728 (by decide) (by decide) (by decide)
  have f6 : pt x 26 1 < 2 := pt_lt x 26 1
  have s7 := seg x 27 5 134217728 32 4294967296 (by decide) (by decide) (by decide)
  have f7 : pt x 27 5 = 30 := run_of x 4160802816 4026568704 27 5 30 31 h' (by decide) (by decide) (by decide)
  have z : x / 4294967296 = 0 := Nat.div_eq_of_lt hx
  rw [Nat.div_one] at s0
  rw [z] at s7
  generalize x / 2048 = q0 at *
  generalize x / 4096 = q1 at *
  generalize x / 8192 = q2 at *
  generalize x / 16384 = q3 at *
  generalize x / 65536 = q4 at *
  generalize x / 67108864 = q5 at *
  generalize x / 134217728 = q6 at *
  generalize hp0 : pt x 0 11 = p0 at *
  generalize hp1 : pt x 11 1 = p1 at *
  generalize hp2 : pt x 12 1 = p2 at *
  generalize hp3 : pt x 13 1 = p3 at *
  generalize hp4 : pt x 14 2 = p4 at *
  generalize hp5 : pt x 16 10 = p5 at *
  generalize hp6 : pt x 26 1 = p6 at *
  generalize hp7 : pt x 27 5 = p7 at *
  clear h h'
  simp at ht
  have a1 : alike p3 p6 < 2 := alike_lt _ _
  have a2 : alike p1 p6 < 2 := alike_lt _ _
  have e1 : (if alike p3 p6 = p6 then 1 else 0) = p3 := by unfold alike; split <;> split <;> omega
  have e2 : (if alike p1 p6 = p6 then 1 else 0) = p1 := by unfold alike; split <;> split <;> omega
  generalize alike p3 p6 = A at *
  generalize alike p1 p6 = B at *
  have E1 := Lib.hid e1
  have E2 := Lib.hid e2
  clear e1 e2
  by_cases hc : p6 * 16777216 + A * 8388608 + B * 4194304 + p5 * 4096 + p0 * 2 < 16777216
  · rw [if_pos hc] at hs
    have ho : off I = ((p6 * 16777216 + A * 8388608 + B * 4194304 + p5 * 4096 + p0 * 2 : Nat) : Int) := by unfold off; rw [if_neg (by omega)]; omega
    have k1 : fv (off I) 8388608 2 = A := by rw [ho, fv_nat]; exact dig _ (p6 * 1) A (B * 4194304 + p5 * 4096 + p0 * 2) 8388608 2 (by omega) (by clear hs ho hc s0 s1 s2 s3 s4 s5 s6 s7; omega) (by omega)
    have k2 : fv (off I) 4194304 2 = B := by rw [ho, fv_nat]; exact dig _ (p6 * 2 + A * 1) B (p5 * 4096 + p0 * 2) 4194304 2 (by omega) (by clear hs ho hc s0 s1 s2 s3 s4 s5 s6 s7; omega) (by omega)
    have g0 : fv (off I) 16777216 2 = p6 := by rw [ho, fv_nat]; exact dig _ (0) p6 (A * 8388608 + B * 4194304 + p5 * 4096 + p0 * 2) 16777216 2 (by omega) (by clear hs ho hc s0 s1 s2 s3 s4 s5 s6 s7; omega) (by omega)
    have g1 : fv (off I) 4096 1024 = p5 := by rw [ho, fv_nat]; exact dig _ (p6 * 4 + A * 2 + B * 1) p5 (p0 * 2) 4096 1024 (by omega) (by clear hs ho hc s0 s1 s2 s3 s4 s5 s6 s7; omega) (by omega)
    have g2 : fv (off I) 2 2048 = p0 := by rw [ho, fv_nat]; exact dig _ (p6 * 4096 + A * 2048 + B * 1024 + p5 * 1) p0 (0) 2 2048 (by omega) (by clear hs ho hc s0 s1 s2 s3 s4 s5 s6 s7; omega) (by omega)
    have k0 : 0 ≤ off I := by rw [ho]; omega
    have l1 : fv (Th.alike (off I) 23 24) 1 2 = p3 := by rw [Th.alike_fv (off I) 23 24 8388608 16777216 (by decide) (by decide) k0, k1, g0]; exact E1.out
    have l2 : fv (Th.alike (off I) 22 24) 1 2 = p1 := by rw [Th.alike_fv (off I) 22 24 4194304 16777216 (by decide) (by decide) k0, k2, g0]; exact E2.out
    refine ⟨(Th.ok24 _ _ _ _ _ _ _).2 ⟨rfl, rfl, rfl, rfl, ⟨by omega, ?_, ?_⟩, ?_⟩, ?_⟩
    · intro hx; first | (cases hx; done) | omega
    · intro hx; first | (cases hx; done) | omega
    · first | rfl | omega | exact ⟨rfl, Or.inl rfl⟩ | exact ⟨by omega, by simp⟩ | exact ⟨⟨by omega, by omega⟩, by simp⟩
    rw [Th.num24w, g0, g1, g2, l1, l2]
    omega
  · rw [if_neg hc] at hs
    have ho : off I = ((p6 * 16777216 + A * 8388608 + B * 4194304 + p5 * 4096 + p0 * 2 : Nat) : Int) := by unfold off; rw [if_pos (by omega)]; omega
    have k1 : fv (off I) 8388608 2 = A := by rw [ho, fv_nat]; exact dig _ (p6 * 1) A (B * 4194304 + p5 * 4096 + p0 * 2) 8388608 2 (by omega) (by clear hs ho hc s0 s1 s2 s3 s4 s5 s6 s7; omega) (by omega)
    have k2 : fv (off I) 4194304 2 = B := by rw [ho, fv_nat]; exact dig _ (p6 * 2 + A * 1) B (p5 * 4096 + p0 * 2) 4194304 2 (by omega) (by clear hs ho hc s0 s1 s2 s3 s4 s5 s6 s7; omega) (by omega)
    have g0 : fv (off I) 16777216 2 = p6 := by rw [ho, fv_nat]; exact dig _ (0) p6 (A * 8388608 + B * 4194304 + p5 * 4096 + p0 * 2) 16777216 2 (by omega) (by clear hs ho hc s0 s1 s2 s3 s4 s5 s6 s7; omega) (by omega)
    have g1 : fv (off I) 4096 1024 = p5 := by rw [ho, fv_nat]; exact dig _ (p6 * 4 + A * 2 + B * 1) p5 (p0 * 2) 4096 1024 (by omega) (by clear hs ho hc s0 s1 s2 s3 s4 s5 s6 s7; omega) (by omega)
    have g2 : fv (off I) 2 2048 = p0 := by rw [ho, fv_nat]; exact dig _ (p6 * 4096 + A * 2048 + B * 1024 + p5 * 1) p0 (0) 2 2048 (by omega) (by clear hs ho hc s0 s1 s2 s3 s4 s5 s6 s7; omega) (by omega)
    have k0 : 0 ≤ off I := by rw [ho]; omega
    have l1 : fv (Th.alike (off I) 23 24) 1 2 = p3 := by rw [Th.alike_fv (off I) 23 24 8388608 16777216 (by decide) (by decide) k0, k1, g0]; exact E1.out
    have l2 : fv (Th.alike (off I) 22 24) 1 2 = p1 := by rw [Th.alike_fv (off I) 22 24 4194304 16777216 (by decide) (by decide) k0, k2, g0]; exact E2.out
    refine ⟨(Th.ok24 _ _ _ _ _ _ _).2 ⟨rfl, rfl, rfl, rfl, ⟨by omega, ?_, ?_⟩, ?_⟩, ?_⟩
    · intro hx; first | (cases hx; done) | omega
    · intro hx; first | (cases hx; done) | omega
    · first | rfl | omega | exact ⟨rfl, Or.inl rfl⟩ | exact ⟨by omega, by simp⟩ | exact ⟨⟨by omega, by omega⟩, by simp⟩
    rw [Th.num24w, g0, g1, g2, l1, l2]
    omega
set_option maxRecDepth 100000 in
theorem rowA25n (x : Nat) (hx : x < 4294967296) (h : hit x 4294963200 53248 = true) (ht : there (read 25 x) = true) : check (read 25 x) = 0 ∧ num (read 25 x) = x := by
  have h' : x &&& 4294963200 = 53248 := eq_of_beq h
  have ft : pt x 12 20 = 13 := run_of x 4294963200 53248 12 20 13 1048575 h' (by decide) (by decide) (by decide)
  have st := seg x 12 20 4096 1048576 4294967296 (by decide) (by decide) (by decide)
  have hw : ¬ 65536 ≤ x := by omega
  clear ft st
  have hr : read 25 x = ⟨25, 0, 0, 0, 0, signed (b25n x) 9, ((pt x 8 4 : Nat) : Int), false⟩ := by
    show readB 25 x = _
    unfold readB; rw [if_neg hw, if_neg hw]; rfl
  rw [hr] at ht ⊢
  clear hr
  unfold there at ht
  have hs := signed_is (b25n x) 9 256 512 (by decide) (by decide)
  generalize signed (b25n x) 9 = I at *
  unfold b25n at hs
  have s0 := seg x 0 8 1 256 256 (by decide) (by decide) (by decide)
  have f0 : pt x 0 8 < 256 := pt_lt x 0 8
  have s1 := seg x 8 4 256 16 4096 (by decide) (by decide) (by decide)
  have f1 : pt x 8 4 < 16 := pt_lt x 8 4
  have s2 := seg x 12 20 4096 1048576 4294967296 (by decide) (by decide) (by decide)
  have f2 : pt x 12 20 = 13 := run_of x 4294963200 53248 12 20 13 1048575 h' (by decide) (by decide) (by decide)
  have z : x / 4294967296 = 0 := Nat.div_eq_of_lt hx
  rw [Nat.div_one] at s0
  rw [z] at s2
  generalize x / 256 = q0 at *
  generalize x / 4096 = q1 at *
  generalize hp0 : pt x 0 8 = p0 at *
  generalize hp1 : pt x 8 4 = p1 at *
  generalize hp2 : pt x 12 20 = p2 at *
  clear h h'
  simp at ht
  have gc : fv ((p1 : Nat) : Int) 1 16 = p1 := by rw [fv_nat]; omega
  by_cases hc : p0 * 2 < 256
  · rw [if_pos hc] at hs
    have ho : off I = ((p0 * 2 : Nat) : Int) := by unfold off; rw [if_neg (by omega)]; omega
    have g0 : fv (off I) 2 256 = p0 := by rw [ho, fv_nat]; exact dig _ (0) p0 (0) 2 256 (by omega) (by clear hs ho hc s0 s1 s2; omega) (by omega)
    refine ⟨(Th.ok25 _ _ _ _ _ _ _).2 ⟨rfl, rfl, rfl, rfl, ⟨by omega, ?_, ?_⟩, ?_⟩, ?_⟩
    · intro hx; first | (cases hx; done) | omega
    · intro hx; first | (cases hx; done) | omega
    · first | rfl | omega | exact ⟨rfl, Or.inl rfl⟩ | exact ⟨by omega, by simp⟩ | exact ⟨⟨by omega, by omega⟩, by simp⟩
    rw [Th.num25n, g0, gc]
    omega
  · rw [if_neg hc] at hs
    have ho : off I = ((p0 * 2 + 33553920 : Nat) : Int) := by unfold off; rw [if_pos (by omega)]; omega
    have g0 : fv (off I) 2 256 = p0 := by rw [ho, fv_nat]; exact dig _ (65535) p0 (0) 2 256 (by omega) (by clear hs ho hc s0 s1 s2; omega) (by omega)
    refine ⟨(Th.ok25 _ _ _ _ _ _ _).2 ⟨rfl, rfl, rfl, rfl, ⟨by omega, ?_, ?_⟩, ?_⟩, ?_⟩
    · intro hx; first | (cases hx; done) | omega
    · intro hx; first | (cases hx; done) | omega
    · first | rfl | omega | exact ⟨rfl, Or.inl rfl⟩ | exact ⟨by omega, by simp⟩ | exact ⟨⟨by omega, by omega⟩, by simp⟩
    rw [Th.num25n, g0, gc]
    omega
set_option maxRecDepth 100000 in
theorem rowA25w (x : Nat) (hx : x < 4294967296) (h : hit x 4160802816 4026564608 = true) (ht : there (read 25 x) = true) : check (read 25 x) = 0 ∧ num (read 25 x) = x := by
  have h' : x &&& 4160802816 = 4026564608 := eq_of_beq h
  have ft : pt x 27 5 = 30 := run_of x 4160802816 4026564608 27 5 30 31 h' (by decide) (by decide) (by decide)
  have st := seg x 27 5 134217728 32 4294967296 (by decide) (by decide) (by decide)
  have hw : 65536 ≤ x := by omega
  clear ft st
  have hr : read 25 x = ⟨25, 0, 0, 0, 0, signed (b25w x) 21, ((pt x 22 4 : Nat) : Int), true⟩ := by
    show readB 25 x = _
    unfold readB; rw [if_pos hw, if_pos hw]; rfl
  rw [hr] at ht ⊢
  clear hr
  unfold there at ht
  have hs := signed_is (b25w x) 21 1048576 2097152 (by decide) (by decide)
  generalize signed (b25w x) 21 = I at *
  unfold b25w at hs
  have s0 := seg x 0 11 1 2048 2048 (by decide) (by decide) (by decide)
  have f0 : pt x 0 11 < 2048 := pt_lt x 0 11
  have s1 := seg x 11 1 2048 2 4096 (by decide) (by decide) (by decide)
  have f1 : pt x 11 1 < 2 := pt_lt x 11 1
  have s2 := seg x 12 1 4096 2 8192 (by decide) (by decide) (by decide)
  have f2 : pt x 12 1 = 0 := run_of x 4160802816 4026564608 12 1 0 1 h' (by decide) (by decide) (by decide)
  have s3 := seg x 13 1 8192 2 16384 (by decide) (by decide) (by decide)
  have f3 : pt x 13 1 < 2 := pt_lt x 13 1
  have s4 := seg x 14 2 16384 4 65536 (by decide) (by decide) (by decide)
  have f4 : pt x 14 2 = 2 := run_of x 4160802816 4026564608 14 2 2 3 h' (by decide) (by decide) (by decide)
  have s5 := seg x 16 6 65536 64 4194304 (by decide) (by decide) (by decide)
  have f5 : pt x 16 6 < 64 := pt_lt x 16 6
  have s6 := seg x 22 4 4194304 16 67108864 (by decide) (by decide) (by decide)
  have f6 : pt x 22 4 < 16 := pt_lt x 22 4
  have s7 := seg x 26 1 67108864 2 134217728 (by decide) (by decide) (by decide)
  have f7 : pt x 26 1 < 2 := pt_lt x 26 1
  have s8 := seg x 27 5 134217728 32 4294967296 (by decide) (by decide) (by decide)
  have f8 : pt x 27 5 = 30 := run_of x 4160802816 4026564608 27 5 30 31 h' (by decide) (by decide) (by decide)
  have z : x / 4294967296 = 0 := Nat.div_eq_of_lt hx
  rw [Nat.div_one] at s0
  rw [z] at s8
  generalize x / 2048 = q0 at *
  generalize x / 4096 = q1 at *
  generalize x / 8192 = q2 at *
  generalize x / 16384 = q3 at *
  generalize x / 65536 = q4 at *
  generalize x / 4194304 = q5 at *
  generalize x / 67108864 = q6 at *
  generalize x / 134217728 = q7 at *
  generalize hp0 : pt x 0 11 = p0 at *
  generalize hp1 : pt x 11 1 = p1 at *
  generalize hp2 : pt x 12 1 = p2 at *
  generalize hp3 : pt x 13 1 = p3 at *
  generalize hp4 : pt x 14 2 = p4 at *
  generalize hp5 : pt x 16 6 = p5 at *
  generalize hp6 : pt x 22 4 = p6 at *
  generalize hp7 : pt x 26 1 = p7 at *
  generalize hp8 : pt x 27 5 = p8 at *
  clear h h'
  simp at ht
  have gc : fv ((p6 : Nat) : Int) 1 16 = p6 := by rw [fv_nat]; omega
  by_cases hc : p7 * 1048576 + p1 * 524288 + p3 * 262144 + p5 * 4096 + p0 * 2 < 1048576
  · rw [if_pos hc] at hs
    have ho : off I = ((p7 * 1048576 + p1 * 524288 + p3 * 262144 + p5 * 4096 + p0 * 2 : Nat) : Int) := by unfold off; rw [if_neg (by omega)]; omega
    have g0 : fv (off I) 1048576 2 = p7 := by rw [ho, fv_nat]; exact dig _ (0) p7 (p1 * 524288 + p3 * 262144 + p5 * 4096 + p0 * 2) 1048576 2 (by omega) (by clear hs ho hc s0 s1 s2 s3 s4 s5 s6 s7 s8; omega) (by omega)
    have g1 : fv (off I) 4096 64 = p5 := by rw [ho, fv_nat]; exact dig _ (p7 * 4 + p1 * 2 + p3 * 1) p5 (p0 * 2) 4096 64 (by omega) (by clear hs ho hc s0 s1 s2 s3 s4 s5 s6 s7 s8; omega) (by omega)
    have g2 : fv (off I) 262144 2 = p3 := by rw [ho, fv_nat]; exact dig _ (p7 * 2 + p1 * 1) p3 (p5 * 4096 + p0 * 2) 262144 2 (by omega) (by clear hs ho hc s0 s1 s2 s3 s4 s5 s6 s7 s8; omega) (by omega)
    have g3 : fv (off I) 524288 2 = p1 := by rw [ho, fv_nat]; exact dig _ (p7 * 1) p1 (p3 * 262144 + p5 * 4096 + p0 * 2) 524288 2 (by omega) (by clear hs ho hc s0 s1 s2 s3 s4 s5 s6 s7 s8; omega) (by omega)
    have g4 : fv (off I) 2 2048 = p0 := by rw [ho, fv_nat]; exact dig _ (p7 * 256 + p1 * 128 + p3 * 64 + p5 * 1) p0 (0) 2 2048 (by omega) (by clear hs ho hc s0 s1 s2 s3 s4 s5 s6 s7 s8; omega) (by omega)
    refine ⟨(Th.ok25 _ _ _ _ _ _ _).2 ⟨rfl, rfl, rfl, rfl, ⟨by omega, ?_, ?_⟩, ?_⟩, ?_⟩
    · intro hx; first | (cases hx; done) | omega
    · intro hx; first | (cases hx; done) | omega
    · first | rfl | omega | exact ⟨rfl, Or.inl rfl⟩ | exact ⟨by omega, by simp⟩ | exact ⟨⟨by omega, by omega⟩, by simp⟩
    rw [Th.num25w, g0, g1, g2, g3, g4, gc]
    omega
  · rw [if_neg hc] at hs
    have ho : off I = ((p7 * 1048576 + p1 * 524288 + p3 * 262144 + p5 * 4096 + p0 * 2 + 31457280 : Nat) : Int) := by unfold off; rw [if_pos (by omega)]; omega
    have g0 : fv (off I) 1048576 2 = p7 := by rw [ho, fv_nat]; exact dig _ (15) p7 (p1 * 524288 + p3 * 262144 + p5 * 4096 + p0 * 2) 1048576 2 (by omega) (by clear hs ho hc s0 s1 s2 s3 s4 s5 s6 s7 s8; omega) (by omega)
    have g1 : fv (off I) 4096 64 = p5 := by rw [ho, fv_nat]; exact dig _ (p7 * 4 + p1 * 2 + p3 * 1 + 120) p5 (p0 * 2) 4096 64 (by omega) (by clear hs ho hc s0 s1 s2 s3 s4 s5 s6 s7 s8; omega) (by omega)
    have g2 : fv (off I) 262144 2 = p3 := by rw [ho, fv_nat]; exact dig _ (p7 * 2 + p1 * 1 + 60) p3 (p5 * 4096 + p0 * 2) 262144 2 (by omega) (by clear hs ho hc s0 s1 s2 s3 s4 s5 s6 s7 s8; omega) (by omega)
    have g3 : fv (off I) 524288 2 = p1 := by rw [ho, fv_nat]; exact dig _ (p7 * 1 + 30) p1 (p3 * 262144 + p5 * 4096 + p0 * 2) 524288 2 (by omega) (by clear hs ho hc s0 s1 s2 s3 s4 s5 s6 s7 s8; omega) (by omega)
    have g4 : fv (off I) 2 2048 = p0 := by rw [ho, fv_nat]; exact dig _ (p7 * 256 + p1 * 128 + p3 * 64 + p5 * 1 + 7680) p0 (0) 2 2048 (by omega) (by clear hs ho hc s0 s1 s2 s3 s4 s5 s6 s7 s8; omega) (by omega)
    refine ⟨(Th.ok25 _ _ _ _ _ _ _).2 ⟨rfl, rfl, rfl, rfl, ⟨by omega, ?_, ?_⟩, ?_⟩, ?_⟩
    · intro hx; first | (cases hx; done) | omega
    · intro hx; first | (cases hx; done) | omega
    · first | rfl | omega | exact ⟨rfl, Or.inl rfl⟩ | exact ⟨by omega, by simp⟩ | exact ⟨⟨by omega, by omega⟩, by simp⟩
    rw [Th.num25w, g0, g1, g2, g3, g4, gc]
    omega
end Go.Proofs.Ytplfpaffjaldoaa.De
end
section
namespace Go.Proofs.Ytplfpaffjaldoaa.De
open Go.RowKit
open Th (Ins none0 check num size fv off)
set_option linter.unusedVariables false
set_option linter.unusedSimpArgs false

theorem findIn_spec (x : Nat) (l : List (Int × Nat × Nat)) : findIn x l = 0 ∨ ∃ r ∈ l, hit x r.2.1 r.2.2 = true ∧ findIn x l = r.1 := by
  induction l with
  | nil => exact Or.inl rfl
  | cons r l ih =>
    rw [findIn]
    by_cases h : hit x r.2.1 r.2.2 = true
    · rw [if_pos h]; exact Or.inr ⟨r, by simp, h, rfl⟩
    · rw [if_neg h]
      rcases ih with ih | ⟨q, hq, h1, h2⟩
      · exact Or.inl ih
      · exact Or.inr ⟨q, by simp [hq], h1, h2⟩
theorem sound (x : Nat) (hx : x < 4294967296) (ht : there (read (find x) x) = true) : check (read (find x) x) = 0 ∧ num (read (find x) x) = x := by
  rcases findIn_spec x rows with h | ⟨r, hr, hh, hf⟩
  · have h' : find x = 0 := h
    rw [h'] at ht
    exact absurd ht (show ¬ there (read 0 x) = true from (by intro c; cases c))
  · have hf' : find x = r.1 := hf
    simp only [rows, List.mem_cons, List.not_mem_nil, or_false] at hr
    rcases hr with rfl | rfl | rfl | rfl | rfl | rfl | rfl | rfl | rfl | rfl | rfl | rfl | rfl | rfl | rfl | rfl | rfl | rfl | rfl | rfl | rfl | rfl | rfl | rfl | rfl | rfl | rfl
    · rw [hf'] at ht ⊢; exact rowA1 x hx hh ht
    · rw [hf'] at ht ⊢; exact rowA2 x hx hh ht
    · rw [hf'] at ht ⊢; exact rowA3 x hx hh ht
    · rw [hf'] at ht ⊢; exact rowA4 x hx hh ht
    · rw [hf'] at ht ⊢; exact rowA5 x hx hh ht
    · rw [hf'] at ht ⊢; exact rowA6 x hx hh ht
    · rw [hf'] at ht ⊢; exact rowA7 x hx hh ht
    · rw [hf'] at ht ⊢; exact rowA8 x hx hh ht
    · rw [hf'] at ht ⊢; exact rowA9 x hx hh ht
    · rw [hf'] at ht ⊢; exact rowA10 x hx hh ht
    · rw [hf'] at ht ⊢; exact rowA11 x hx hh ht
    · rw [hf'] at ht ⊢; exact rowA12 x hx hh ht
    · rw [hf'] at ht ⊢; exact rowA13 x hx hh ht
    · rw [hf'] at ht ⊢; exact rowA14 x hx hh ht
    · rw [hf'] at ht ⊢; exact rowA15 x hx hh ht
    · rw [hf'] at ht ⊢; exact rowA16 x hx hh ht
    · rw [hf'] at ht ⊢; exact rowA17 x hx hh ht
    · rw [hf'] at ht ⊢; exact rowA18 x hx hh ht
    · rw [hf'] at ht ⊢; exact rowA19 x hx hh ht
    · rw [hf'] at ht ⊢; exact rowA20 x hx hh ht
    · rw [hf'] at ht ⊢; exact rowA21 x hx hh ht
    · rw [hf'] at ht ⊢; exact rowA22 x hx hh ht
    · rw [hf'] at ht ⊢; exact rowA23 x hx hh ht
    · rw [hf'] at ht ⊢; exact rowA24n x hx hh ht
    · rw [hf'] at ht ⊢; exact rowA24w x hx hh ht
    · rw [hf'] at ht ⊢; exact rowA25n x hx hh ht
    · rw [hf'] at ht ⊢; exact rowA25w x hx hh ht
theorem findIn_app (x : Nat) (l1 l2 : List (Int × Nat × Nat)) (h : ∀ r ∈ l1, hit x r.2.1 r.2.2 = false) : findIn x (l1 ++ l2) = findIn x l2 := by
  induction l1 with
  | nil => rfl
  | cons r l ih =>
    rw [List.cons_append, findIn, if_neg (by rw [h r (by simp)]; decide)]
    exact ih fun q hq => h q (by simp [hq])
theorem find_of (x j m b : Nat) (op : Int) (hr : rows.drop j = (op, m, b) :: rows.drop (j + 1)) (hh : hit x m b = true) (hno : ∀ r ∈ rows.take j, hit x r.2.1 r.2.2 = false) : find x = op := by
  have e : rows = rows.take j ++ rows.drop j := (List.take_append_drop j rows).symm
  unfold find
  rw [e, findIn_app x _ _ hno, hr, findIn, if_pos hh]
theorem apart (x m b m' b' : Nat) (h : hit x m b = true) (hd : ((b &&& m') == (b' &&& m)) = false) : hit x m' b' = false := by
  cases c : hit x m' b' with
  | false => rfl
  | true =>
    have e1 : x &&& m = b := eq_of_beq h
    have e2 : x &&& m' = b' := eq_of_beq c
    rw [← e1, ← e2, Nat.and_assoc, Nat.and_assoc, Nat.and_comm m' m, beq_self_eq_true] at hd
    cases hd
theorem and_join (x m b l len v M B : Nat) (h : x &&& m = b) (hm : m < 2 ^ l) (hv : pt x l len = v) (hM : m + (2 ^ len - 1) * 2 ^ l = M) (hB : b + v * 2 ^ l = B) : x &&& M = B := by
  have hb : b < 2 ^ l := by rw [← h]; exact Nat.lt_of_le_of_lt Nat.and_le_right hm
  have e : M = 2 ^ l * (2 ^ len - 1) ||| m := by rw [← hM, Nat.add_comm, Nat.mul_comm, Nat.two_pow_add_eq_or_of_lt hm]
  have e2 : x &&& 2 ^ l * (2 ^ len - 1) = 2 ^ l * pt x l len := by
    apply Nat.eq_of_testBit_eq
    intro i
    rw [Nat.testBit_and, Nat.testBit_two_pow_mul, Nat.testBit_two_pow_mul, Nat.testBit_two_pow_sub_one]
    unfold pt
    rw [Nat.testBit_mod_two_pow, Nat.testBit_div_two_pow]
    by_cases hi : l ≤ i
    · rw [Nat.sub_add_cancel hi]
      simp [hi, Bool.and_comm]
    · simp [hi]
  rw [e, Nat.and_or_distrib_left, h, e2, hv, ← Nat.two_pow_add_eq_or_of_lt hb, ← hB, Nat.mul_comm, Nat.add_comm]
theorem there24 (I : Int) (b : Bool) : there ⟨24, 0, 0, 0, 0, I, 0, b⟩ = true := by unfold there; simp
theorem there25 (I c : Int) (b : Bool) (h : c ≤ 13) : there ⟨25, 0, 0, 0, 0, I, c, b⟩ = true := by
  unfold there; simp; omega
theorem rd24w (x : Nat) (hw : 65536 ≤ x) : read 24 x = ⟨24, 0, 0, 0, 0, signed (b24w x) 25, 0, true⟩ := by
  show readB 24 x = _
  unfold readB; rw [if_pos hw]; rfl
theorem rd24n (x : Nat) (hw : ¬ 65536 ≤ x) : read 24 x = ⟨24, 0, 0, 0, 0, signed (b24n x) 12, 0, false⟩ := by
  show readB 24 x = _
  unfold readB; rw [if_neg hw]; rfl
theorem rd25w (x : Nat) (hw : 65536 ≤ x) : read 25 x = ⟨25, 0, 0, 0, 0, signed (b25w x) 21, ((pt x 22 4 : Nat) : Int), true⟩ := by
  show readB 25 x = _
  unfold readB; rw [if_pos hw, if_pos hw]; rfl
theorem rd25n (x : Nat) (hw : ¬ 65536 ≤ x) : read 25 x = ⟨25, 0, 0, 0, 0, signed (b25n x) 9, ((pt x 8 4 : Nat) : Int), false⟩ := by
  show readB 25 x = _
  unfold readB; rw [if_neg hw, if_neg hw]; rfl
theorem pt_dig (x lo n h d l r q : Nat) (hr : 2 ^ lo = r) (hq : 2 ^ n = q) (e : x = (h * q + d) * r + l) (hl : l < r) (hd : d < q) : pt x lo n = d := by
  subst hr; subst hq
  exact dig x h d l _ _ e hl hd
set_option maxRecDepth 100000 in
theorem rowB1 (rd rn rm ra imm cond : Int) (wide : Bool) (h : check ⟨1, rd, rn, rm, ra, imm, cond, wide⟩ = 0) : find (num ⟨1, rd, rn, rm, ra, imm, cond, wide⟩) = 1 ∧ there (read 1 (num ⟨1, rd, rn, rm, ra, imm, cond, wide⟩)) = true := by
  have hx : num ⟨1, rd, rn, rm, ra, imm, cond, wide⟩ < 4294967296 := by rcases Th.size_num _ h with h | h <;> omega
  rw [Th.num1] at hx ⊢
  rw [Th.ok1] at h
  generalize hX : 48896 = x at *
  have p0 : pt x 0 32 = 48896 := pt_dig x 0 32 (0) 48896 (0) 1 4294967296 (by decide) (by decide) (by omega) (by omega) (by omega)
  have a0 : x &&& 4294967295 = 48896 := and_join x 0 0 0 32 48896 4294967295 48896 (Nat.and_zero x) (by decide) p0 (by decide) (by decide)
  have hh : hit x 4294967295 48896 = true := by unfold hit; rw [a0]; exact beq_self_eq_true _
  have hno : ∀ r ∈ rows.take 0, hit x r.2.1 r.2.2 = false := by
    have hd : ∀ r ∈ rows.take 0, ((48896 &&& r.2.1) == (r.2.2 &&& 4294967295)) = false := by decide +kernel
    intro r hr
    exact apart x _ _ _ _ hh (hd r hr)
  refine ⟨find_of x 0 4294967295 48896 1 rfl hh hno, ?_⟩
  have hr : read 1 x = ⟨1, 0, 0, 0, 0, 0, 0, false⟩ := rfl
  rw [hr]
  unfold there
  simp only [p0]
  clear hno hh hr a0
  rfl
set_option maxRecDepth 100000 in
theorem rowB2 (rd rn rm ra imm cond : Int) (wide : Bool) (h : check ⟨2, rd, rn, rm, ra, imm, cond, wide⟩ = 0) : find (num ⟨2, rd, rn, rm, ra, imm, cond, wide⟩) = 2 ∧ there (read 2 (num ⟨2, rd, rn, rm, ra, imm, cond, wide⟩)) = true := by
  have hx : num ⟨2, rd, rn, rm, ra, imm, cond, wide⟩ < 4294967296 := by rcases Th.size_num _ h with h | h <;> omega
  rw [Th.num2] at hx ⊢
  rw [Th.ok2] at h
  have b0 := Th.fv_lt (imm) 1 256 (by decide)
  generalize Th.fv (imm) 1 256 = F0 at *
  generalize hX : 48640 + F0 * 1 = x at *
  have p0 : pt x 0 8 = F0 := pt_dig x 0 8 (190 * 1) F0 (0) 1 256 (by decide) (by decide) (by omega) (by omega) (by omega)
  have p1 : pt x 8 24 = 190 := pt_dig x 8 24 (0) 190 (F0 * 1) 256 16777216 (by decide) (by decide) (by omega) (by omega) (by omega)
  have a0 : x &&& 4294967040 = 48640 := and_join x 0 0 8 24 190 4294967040 48640 (Nat.and_zero x) (by decide) p1 (by decide) (by decide)
  have hh : hit x 4294967040 48640 = true := by unfold hit; rw [a0]; exact beq_self_eq_true _
  have hno : ∀ r ∈ rows.take 1, hit x r.2.1 r.2.2 = false := by
    have hd : ∀ r ∈ rows.take 1, ((48640 &&& r.2.1) == (r.2.2 &&& 4294967040)) = false := by decide +kernel
    intro r hr
    exact apart x _ _ _ _ hh (hd r hr)
  refine ⟨find_of x 1 4294967040 48640 2 rfl hh hno, ?_⟩
  have hr : read 2 x = ⟨2, 0, 0, 0, 0, ((pt x 0 8 : Nat) : Int), 0, false⟩ := rfl
  rw [hr]
  unfold there
  simp only [p0, p1]
  clear hno hh hr a0
  rfl
set_option maxRecDepth 100000 in
theorem rowB3 (rd rn rm ra imm cond : Int) (wide : Bool) (h : check ⟨3, rd, rn, rm, ra, imm, cond, wide⟩ = 0) : find (num ⟨3, rd, rn, rm, ra, imm, cond, wide⟩) = 3 ∧ there (read 3 (num ⟨3, rd, rn, rm, ra, imm, cond, wide⟩)) = true := by
  have hx : num ⟨3, rd, rn, rm, ra, imm, cond, wide⟩ < 4294967296 := by rcases Th.size_num _ h with h | h <;> omega
  rw [Th.num3] at hx ⊢
  rw [Th.ok3] at h
  have b0 := Th.fv_lt (imm) 2048 2 (by decide)
  have b1 := Th.fv_lt (imm) 4096 16 (by decide)
  have b2 := Th.fv_lt (imm) 256 8 (by decide)
  have b3 := Th.fv_lt (rd) 1 16 (by decide)
  have b4 := Th.fv_lt (imm) 1 256 (by decide)
  have e3 : (Th.fv rd 1 16 : Int) = rd := by unfold Th.fv; omega
  generalize Th.fv (imm) 2048 2 = F0 at *
  generalize Th.fv (imm) 4096 16 = F1 at *
  generalize Th.fv (imm) 256 8 = F2 at *
  generalize Th.fv (rd) 1 16 = F3 at *
  generalize Th.fv (imm) 1 256 = F4 at *
  generalize hX : 4064280576 + F0 * 67108864 + F1 * 65536 + F2 * 4096 + F3 * 256 + F4 * 1 = x at *
  have p0 : pt x 0 8 = F4 := pt_dig x 0 8 (F3 * 1 + F2 * 16 + 0 * 128 + F1 * 256 + 36 * 4096 + F0 * 262144 + 30 * 524288) F4 (0) 1 256 (by decide) (by decide) (by omega) (by omega) (by omega)
  have p1 : pt x 8 4 = F3 := pt_dig x 8 4 (F2 * 1 + 0 * 8 + F1 * 16 + 36 * 256 + F0 * 16384 + 30 * 32768) F3 (F4 * 1) 256 16 (by decide) (by decide) (by omega) (by omega) (by omega)
  have p2 : pt x 12 3 = F2 := pt_dig x 12 3 (0 * 1 + F1 * 2 + 36 * 32 + F0 * 2048 + 30 * 4096) F2 (F4 * 1 + F3 * 256) 4096 8 (by decide) (by decide) (by omega) (by omega) (by omega)
  have p3 : pt x 15 1 = 0 := pt_dig x 15 1 (F1 * 1 + 36 * 16 + F0 * 1024 + 30 * 2048) 0 (F4 * 1 + F3 * 256 + F2 * 4096) 32768 2 (by decide) (by decide) (by omega) (by omega) (by omega)
  have p4 : pt x 16 4 = F1 := pt_dig x 16 4 (36 * 1 + F0 * 64 + 30 * 128) F1 (F4 * 1 + F3 * 256 + F2 * 4096 + 0 * 32768) 65536 16 (by decide) (by decide) (by omega) (by omega) (by omega)
  have p5 : pt x 20 6 = 36 := pt_dig x 20 6 (F0 * 1 + 30 * 2) 36 (F4 * 1 + F3 * 256 + F2 * 4096 + 0 * 32768 + F1 * 65536) 1048576 64 (by decide) (by decide) (by omega) (by omega) (by omega)
  have p6 : pt x 26 1 = F0 := pt_dig x 26 1 (30 * 1) F0 (F4 * 1 + F3 * 256 + F2 * 4096 + 0 * 32768 + F1 * 65536 + 36 * 1048576) 67108864 2 (by decide) (by decide) (by omega) (by omega) (by omega)
  have p7 : pt x 27 5 = 30 := pt_dig x 27 5 (0) 30 (F4 * 1 + F3 * 256 + F2 * 4096 + 0 * 32768 + F1 * 65536 + 36 * 1048576 + F0 * 67108864) 134217728 32 (by decide) (by decide) (by omega) (by omega) (by omega)
  have a0 : x &&& 32768 = 0 := and_join x 0 0 15 1 0 32768 0 (Nat.and_zero x) (by decide) p3 (by decide) (by decide)
  have a1 : x &&& 66093056 = 37748736 := and_join x 32768 0 20 6 36 66093056 37748736 a0 (by decide) p5 (by decide) (by decide)
  have a2 : x &&& 4226842624 = 4064280576 := and_join x 66093056 37748736 27 5 30 4226842624 4064280576 a1 (by decide) p7 (by decide) (by decide)
  have hh : hit x 4226842624 4064280576 = true := by unfold hit; rw [a2]; exact beq_self_eq_true _
  have hno : ∀ r ∈ rows.take 2, hit x r.2.1 r.2.2 = false := by
    have hd : ∀ r ∈ rows.take 2, ((4064280576 &&& r.2.1) == (r.2.2 &&& 4226842624)) = false := by decide +kernel
    intro r hr
    exact apart x _ _ _ _ hh (hd r hr)
  refine ⟨find_of x 2 4226842624 4064280576 3 rfl hh hno, ?_⟩
  have hr : read 3 x = ⟨3, ((pt x 8 4 : Nat) : Int), 0, 0, 0, ((imm16 x : Nat) : Int), 0, false⟩ := rfl
  rw [hr]
  unfold there
  simp only [p0, p1, p2, p3, p4, p5, p6, p7]
  clear hno hh hr a0 a1 a2
  simp
  omega
set_option maxRecDepth 100000 in
theorem rowB4 (rd rn rm ra imm cond : Int) (wide : Bool) (h : check ⟨4, rd, rn, rm, ra, imm, cond, wide⟩ = 0) : find (num ⟨4, rd, rn, rm, ra, imm, cond, wide⟩) = 4 ∧ there (read 4 (num ⟨4, rd, rn, rm, ra, imm, cond, wide⟩)) = true := by
  have hx : num ⟨4, rd, rn, rm, ra, imm, cond, wide⟩ < 4294967296 := by rcases Th.size_num _ h with h | h <;> omega
  rw [Th.num4] at hx ⊢
  rw [Th.ok4] at h
  have b0 := Th.fv_lt (imm) 2048 2 (by decide)
  have b1 := Th.fv_lt (imm) 4096 16 (by decide)
  have b2 := Th.fv_lt (imm) 256 8 (by decide)
  have b3 := Th.fv_lt (rd) 1 16 (by decide)
  have b4 := Th.fv_lt (imm) 1 256 (by decide)
  have e3 : (Th.fv rd 1 16 : Int) = rd := by unfold Th.fv; omega
  generalize Th.fv (imm) 2048 2 = F0 at *
  generalize Th.fv (imm) 4096 16 = F1 at *
  generalize Th.fv (imm) 256 8 = F2 at *
  generalize Th.fv (rd) 1 16 = F3 at *
  generalize Th.fv (imm) 1 256 = F4 at *
  generalize hX : 4072669184 + F0 * 67108864 + F1 * 65536 + F2 * 4096 + F3 * 256 + F4 * 1 = x at *
  have p0 : pt x 0 8 = F4 := pt_dig x 0 8 (F3 * 1 + F2 * 16 + 0 * 128 + F1 * 256 + 44 * 4096 + F0 * 262144 + 30 * 524288) F4 (0) 1 256 (by decide) (by decide) (by omega) (by omega) (by omega)
  have p1 : pt x 8 4 = F3 := pt_dig x 8 4 (F2 * 1 + 0 * 8 + F1 * 16 + 44 * 256 + F0 * 16384 + 30 * 32768) F3 (F4 * 1) 256 16 (by decide) (by decide) (by omega) (by omega) (by omega)
  have p2 : pt x 12 3 = F2 := pt_dig x 12 3 (0 * 1 + F1 * 2 + 44 * 32 + F0 * 2048 + 30 * 4096) F2 (F4 * 1 + F3 * 256) 4096 8 (by decide) (by decide) (by omega) (by omega) (by omega)
  have p3 : pt x 15 1 = 0 := pt_dig x 15 1 (F1 * 1 + 44 * 16 + F0 * 1024 + 30 * 2048) 0 (F4 * 1 + F3 * 256 + F2 * 4096) 32768 2 (by decide) (by decide) (by omega) (by omega) (by omega)
  have p4 : pt x 16 4 = F1 := pt_dig x 16 4 (44 * 1 + F0 * 64 + 30 * 128) F1 (F4 * 1 + F3 * 256 + F2 * 4096 + 0 * 32768) 65536 16 (by decide) (by decide) (by omega) (by omega) (by omega)
  have p5 : pt x 20 6 = 44 := pt_dig x 20 6 (F0 * 1 + 30 * 2) 44 (F4 * 1 + F3 * 256 + F2 * 4096 + 0 * 32768 + F1 * 65536) 1048576 64 (by decide) (by decide) (by omega) (by omega) (by omega)
  have p6 : pt x 26 1 = F0 := pt_dig x 26 1 (30 * 1) F0 (F4 * 1 + F3 * 256 + F2 * 4096 + 0 * 32768 + F1 * 65536 + 44 * 1048576) 67108864 2 (by decide) (by decide) (by omega) (by omega) (by omega)
  have p7 : pt x 27 5 = 30 := pt_dig x 27 5 (0) 30 (F4 * 1 + F3 * 256 + F2 * 4096 + 0 * 32768 + F1 * 65536 + 44 * 1048576 + F0 * 67108864) 134217728 32 (by decide) (by decide) (by omega) (by omega) (by omega)
  have a0 : x &&& 32768 = 0 := and_join x 0 0 15 1 0 32768 0 (Nat.and_zero x) (by decide) p3 (by decide) (by decide)
  have a1 : x &&& 66093056 = 46137344 := and_join x 32768 0 20 6 44 66093056 46137344 a0 (by decide) p5 (by decide) (by decide)
  have a2 : x &&& 4226842624 = 4072669184 := and_join x 66093056 46137344 27 5 30 4226842624 4072669184 a1 (by decide) p7 (by decide) (by decide)
  have hh : hit x 4226842624 4072669184 = true := by unfold hit; rw [a2]; exact beq_self_eq_true _
  have hno : ∀ r ∈ rows.take 3, hit x r.2.1 r.2.2 = false := by
    have hd : ∀ r ∈ rows.take 3, ((4072669184 &&& r.2.1) == (r.2.2 &&& 4226842624)) = false := by decide +kernel
    intro r hr
    exact apart x _ _ _ _ hh (hd r hr)
  refine ⟨find_of x 3 4226842624 4072669184 4 rfl hh hno, ?_⟩
  have hr : read 4 x = ⟨4, ((pt x 8 4 : Nat) : Int), 0, 0, 0, ((imm16 x : Nat) : Int), 0, false⟩ := rfl
  rw [hr]
  unfold there
  simp only [p0, p1, p2, p3, p4, p5, p6, p7]
  clear hno hh hr a0 a1 a2
  simp
  omega
set_option maxRecDepth 100000 in
theorem rowB5 (rd rn rm ra imm cond : Int) (wide : Bool) (h : check ⟨5, rd, rn, rm, ra, imm, cond, wide⟩ = 0) : find (num ⟨5, rd, rn, rm, ra, imm, cond, wide⟩) = 5 ∧ there (read 5 (num ⟨5, rd, rn, rm, ra, imm, cond, wide⟩)) = true := by
  have hx : num ⟨5, rd, rn, rm, ra, imm, cond, wide⟩ < 4294967296 := by rcases Th.size_num _ h with h | h <;> omega
  rw [Th.num5] at hx ⊢
  rw [Th.ok5] at h
  have b0 := Th.fv_lt (imm) 4 8 (by decide)
  have b1 := Th.fv_lt (rd) 1 16 (by decide)
  have b2 := Th.fv_lt (imm) 1 4 (by decide)
  have b3 := Th.fv_lt (rm) 1 16 (by decide)
  have e1 : (Th.fv rd 1 16 : Int) = rd := by unfold Th.fv; omega
  have e3 : (Th.fv rm 1 16 : Int) = rm := by unfold Th.fv; omega
  have ei : (Th.fv imm 4 8 : Int) * 4 + (Th.fv imm 1 4 : Int) = imm := by unfold Th.fv; omega
  generalize Th.fv (imm) 4 8 = F0 at *
  generalize Th.fv (rd) 1 16 = F1 at *
  generalize Th.fv (imm) 1 4 = F2 at *
  generalize Th.fv (rm) 1 16 = F3 at *
  generalize hX : 3931045888 + F0 * 4096 + F1 * 256 + F2 * 64 + F3 * 1 = x at *
  have p0 : pt x 0 4 = F3 := pt_dig x 0 4 (0 * 1 + F2 * 4 + F1 * 16 + F0 * 256 + 119966 * 2048) F3 (0) 1 16 (by decide) (by decide) (by omega) (by omega) (by omega)
  have p1 : pt x 4 2 = 0 := pt_dig x 4 2 (F2 * 1 + F1 * 4 + F0 * 64 + 119966 * 512) 0 (F3 * 1) 16 4 (by decide) (by decide) (by omega) (by omega) (by omega)
  have p2 : pt x 6 2 = F2 := pt_dig x 6 2 (F1 * 1 + F0 * 16 + 119966 * 128) F2 (F3 * 1 + 0 * 16) 64 4 (by decide) (by decide) (by omega) (by omega) (by omega)
  have p3 : pt x 8 4 = F1 := pt_dig x 8 4 (F0 * 1 + 119966 * 8) F1 (F3 * 1 + 0 * 16 + F2 * 64) 256 16 (by decide) (by decide) (by omega) (by omega) (by omega)
  have p4 : pt x 12 3 = F0 := pt_dig x 12 3 (119966 * 1) F0 (F3 * 1 + 0 * 16 + F2 * 64 + F1 * 256) 4096 8 (by decide) (by decide) (by omega) (by omega) (by omega)
  have p5 : pt x 15 17 = 119966 := pt_dig x 15 17 (0) 119966 (F3 * 1 + 0 * 16 + F2 * 64 + F1 * 256 + F0 * 4096) 32768 131072 (by decide) (by decide) (by omega) (by omega) (by omega)
  have a0 : x &&& 48 = 0 := and_join x 0 0 4 2 0 48 0 (Nat.and_zero x) (by decide) p1 (by decide) (by decide)
  have a1 : x &&& 4294934576 = 3931045888 := and_join x 48 0 15 17 119966 4294934576 3931045888 a0 (by decide) p5 (by decide) (by decide)
  have hh : hit x 4294934576 3931045888 = true := by unfold hit; rw [a1]; exact beq_self_eq_true _
  have hno : ∀ r ∈ rows.take 4, hit x r.2.1 r.2.2 = false := by
    have hd : ∀ r ∈ rows.take 4, ((3931045888 &&& r.2.1) == (r.2.2 &&& 4294934576)) = false := by decide +kernel
    intro r hr
    exact apart x _ _ _ _ hh (hd r hr)
  refine ⟨find_of x 4 4294934576 3931045888 5 rfl hh hno, ?_⟩
  have hr : read 5 x = ⟨5, ((pt x 8 4 : Nat) : Int), 0, ((pt x 0 4 : Nat) : Int), 0, ((shift x : Nat) : Int), 0, false⟩ := rfl
  rw [hr]
  unfold there
  unfold shift
  simp only [p0, p1, p2, p3, p4, p5]
  clear hno hh hr a0 a1
  simp
  omega
set_option maxRecDepth 100000 in
theorem rowB6 (rd rn rm ra imm cond : Int) (wide : Bool) (h : check ⟨6, rd, rn, rm, ra, imm, cond, wide⟩ = 0) : find (num ⟨6, rd, rn, rm, ra, imm, cond, wide⟩) = 6 ∧ there (read 6 (num ⟨6, rd, rn, rm, ra, imm, cond, wide⟩)) = true := by
  have hx : num ⟨6, rd, rn, rm, ra, imm, cond, wide⟩ < 4294967296 := by rcases Th.size_num _ h with h | h <;> omega
  rw [Th.num6] at hx ⊢
  rw [Th.ok6] at h
  have b0 := Th.fv_lt (imm) 4 8 (by decide)
  have b1 := Th.fv_lt (rd) 1 16 (by decide)
  have b2 := Th.fv_lt (imm) 1 4 (by decide)
  have b3 := Th.fv_lt (rm) 1 16 (by decide)
  have e1 : (Th.fv rd 1 16 : Int) = rd := by unfold Th.fv; omega
  have e3 : (Th.fv rm 1 16 : Int) = rm := by unfold Th.fv; omega
  have ei : (Th.fv imm 4 8 : Int) * 4 + (Th.fv imm 1 4 : Int) = imm := by unfold Th.fv; omega
  generalize Th.fv (imm) 4 8 = F0 at *
  generalize Th.fv (rd) 1 16 = F1 at *
  generalize Th.fv (imm) 1 4 = F2 at *
  generalize Th.fv (rm) 1 16 = F3 at *
  generalize hX : 3931045904 + F0 * 4096 + F1 * 256 + F2 * 64 + F3 * 1 = x at *
  have p0 : pt x 0 4 = F3 := pt_dig x 0 4 (1 * 1 + F2 * 4 + F1 * 16 + F0 * 256 + 119966 * 2048) F3 (0) 1 16 (by decide) (by decide) (by omega) (by omega) (by omega)
  have p1 : pt x 4 2 = 1 := pt_dig x 4 2 (F2 * 1 + F1 * 4 + F0 * 64 + 119966 * 512) 1 (F3 * 1) 16 4 (by decide) (by decide) (by omega) (by omega) (by omega)
  have p2 : pt x 6 2 = F2 := pt_dig x 6 2 (F1 * 1 + F0 * 16 + 119966 * 128) F2 (F3 * 1 + 1 * 16) 64 4 (by decide) (by decide) (by omega) (by omega) (by omega)
  have p3 : pt x 8 4 = F1 := pt_dig x 8 4 (F0 * 1 + 119966 * 8) F1 (F3 * 1 + 1 * 16 + F2 * 64) 256 16 (by decide) (by decide) (by omega) (by omega) (by omega)
  have p4 : pt x 12 3 = F0 := pt_dig x 12 3 (119966 * 1) F0 (F3 * 1 + 1 * 16 + F2 * 64 + F1 * 256) 4096 8 (by decide) (by decide) (by omega) (by omega) (by omega)
  have p5 : pt x 15 17 = 119966 := pt_dig x 15 17 (0) 119966 (F3 * 1 + 1 * 16 + F2 * 64 + F1 * 256 + F0 * 4096) 32768 131072 (by decide) (by decide) (by omega) (by omega) (by omega)
  have a0 : x &&& 48 = 16 := and_join x 0 0 4 2 1 48 16 (Nat.and_zero x) (by decide) p1 (by decide) (by decide)
  have a1 : x &&& 4294934576 = 3931045904 := and_join x 48 16 15 17 119966 4294934576 3931045904 a0 (by decide) p5 (by decide) (by decide)
  have hh : hit x 4294934576 3931045904 = true := by unfold hit; rw [a1]; exact beq_self_eq_true _
  have hno : ∀ r ∈ rows.take 5, hit x r.2.1 r.2.2 = false := by
    have hd : ∀ r ∈ rows.take 5, ((3931045904 &&& r.2.1) == (r.2.2 &&& 4294934576)) = false := by decide +kernel
    intro r hr
    exact apart x _ _ _ _ hh (hd r hr)
  refine ⟨find_of x 5 4294934576 3931045904 6 rfl hh hno, ?_⟩
  have hr : read 6 x = ⟨6, ((pt x 8 4 : Nat) : Int), 0, ((pt x 0 4 : Nat) : Int), 0, ((shift x : Nat) : Int), 0, false⟩ := rfl
  rw [hr]
  unfold there
  unfold shift
  simp only [p0, p1, p2, p3, p4, p5]
  clear hno hh hr a0 a1
  simp
  omega
set_option maxRecDepth 100000 in
theorem rowB7 (rd rn rm ra imm cond : Int) (wide : Bool) (h : check ⟨7, rd, rn, rm, ra, imm, cond, wide⟩ = 0) : find (num ⟨7, rd, rn, rm, ra, imm, cond, wide⟩) = 7 ∧ there (read 7 (num ⟨7, rd, rn, rm, ra, imm, cond, wide⟩)) = true := by
  have hx : num ⟨7, rd, rn, rm, ra, imm, cond, wide⟩ < 4294967296 := by rcases Th.size_num _ h with h | h <;> omega
  rw [Th.num7] at hx ⊢
  rw [Th.ok7] at h
  have b0 := Th.fv_lt (imm) 4 8 (by decide)
  have b1 := Th.fv_lt (rd) 1 16 (by decide)
  have b2 := Th.fv_lt (imm) 1 4 (by decide)
  have b3 := Th.fv_lt (rm) 1 16 (by decide)
  have e1 : (Th.fv rd 1 16 : Int) = rd := by unfold Th.fv; omega
  have e3 : (Th.fv rm 1 16 : Int) = rm := by unfold Th.fv; omega
  have ei : (Th.fv imm 4 8 : Int) * 4 + (Th.fv imm 1 4 : Int) = imm := by unfold Th.fv; omega
  generalize Th.fv (imm) 4 8 = F0 at *
  generalize Th.fv (rd) 1 16 = F1 at *
  generalize Th.fv (imm) 1 4 = F2 at *
  generalize Th.fv (rm) 1 16 = F3 at *
  generalize hX : 3931045920 + F0 * 4096 + F1 * 256 + F2 * 64 + F3 * 1 = x at *
  have p0 : pt x 0 4 = F3 := pt_dig x 0 4 (2 * 1 + F2 * 4 + F1 * 16 + F0 * 256 + 119966 * 2048) F3 (0) 1 16 (by decide) (by decide) (by omega) (by omega) (by omega)
  have p1 : pt x 4 2 = 2 := pt_dig x 4 2 (F2 * 1 + F1 * 4 + F0 * 64 + 119966 * 512) 2 (F3 * 1) 16 4 (by decide) (by decide) (by omega) (by omega) (by omega)
  have p2 : pt x 6 2 = F2 := pt_dig x 6 2 (F1 * 1 + F0 * 16 + 119966 * 128) F2 (F3 * 1 + 2 * 16) 64 4 (by decide) (by decide) (by omega) (by omega) (by omega)
  have p3 : pt x 8 4 = F1 := pt_dig x 8 4 (F0 * 1 + 119966 * 8) F1 (F3 * 1 + 2 * 16 + F2 * 64) 256 16 (by decide) (by decide) (by omega) (by omega) (by omega)
  have p4 : pt x 12 3 = F0 := pt_dig x 12 3 (119966 * 1) F0 (F3 * 1 + 2 * 16 + F2 * 64 + F1 * 256) 4096 8 (by decide) (by decide) (by omega) (by omega) (by omega)
  have p5 : pt x 15 17 = 119966 := pt_dig x 15 17 (0) 119966 (F3 * 1 + 2 * 16 + F2 * 64 + F1 * 256 + F0 * 4096) 32768 131072 (by decide) (by decide) (by omega) (by omega) (by omega)
  have a0 : x &&& 48 = 32 := and_join x 0 0 4 2 2 48 32 (Nat.and_zero x) (by decide) p1 (by decide) (by decide)
  have a1 : x &&& 4294934576 = 3931045920 := and_join x 48 32 15 17 119966 4294934576 3931045920 a0 (by decide) p5 (by decide) (by decide)
  have hh : hit x 4294934576 3931045920 = true := by unfold hit; rw [a1]; exact beq_self_eq_true _
  have hno : ∀ r ∈ rows.take 6, hit x r.2.1 r.2.2 = false := by
    have hd : ∀ r ∈ rows.take 6, ((3931045920 &&& r.2.1) == (r.2.2 &&& 4294934576)) = false := by decide +kernel
    intro r hr
    exact apart x _ _ _ _ hh (hd r hr)
  refine ⟨find_of x 6 4294934576 3931045920 7 rfl hh hno, ?_⟩
  have hr : read 7 x = ⟨7, ((pt x 8 4 : Nat) : Int), 0, ((pt x 0 4 : Nat) : Int), 0, ((shift x : Nat) : Int), 0, false⟩ := rfl
  rw [hr]
  unfold there
  unfold shift
  simp only [p0, p1, p2, p3, p4, p5]
  clear hno hh hr a0 a1
  simp
  omega
set_option maxRecDepth 100000 in
theorem rowB8 (rd rn rm ra imm cond : Int) (wide : Bool) (h : check ⟨8, rd, rn, rm, ra, imm, cond, wide⟩ = 0) : find (num ⟨8, rd, rn, rm, ra, imm, cond, wide⟩) = 8 ∧ there (read 8 (num ⟨8, rd, rn, rm, ra, imm, cond, wide⟩)) = true := by
  have hx : num ⟨8, rd, rn, rm, ra, imm, cond, wide⟩ < 4294967296 := by rcases Th.size_num _ h with h | h <;> omega
  rw [Th.num8] at hx ⊢
  rw [Th.ok8] at h
  have b0 := Th.fv_lt (imm) 4 8 (by decide)
  have b1 := Th.fv_lt (rd) 1 16 (by decide)
  have b2 := Th.fv_lt (imm) 1 4 (by decide)
  have b3 := Th.fv_lt (rm) 1 16 (by decide)
  have e1 : (Th.fv rd 1 16 : Int) = rd := by unfold Th.fv; omega
  have e3 : (Th.fv rm 1 16 : Int) = rm := by unfold Th.fv; omega
  have ei : (Th.fv imm 4 8 : Int) * 4 + (Th.fv imm 1 4 : Int) = imm := by unfold Th.fv; omega
  generalize Th.fv (imm) 4 8 = F0 at *
  generalize Th.fv (rd) 1 16 = F1 at *
  generalize Th.fv (imm) 1 4 = F2 at *
  generalize Th.fv (rm) 1 16 = F3 at *
  generalize hX : 3931045936 + F0 * 4096 + F1 * 256 + F2 * 64 + F3 * 1 = x at *
  have p0 : pt x 0 4 = F3 := pt_dig x 0 4 (3 * 1 + F2 * 4 + F1 * 16 + F0 * 256 + 119966 * 2048) F3 (0) 1 16 (by decide) (by decide) (by omega) (by omega) (by omega)
  have p1 : pt x 4 2 = 3 := pt_dig x 4 2 (F2 * 1 + F1 * 4 + F0 * 64 + 119966 * 512) 3 (F3 * 1) 16 4 (by decide) (by decide) (by omega) (by omega) (by omega)
  have p2 : pt x 6 2 = F2 := pt_dig x 6 2 (F1 * 1 + F0 * 16 + 119966 * 128) F2 (F3 * 1 + 3 * 16) 64 4 (by decide) (by decide) (by omega) (by omega) (by omega)
  have p3 : pt x 8 4 = F1 := pt_dig x 8 4 (F0 * 1 + 119966 * 8) F1 (F3 * 1 + 3 * 16 + F2 * 64) 256 16 (by decide) (by decide) (by omega) (by omega) (by omega)
  have p4 : pt x 12 3 = F0 := pt_dig x 12 3 (119966 * 1) F0 (F3 * 1 + 3 * 16 + F2 * 64 + F1 * 256) 4096 8 (by decide) (by decide) (by omega) (by omega) (by omega)
  have p5 : pt x 15 17 = 119966 := pt_dig x 15 17 (0) 119966 (F3 * 1 + 3 * 16 + F2 * 64 + F1 * 256 + F0 * 4096) 32768 131072 (by decide) (by decide) (by omega) (by omega) (by omega)
  have a0 : x &&& 48 = 48 := and_join x 0 0 4 2 3 48 48 (Nat.and_zero x) (by decide) p1 (by decide) (by decide)
  have a1 : x &&& 4294934576 = 3931045936 := and_join x 48 48 15 17 119966 4294934576 3931045936 a0 (by decide) p5 (by decide) (by decide)
  have hh : hit x 4294934576 3931045936 = true := by unfold hit; rw [a1]; exact beq_self_eq_true _
  have hno : ∀ r ∈ rows.take 7, hit x r.2.1 r.2.2 = false := by
    have hd : ∀ r ∈ rows.take 7, ((3931045936 &&& r.2.1) == (r.2.2 &&& 4294934576)) = false := by decide +kernel
    intro r hr
    exact apart x _ _ _ _ hh (hd r hr)
  refine ⟨find_of x 7 4294934576 3931045936 8 rfl hh hno, ?_⟩
  have hr : read 8 x = ⟨8, ((pt x 8 4 : Nat) : Int), 0, ((pt x 0 4 : Nat) : Int), 0, ((shift x : Nat) : Int), 0, false⟩ := rfl
  rw [hr]
  unfold there
  unfold shift
  simp only [p0, p1, p2, p3, p4, p5]
  clear hno hh hr a0 a1
  simp
  omega
set_option maxRecDepth 100000 in
theorem rowB9 (rd rn rm ra imm cond : Int) (wide : Bool) (h : check ⟨9, rd, rn, rm, ra, imm, cond, wide⟩ = 0) : find (num ⟨9, rd, rn, rm, ra, imm, cond, wide⟩) = 9 ∧ there (read 9 (num ⟨9, rd, rn, rm, ra, imm, cond, wide⟩)) = true := by
  have hx : num ⟨9, rd, rn, rm, ra, imm, cond, wide⟩ < 4294967296 := by rcases Th.size_num _ h with h | h <;> omega
  rw [Th.num9] at hx ⊢
  rw [Th.ok9] at h
  have b0 := Th.fv_lt (rd) 1 16 (by decide)
  have b1 := Th.fv_lt (rm) 1 16 (by decide)
  have e0 : (Th.fv rd 1 16 : Int) = rd := by unfold Th.fv; omega
  have e1 : (Th.fv rm 1 16 : Int) = rm := by unfold Th.fv; omega
  generalize Th.fv (rd) 1 16 = F0 at *
  generalize Th.fv (rm) 1 16 = F1 at *
  generalize hX : 3933143040 + F0 * 256 + F1 * 1 = x at *
  have p0 : pt x 0 4 = F1 := pt_dig x 0 4 (0 * 1 + F0 * 16 + 960240 * 256) F1 (0) 1 16 (by decide) (by decide) (by omega) (by omega) (by omega)
  have p1 : pt x 4 4 = 0 := pt_dig x 4 4 (F0 * 1 + 960240 * 16) 0 (F1 * 1) 16 16 (by decide) (by decide) (by omega) (by omega) (by omega)
  have p2 : pt x 8 4 = F0 := pt_dig x 8 4 (960240 * 1) F0 (F1 * 1 + 0 * 16) 256 16 (by decide) (by decide) (by omega) (by omega) (by omega)
  have p3 : pt x 12 20 = 960240 := pt_dig x 12 20 (0) 960240 (F1 * 1 + 0 * 16 + F0 * 256) 4096 1048576 (by decide) (by decide) (by omega) (by omega) (by omega)
  have a0 : x &&& 240 = 0 := and_join x 0 0 4 4 0 240 0 (Nat.and_zero x) (by decide) p1 (by decide) (by decide)
  have a1 : x &&& 4294963440 = 3933143040 := and_join x 240 0 12 20 960240 4294963440 3933143040 a0 (by decide) p3 (by decide) (by decide)
  have hh : hit x 4294963440 3933143040 = true := by unfold hit; rw [a1]; exact beq_self_eq_true _
  have hno : ∀ r ∈ rows.take 8, hit x r.2.1 r.2.2 = false := by
    have hd : ∀ r ∈ rows.take 8, ((3933143040 &&& r.2.1) == (r.2.2 &&& 4294963440)) = false := by decide +kernel
    intro r hr
    exact apart x _ _ _ _ hh (hd r hr)
  refine ⟨find_of x 8 4294963440 3933143040 9 rfl hh hno, ?_⟩
  have hr : read 9 x = ⟨9, ((pt x 8 4 : Nat) : Int), 0, ((pt x 0 4 : Nat) : Int), 0, 0, 0, false⟩ := rfl
  rw [hr]
  unfold there
  simp only [p0, p1, p2, p3]
  clear hno hh hr a0 a1
  simp
  omega
set_option maxRecDepth 100000 in
theorem rowB10 (rd rn rm ra imm cond : Int) (wide : Bool) (h : check ⟨10, rd, rn, rm, ra, imm, cond, wide⟩ = 0) : find (num ⟨10, rd, rn, rm, ra, imm, cond, wide⟩) = 10 ∧ there (read 10 (num ⟨10, rd, rn, rm, ra, imm, cond, wide⟩)) = true := by
  have hx : num ⟨10, rd, rn, rm, ra, imm, cond, wide⟩ < 4294967296 := by rcases Th.size_num _ h with h | h <;> omega
  rw [Th.num10] at hx ⊢
  rw [Th.ok10] at h
  have b0 := Th.fv_lt (rn) 1 16 (by decide)
  have b1 := Th.fv_lt (rd) 1 16 (by decide)
  have b2 := Th.fv_lt (rm) 1 16 (by decide)
  have e0 : (Th.fv rn 1 16 : Int) = rn := by unfold Th.fv; omega
  have e1 : (Th.fv rd 1 16 : Int) = rd := by unfold Th.fv; omega
  have e2 : (Th.fv rm 1 16 : Int) = rm := by unfold Th.fv; omega
  generalize Th.fv (rn) 1 16 = F0 at *
  generalize Th.fv (rd) 1 16 = F1 at *
  generalize Th.fv (rm) 1 16 = F2 at *
  generalize hX : 3925868544 + F0 * 65536 + F1 * 256 + F2 * 1 = x at *
  have p0 : pt x 0 4 = F2 := pt_dig x 0 4 (0 * 1 + F1 * 16 + 0 * 256 + F0 * 4096 + 3744 * 65536) F2 (0) 1 16 (by decide) (by decide) (by omega) (by omega) (by omega)
  have p1 : pt x 4 4 = 0 := pt_dig x 4 4 (F1 * 1 + 0 * 16 + F0 * 256 + 3744 * 4096) 0 (F2 * 1) 16 16 (by decide) (by decide) (by omega) (by omega) (by omega)
  have p2 : pt x 8 4 = F1 := pt_dig x 8 4 (0 * 1 + F0 * 16 + 3744 * 256) F1 (F2 * 1 + 0 * 16) 256 16 (by decide) (by decide) (by omega) (by omega) (by omega)
  have p3 : pt x 12 4 = 0 := pt_dig x 12 4 (F0 * 1 + 3744 * 16) 0 (F2 * 1 + 0 * 16 + F1 * 256) 4096 16 (by decide) (by decide) (by omega) (by omega) (by omega)
  have p4 : pt x 16 4 = F0 := pt_dig x 16 4 (3744 * 1) F0 (F2 * 1 + 0 * 16 + F1 * 256 + 0 * 4096) 65536 16 (by decide) (by decide) (by omega) (by omega) (by omega)
  have p5 : pt x 20 12 = 3744 := pt_dig x 20 12 (0) 3744 (F2 * 1 + 0 * 16 + F1 * 256 + 0 * 4096 + F0 * 65536) 1048576 4096 (by decide) (by decide) (by omega) (by omega) (by omega)
  have a0 : x &&& 240 = 0 := and_join x 0 0 4 4 0 240 0 (Nat.and_zero x) (by decide) p1 (by decide) (by decide)
  have a1 : x &&& 61680 = 0 := and_join x 240 0 12 4 0 61680 0 a0 (by decide) p3 (by decide) (by decide)
  have a2 : x &&& 4293980400 = 3925868544 := and_join x 61680 0 20 12 3744 4293980400 3925868544 a1 (by decide) p5 (by decide) (by decide)
  have hh : hit x 4293980400 3925868544 = true := by unfold hit; rw [a2]; exact beq_self_eq_true _
  have hno : ∀ r ∈ rows.take 9, hit x r.2.1 r.2.2 = false := by
    have hd : ∀ r ∈ rows.take 9, ((3925868544 &&& r.2.1) == (r.2.2 &&& 4293980400)) = false := by decide +kernel
    intro r hr
    exact apart x _ _ _ _ hh (hd r hr)
  refine ⟨find_of x 9 4293980400 3925868544 10 rfl hh hno, ?_⟩
  have hr : read 10 x = ⟨10, ((pt x 8 4 : Nat) : Int), ((pt x 16 4 : Nat) : Int), ((pt x 0 4 : Nat) : Int), 0, 0, 0, false⟩ := rfl
  rw [hr]
  unfold there
  simp only [p0, p1, p2, p3, p4, p5]
  clear hno hh hr a0 a1 a2
  simp
  omega
set_option maxRecDepth 100000 in
theorem rowB11 (rd rn rm ra imm cond : Int) (wide : Bool) (h : check ⟨11, rd, rn, rm, ra, imm, cond, wide⟩ = 0) : find (num ⟨11, rd, rn, rm, ra, imm, cond, wide⟩) = 11 ∧ there (read 11 (num ⟨11, rd, rn, rm, ra, imm, cond, wide⟩)) = true := by
  have hx : num ⟨11, rd, rn, rm, ra, imm, cond, wide⟩ < 4294967296 := by rcases Th.size_num _ h with h | h <;> omega
  rw [Th.num11] at hx ⊢
  rw [Th.ok11] at h
  have b0 := Th.fv_lt (rn) 1 16 (by decide)
  have b1 := Th.fv_lt (rd) 1 16 (by decide)
  have b2 := Th.fv_lt (rm) 1 16 (by decide)
  have e0 : (Th.fv rn 1 16 : Int) = rn := by unfold Th.fv; omega
  have e1 : (Th.fv rd 1 16 : Int) = rd := by unfold Th.fv; omega
  have e2 : (Th.fv rm 1 16 : Int) = rm := by unfold Th.fv; omega
  generalize Th.fv (rn) 1 16 = F0 at *
  generalize Th.fv (rd) 1 16 = F1 at *
  generalize Th.fv (rm) 1 16 = F2 at *
  generalize hX : 3927965696 + F0 * 65536 + F1 * 256 + F2 * 1 = x at *
  have p0 : pt x 0 4 = F2 := pt_dig x 0 4 (0 * 1 + F1 * 16 + 0 * 256 + F0 * 4096 + 3746 * 65536) F2 (0) 1 16 (by decide) (by decide) (by omega) (by omega) (by omega)
  have p1 : pt x 4 4 = 0 := pt_dig x 4 4 (F1 * 1 + 0 * 16 + F0 * 256 + 3746 * 4096) 0 (F2 * 1) 16 16 (by decide) (by decide) (by omega) (by omega) (by omega)
  have p2 : pt x 8 4 = F1 := pt_dig x 8 4 (0 * 1 + F0 * 16 + 3746 * 256) F1 (F2 * 1 + 0 * 16) 256 16 (by decide) (by decide) (by omega) (by omega) (by omega)
  have p3 : pt x 12 4 = 0 := pt_dig x 12 4 (F0 * 1 + 3746 * 16) 0 (F2 * 1 + 0 * 16 + F1 * 256) 4096 16 (by decide) (by decide) (by omega) (by omega) (by omega)
  have p4 : pt x 16 4 = F0 := pt_dig x 16 4 (3746 * 1) F0 (F2 * 1 + 0 * 16 + F1 * 256 + 0 * 4096) 65536 16 (by decide) (by decide) (by omega) (by omega) (by omega)
  have p5 : pt x 20 12 = 3746 := pt_dig x 20 12 (0) 3746 (F2 * 1 + 0 * 16 + F1 * 256 + 0 * 4096 + F0 * 65536) 1048576 4096 (by decide) (by decide) (by omega) (by omega) (by omega)
  have a0 : x &&& 240 = 0 := and_join x 0 0 4 4 0 240 0 (Nat.and_zero x) (by decide) p1 (by decide) (by decide)
  have a1 : x &&& 61680 = 0 := and_join x 240 0 12 4 0 61680 0 a0 (by decide) p3 (by decide) (by decide)
  have a2 : x &&& 4293980400 = 3927965696 := and_join x 61680 0 20 12 3746 4293980400 3927965696 a1 (by decide) p5 (by decide) (by decide)
  have hh : hit x 4293980400 3927965696 = true := by unfold hit; rw [a2]; exact beq_self_eq_true _
  have hno : ∀ r ∈ rows.take 10, hit x r.2.1 r.2.2 = false := by
    have hd : ∀ r ∈ rows.take 10, ((3927965696 &&& r.2.1) == (r.2.2 &&& 4293980400)) = false := by decide +kernel
    intro r hr
    exact apart x _ _ _ _ hh (hd r hr)
  refine ⟨find_of x 10 4293980400 3927965696 11 rfl hh hno, ?_⟩
  have hr : read 11 x = ⟨11, ((pt x 8 4 : Nat) : Int), ((pt x 16 4 : Nat) : Int), ((pt x 0 4 : Nat) : Int), 0, 0, 0, false⟩ := rfl
  rw [hr]
  unfold there
  simp only [p0, p1, p2, p3, p4, p5]
  clear hno hh hr a0 a1 a2
  simp
  omega
set_option maxRecDepth 100000 in
theorem rowB12 (rd rn rm ra imm cond : Int) (wide : Bool) (h : check ⟨12, rd, rn, rm, ra, imm, cond, wide⟩ = 0) : find (num ⟨12, rd, rn, rm, ra, imm, cond, wide⟩) = 12 ∧ there (read 12 (num ⟨12, rd, rn, rm, ra, imm, cond, wide⟩)) = true := by
  have hx : num ⟨12, rd, rn, rm, ra, imm, cond, wide⟩ < 4294967296 := by rcases Th.size_num _ h with h | h <;> omega
  rw [Th.num12] at hx ⊢
  rw [Th.ok12] at h
  have b0 := Th.fv_lt (rn) 1 16 (by decide)
  have b1 := Th.fv_lt (rd) 1 16 (by decide)
  have b2 := Th.fv_lt (rm) 1 16 (by decide)
  have e0 : (Th.fv rn 1 16 : Int) = rn := by unfold Th.fv; omega
  have e1 : (Th.fv rd 1 16 : Int) = rd := by unfold Th.fv; omega
  have e2 : (Th.fv rm 1 16 : Int) = rm := by unfold Th.fv; omega
  generalize Th.fv (rn) 1 16 = F0 at *
  generalize Th.fv (rd) 1 16 = F1 at *
  generalize Th.fv (rm) 1 16 = F2 at *
  generalize hX : 3930062848 + F0 * 65536 + F1 * 256 + F2 * 1 = x at *
  have p0 : pt x 0 4 = F2 := pt_dig x 0 4 (0 * 1 + F1 * 16 + 0 * 256 + F0 * 4096 + 3748 * 65536) F2 (0) 1 16 (by decide) (by decide) (by omega) (by omega) (by omega)
  have p1 : pt x 4 4 = 0 := pt_dig x 4 4 (F1 * 1 + 0 * 16 + F0 * 256 + 3748 * 4096) 0 (F2 * 1) 16 16 (by decide) (by decide) (by omega) (by omega) (by omega)
  have p2 : pt x 8 4 = F1 := pt_dig x 8 4 (0 * 1 + F0 * 16 + 3748 * 256) F1 (F2 * 1 + 0 * 16) 256 16 (by decide) (by decide) (by omega) (by omega) (by omega)
  have p3 : pt x 12 4 = 0 := pt_dig x 12 4 (F0 * 1 + 3748 * 16) 0 (F2 * 1 + 0 * 16 + F1 * 256) 4096 16 (by decide) (by decide) (by omega) (by omega) (by omega)
  have p4 : pt x 16 4 = F0 := pt_dig x 16 4 (3748 * 1) F0 (F2 * 1 + 0 * 16 + F1 * 256 + 0 * 4096) 65536 16 (by decide) (by decide) (by omega) (by omega) (by omega)
  have p5 : pt x 20 12 = 3748 := pt_dig x 20 12 (0) 3748 (F2 * 1 + 0 * 16 + F1 * 256 + 0 * 4096 + F0 * 65536) 1048576 4096 (by decide) (by decide) (by omega) (by omega) (by omega)
  have a0 : x &&& 240 = 0 := and_join x 0 0 4 4 0 240 0 (Nat.and_zero x) (by decide) p1 (by decide) (by decide)
  have a1 : x &&& 61680 = 0 := and_join x 240 0 12 4 0 61680 0 a0 (by decide) p3 (by decide) (by decide)
  have a2 : x &&& 4293980400 = 3930062848 := and_join x 61680 0 20 12 3748 4293980400 3930062848 a1 (by decide) p5 (by decide) (by decide)
  have hh : hit x 4293980400 3930062848 = true := by unfold hit; rw [a2]; exact beq_self_eq_true _
  have hno : ∀ r ∈ rows.take 11, hit x r.2.1 r.2.2 = false := by
    have hd : ∀ r ∈ rows.take 11, r = (5, 4294934576, 3931045888) ∨ ((3930062848 &&& r.2.1) == (r.2.2 &&& 4293980400)) = false := by decide +kernel
    intro r hr
    rcases hd r hr with rfl | hd
    · cases c : hit x 4294934576 3931045888 with
      | false => rfl
      | true =>
        have := run_of x 4294934576 3931045888 16 4 15 15 (eq_of_beq c) (by decide) (by decide) (by decide)
        omega
    · exact apart x _ _ _ _ hh hd
  refine ⟨find_of x 11 4293980400 3930062848 12 rfl hh hno, ?_⟩
  have hr : read 12 x = ⟨12, ((pt x 8 4 : Nat) : Int), ((pt x 16 4 : Nat) : Int), ((pt x 0 4 : Nat) : Int), 0, 0, 0, false⟩ := rfl
  rw [hr]
  unfold there
  simp only [p0, p1, p2, p3, p4, p5]
  clear hno hh hr a0 a1 a2
  simp
  omega
set_option maxRecDepth 100000 in
theorem rowB13 (rd rn rm ra imm cond : Int) (wide : Bool) (h : check ⟨13, rd, rn, rm, ra, imm, cond, wide⟩ = 0) : find (num ⟨13, rd, rn, rm, ra, imm, cond, wide⟩) = 13 ∧ there (read 13 (num ⟨13, rd, rn, rm, ra, imm, cond, wide⟩)) = true := by
  have hx : num ⟨13, rd, rn, rm, ra, imm, cond, wide⟩ < 4294967296 := by rcases Th.size_num _ h with h | h <;> omega
  rw [Th.num13] at hx ⊢
  rw [Th.ok13] at h
  have b0 := Th.fv_lt (rn) 1 16 (by decide)
  have b1 := Th.fv_lt (rd) 1 16 (by decide)
  have b2 := Th.fv_lt (rm) 1 16 (by decide)
  have e0 : (Th.fv rn 1 16 : Int) = rn := by unfold Th.fv; omega
  have e1 : (Th.fv rd 1 16 : Int) = rd := by unfold Th.fv; omega
  have e2 : (Th.fv rm 1 16 : Int) = rm := by unfold Th.fv; omega
  generalize Th.fv (rn) 1 16 = F0 at *
  generalize Th.fv (rd) 1 16 = F1 at *
  generalize Th.fv (rm) 1 16 = F2 at *
  generalize hX : 3934257152 + F0 * 65536 + F1 * 256 + F2 * 1 = x at *
  have p0 : pt x 0 4 = F2 := pt_dig x 0 4 (0 * 1 + F1 * 16 + 0 * 256 + F0 * 4096 + 3752 * 65536) F2 (0) 1 16 (by decide) (by decide) (by omega) (by omega) (by omega)
  have p1 : pt x 4 4 = 0 := pt_dig x 4 4 (F1 * 1 + 0 * 16 + F0 * 256 + 3752 * 4096) 0 (F2 * 1) 16 16 (by decide) (by decide) (by omega) (by omega) (by omega)
  have p2 : pt x 8 4 = F1 := pt_dig x 8 4 (0 * 1 + F0 * 16 + 3752 * 256) F1 (F2 * 1 + 0 * 16) 256 16 (by decide) (by decide) (by omega) (by omega) (by omega)
  have p3 : pt x 12 4 = 0 := pt_dig x 12 4 (F0 * 1 + 3752 * 16) 0 (F2 * 1 + 0 * 16 + F1 * 256) 4096 16 (by decide) (by decide) (by omega) (by omega) (by omega)
  have p4 : pt x 16 4 = F0 := pt_dig x 16 4 (3752 * 1) F0 (F2 * 1 + 0 * 16 + F1 * 256 + 0 * 4096) 65536 16 (by decide) (by decide) (by omega) (by omega) (by omega)
  have p5 : pt x 20 12 = 3752 := pt_dig x 20 12 (0) 3752 (F2 * 1 + 0 * 16 + F1 * 256 + 0 * 4096 + F0 * 65536) 1048576 4096 (by decide) (by decide) (by omega) (by omega) (by omega)
  have a0 : x &&& 240 = 0 := and_join x 0 0 4 4 0 240 0 (Nat.and_zero x) (by decide) p1 (by decide) (by decide)
  have a1 : x &&& 61680 = 0 := and_join x 240 0 12 4 0 61680 0 a0 (by decide) p3 (by decide) (by decide)
  have a2 : x &&& 4293980400 = 3934257152 := and_join x 61680 0 20 12 3752 4293980400 3934257152 a1 (by decide) p5 (by decide) (by decide)
  have hh : hit x 4293980400 3934257152 = true := by unfold hit; rw [a2]; exact beq_self_eq_true _
  have hno : ∀ r ∈ rows.take 12, hit x r.2.1 r.2.2 = false := by
    have hd : ∀ r ∈ rows.take 12, ((3934257152 &&& r.2.1) == (r.2.2 &&& 4293980400)) = false := by decide +kernel
    intro r hr
    exact apart x _ _ _ _ hh (hd r hr)
  refine ⟨find_of x 12 4293980400 3934257152 13 rfl hh hno, ?_⟩
  have hr : read 13 x = ⟨13, ((pt x 8 4 : Nat) : Int), ((pt x 16 4 : Nat) : Int), ((pt x 0 4 : Nat) : Int), 0, 0, 0, false⟩ := rfl
  rw [hr]
  unfold there
  simp only [p0, p1, p2, p3, p4, p5]
  clear hno hh hr a0 a1 a2
  simp
  omega
set_option maxRecDepth 100000 in
theorem rowB14 (rd rn rm ra imm cond : Int) (wide : Bool) (h : check ⟨14, rd, rn, rm, ra, imm, cond, wide⟩ = 0) : find (num ⟨14, rd, rn, rm, ra, imm, cond, wide⟩) = 14 ∧ there (read 14 (num ⟨14, rd, rn, rm, ra, imm, cond, wide⟩)) = true := by
  have hx : num ⟨14, rd, rn, rm, ra, imm, cond, wide⟩ < 4294967296 := by rcases Th.size_num _ h with h | h <;> omega
  rw [Th.num14] at hx ⊢
  rw [Th.ok14] at h
  have b0 := Th.fv_lt (rn) 1 16 (by decide)
  have b1 := Th.fv_lt (rd) 1 16 (by decide)
  have b2 := Th.fv_lt (rm) 1 16 (by decide)
  have e0 : (Th.fv rn 1 16 : Int) = rn := by unfold Th.fv; omega
  have e1 : (Th.fv rd 1 16 : Int) = rd := by unfold Th.fv; omega
  have e2 : (Th.fv rm 1 16 : Int) = rm := by unfold Th.fv; omega
  generalize Th.fv (rn) 1 16 = F0 at *
  generalize Th.fv (rd) 1 16 = F1 at *
  generalize Th.fv (rm) 1 16 = F2 at *
  generalize hX : 3942645760 + F0 * 65536 + F1 * 256 + F2 * 1 = x at *
  have p0 : pt x 0 4 = F2 := pt_dig x 0 4 (0 * 1 + F1 * 16 + 0 * 256 + F0 * 4096 + 3760 * 65536) F2 (0) 1 16 (by decide) (by decide) (by omega) (by omega) (by omega)
  have p1 : pt x 4 4 = 0 := pt_dig x 4 4 (F1 * 1 + 0 * 16 + F0 * 256 + 3760 * 4096) 0 (F2 * 1) 16 16 (by decide) (by decide) (by omega) (by omega) (by omega)
  have p2 : pt x 8 4 = F1 := pt_dig x 8 4 (0 * 1 + F0 * 16 + 3760 * 256) F1 (F2 * 1 + 0 * 16) 256 16 (by decide) (by decide) (by omega) (by omega) (by omega)
  have p3 : pt x 12 4 = 0 := pt_dig x 12 4 (F0 * 1 + 3760 * 16) 0 (F2 * 1 + 0 * 16 + F1 * 256) 4096 16 (by decide) (by decide) (by omega) (by omega) (by omega)
  have p4 : pt x 16 4 = F0 := pt_dig x 16 4 (3760 * 1) F0 (F2 * 1 + 0 * 16 + F1 * 256 + 0 * 4096) 65536 16 (by decide) (by decide) (by omega) (by omega) (by omega)
  have p5 : pt x 20 12 = 3760 := pt_dig x 20 12 (0) 3760 (F2 * 1 + 0 * 16 + F1 * 256 + 0 * 4096 + F0 * 65536) 1048576 4096 (by decide) (by decide) (by omega) (by omega) (by omega)
  have a0 : x &&& 240 = 0 := and_join x 0 0 4 4 0 240 0 (Nat.and_zero x) (by decide) p1 (by decide) (by decide)
  have a1 : x &&& 61680 = 0 := and_join x 240 0 12 4 0 61680 0 a0 (by decide) p3 (by decide) (by decide)
  have a2 : x &&& 4293980400 = 3942645760 := and_join x 61680 0 20 12 3760 4293980400 3942645760 a1 (by decide) p5 (by decide) (by decide)
  have hh : hit x 4293980400 3942645760 = true := by unfold hit; rw [a2]; exact beq_self_eq_true _
  have hno : ∀ r ∈ rows.take 13, hit x r.2.1 r.2.2 = false := by
    have hd : ∀ r ∈ rows.take 13, ((3942645760 &&& r.2.1) == (r.2.2 &&& 4293980400)) = false := by decide +kernel
    intro r hr
    exact apart x _ _ _ _ hh (hd r hr)
  refine ⟨find_of x 13 4293980400 3942645760 14 rfl hh hno, ?_⟩
  have hr : read 14 x = ⟨14, ((pt x 8 4 : Nat) : Int), ((pt x 16 4 : Nat) : Int), ((pt x 0 4 : Nat) : Int), 0, 0, 0, false⟩ := rfl
  rw [hr]
  unfold there
  simp only [p0, p1, p2, p3, p4, p5]
  clear hno hh hr a0 a1 a2
  simp
  omega
set_option maxRecDepth 100000 in
theorem rowB15 (rd rn rm ra imm cond : Int) (wide : Bool) (h : check ⟨15, rd, rn, rm, ra, imm, cond, wide⟩ = 0) : find (num ⟨15, rd, rn, rm, ra, imm, cond, wide⟩) = 15 ∧ there (read 15 (num ⟨15, rd, rn, rm, ra, imm, cond, wide⟩)) = true := by
  have hx : num ⟨15, rd, rn, rm, ra, imm, cond, wide⟩ < 4294967296 := by rcases Th.size_num _ h with h | h <;> omega
  rw [Th.num15] at hx ⊢
  rw [Th.ok15] at h
  have b0 := Th.fv_lt (rn) 1 16 (by decide)
  have b1 := Th.fv_lt (rd) 1 16 (by decide)
  have b2 := Th.fv_lt (rm) 1 16 (by decide)
  have e0 : (Th.fv rn 1 16 : Int) = rn := by unfold Th.fv; omega
  have e1 : (Th.fv rd 1 16 : Int) = rd := by unfold Th.fv; omega
  have e2 : (Th.fv rm 1 16 : Int) = rm := by unfold Th.fv; omega
  generalize Th.fv (rn) 1 16 = F0 at *
  generalize Th.fv (rd) 1 16 = F1 at *
  generalize Th.fv (rm) 1 16 = F2 at *
  generalize hX : 3953131520 + F0 * 65536 + F1 * 256 + F2 * 1 = x at *
  have p0 : pt x 0 4 = F2 := pt_dig x 0 4 (0 * 1 + F1 * 16 + 0 * 256 + F0 * 4096 + 3770 * 65536) F2 (0) 1 16 (by decide) (by decide) (by omega) (by omega) (by omega)
  have p1 : pt x 4 4 = 0 := pt_dig x 4 4 (F1 * 1 + 0 * 16 + F0 * 256 + 3770 * 4096) 0 (F2 * 1) 16 16 (by decide) (by decide) (by omega) (by omega) (by omega)
  have p2 : pt x 8 4 = F1 := pt_dig x 8 4 (0 * 1 + F0 * 16 + 3770 * 256) F1 (F2 * 1 + 0 * 16) 256 16 (by decide) (by decide) (by omega) (by omega) (by omega)
  have p3 : pt x 12 4 = 0 := pt_dig x 12 4 (F0 * 1 + 3770 * 16) 0 (F2 * 1 + 0 * 16 + F1 * 256) 4096 16 (by decide) (by decide) (by omega) (by omega) (by omega)
  have p4 : pt x 16 4 = F0 := pt_dig x 16 4 (3770 * 1) F0 (F2 * 1 + 0 * 16 + F1 * 256 + 0 * 4096) 65536 16 (by decide) (by decide) (by omega) (by omega) (by omega)
  have p5 : pt x 20 12 = 3770 := pt_dig x 20 12 (0) 3770 (F2 * 1 + 0 * 16 + F1 * 256 + 0 * 4096 + F0 * 65536) 1048576 4096 (by decide) (by decide) (by omega) (by omega) (by omega)
  have a0 : x &&& 240 = 0 := and_join x 0 0 4 4 0 240 0 (Nat.and_zero x) (by decide) p1 (by decide) (by decide)
  have a1 : x &&& 61680 = 0 := and_join x 240 0 12 4 0 61680 0 a0 (by decide) p3 (by decide) (by decide)
  have a2 : x &&& 4293980400 = 3953131520 := and_join x 61680 0 20 12 3770 4293980400 3953131520 a1 (by decide) p5 (by decide) (by decide)
  have hh : hit x 4293980400 3953131520 = true := by unfold hit; rw [a2]; exact beq_self_eq_true _
  have hno : ∀ r ∈ rows.take 14, hit x r.2.1 r.2.2 = false := by
    have hd : ∀ r ∈ rows.take 14, ((3953131520 &&& r.2.1) == (r.2.2 &&& 4293980400)) = false := by decide +kernel
    intro r hr
    exact apart x _ _ _ _ hh (hd r hr)
  refine ⟨find_of x 14 4293980400 3953131520 15 rfl hh hno, ?_⟩
  have hr : read 15 x = ⟨15, ((pt x 8 4 : Nat) : Int), ((pt x 16 4 : Nat) : Int), ((pt x 0 4 : Nat) : Int), 0, 0, 0, false⟩ := rfl
  rw [hr]
  unfold there
  simp only [p0, p1, p2, p3, p4, p5]
  clear hno hh hr a0 a1 a2
  simp
  omega
set_option maxRecDepth 100000 in
theorem rowB16 (rd rn rm ra imm cond : Int) (wide : Bool) (h : check ⟨16, rd, rn, rm, ra, imm, cond, wide⟩ = 0) : find (num ⟨16, rd, rn, rm, ra, imm, cond, wide⟩) = 16 ∧ there (read 16 (num ⟨16, rd, rn, rm, ra, imm, cond, wide⟩)) = true := by
  have hx : num ⟨16, rd, rn, rm, ra, imm, cond, wide⟩ < 4294967296 := by rcases Th.size_num _ h with h | h <;> omega
  rw [Th.num16] at hx ⊢
  rw [Th.ok16] at h
  have b0 := Th.fv_lt (rn) 1 16 (by decide)
  have b1 := Th.fv_lt (rd) 1 16 (by decide)
  have b2 := Th.fv_lt (rm) 1 16 (by decide)
  have e0 : (Th.fv rn 1 16 : Int) = rn := by unfold Th.fv; omega
  have e1 : (Th.fv rd 1 16 : Int) = rd := by unfold Th.fv; omega
  have e2 : (Th.fv rm 1 16 : Int) = rm := by unfold Th.fv; omega
  generalize Th.fv (rn) 1 16 = F0 at *
  generalize Th.fv (rd) 1 16 = F1 at *
  generalize Th.fv (rm) 1 16 = F2 at *
  generalize hX : 4211142656 + F0 * 65536 + F1 * 256 + F2 * 1 = x at *
  have p0 : pt x 0 4 = F2 := pt_dig x 0 4 (0 * 1 + F1 * 16 + 15 * 256 + F0 * 4096 + 4016 * 65536) F2 (0) 1 16 (by decide) (by decide) (by omega) (by omega) (by omega)
  have p1 : pt x 4 4 = 0 := pt_dig x 4 4 (F1 * 1 + 15 * 16 + F0 * 256 + 4016 * 4096) 0 (F2 * 1) 16 16 (by decide) (by decide) (by omega) (by omega) (by omega)
  have p2 : pt x 8 4 = F1 := pt_dig x 8 4 (15 * 1 + F0 * 16 + 4016 * 256) F1 (F2 * 1 + 0 * 16) 256 16 (by decide) (by decide) (by omega) (by omega) (by omega)
  have p3 : pt x 12 4 = 15 := pt_dig x 12 4 (F0 * 1 + 4016 * 16) 15 (F2 * 1 + 0 * 16 + F1 * 256) 4096 16 (by decide) (by decide) (by omega) (by omega) (by omega)
  have p4 : pt x 16 4 = F0 := pt_dig x 16 4 (4016 * 1) F0 (F2 * 1 + 0 * 16 + F1 * 256 + 15 * 4096) 65536 16 (by decide) (by decide) (by omega) (by omega) (by omega)
  have p5 : pt x 20 12 = 4016 := pt_dig x 20 12 (0) 4016 (F2 * 1 + 0 * 16 + F1 * 256 + 15 * 4096 + F0 * 65536) 1048576 4096 (by decide) (by decide) (by omega) (by omega) (by omega)
  have a0 : x &&& 240 = 0 := and_join x 0 0 4 4 0 240 0 (Nat.and_zero x) (by decide) p1 (by decide) (by decide)
  have a1 : x &&& 61680 = 61440 := and_join x 240 0 12 4 15 61680 61440 a0 (by decide) p3 (by decide) (by decide)
  have a2 : x &&& 4293980400 = 4211142656 := and_join x 61680 61440 20 12 4016 4293980400 4211142656 a1 (by decide) p5 (by decide) (by decide)
  have hh : hit x 4293980400 4211142656 = true := by unfold hit; rw [a2]; exact beq_self_eq_true _
  have hno : ∀ r ∈ rows.take 15, hit x r.2.1 r.2.2 = false := by
    have hd : ∀ r ∈ rows.take 15, ((4211142656 &&& r.2.1) == (r.2.2 &&& 4293980400)) = false := by decide +kernel
    intro r hr
    exact apart x _ _ _ _ hh (hd r hr)
  refine ⟨find_of x 15 4293980400 4211142656 16 rfl hh hno, ?_⟩
  have hr : read 16 x = ⟨16, ((pt x 8 4 : Nat) : Int), ((pt x 16 4 : Nat) : Int), ((pt x 0 4 : Nat) : Int), 0, 0, 0, false⟩ := rfl
  rw [hr]
  unfold there
  simp only [p0, p1, p2, p3, p4, p5]
  clear hno hh hr a0 a1 a2
  simp
  omega
set_option maxRecDepth 100000 in
theorem rowB17 (rd rn rm ra imm cond : Int) (wide : Bool) (h : check ⟨17, rd, rn, rm, ra, imm, cond, wide⟩ = 0) : find (num ⟨17, rd, rn, rm, ra, imm, cond, wide⟩) = 17 ∧ there (read 17 (num ⟨17, rd, rn, rm, ra, imm, cond, wide⟩)) = true := by
  have hx : num ⟨17, rd, rn, rm, ra, imm, cond, wide⟩ < 4294967296 := by rcases Th.size_num _ h with h | h <;> omega
  rw [Th.num17] at hx ⊢
  rw [Th.ok17] at h
  have b0 := Th.fv_lt (rn) 1 16 (by decide)
  have b1 := Th.fv_lt (rd) 1 16 (by decide)
  have b2 := Th.fv_lt (ra) 1 16 (by decide)
  have b3 := Th.fv_lt (rm) 1 16 (by decide)
  have e0 : (Th.fv rn 1 16 : Int) = rn := by unfold Th.fv; omega
  have e1 : (Th.fv rd 1 16 : Int) = rd := by unfold Th.fv; omega
  have e2 : (Th.fv ra 1 16 : Int) = ra := by unfold Th.fv; omega
  have e3 : (Th.fv rm 1 16 : Int) = rm := by unfold Th.fv; omega
  generalize Th.fv (rn) 1 16 = F0 at *
  generalize Th.fv (rd) 1 16 = F1 at *
  generalize Th.fv (ra) 1 16 = F2 at *
  generalize Th.fv (rm) 1 16 = F3 at *
  generalize hX : 4221566976 + F0 * 65536 + F1 * 4096 + F2 * 256 + F3 * 1 = x at *
  have p0 : pt x 0 4 = F3 := pt_dig x 0 4 (0 * 1 + F2 * 16 + F1 * 256 + F0 * 4096 + 4026 * 65536) F3 (0) 1 16 (by decide) (by decide) (by omega) (by omega) (by omega)
  have p1 : pt x 4 4 = 0 := pt_dig x 4 4 (F2 * 1 + F1 * 16 + F0 * 256 + 4026 * 4096) 0 (F3 * 1) 16 16 (by decide) (by decide) (by omega) (by omega) (by omega)
  have p2 : pt x 8 4 = F2 := pt_dig x 8 4 (F1 * 1 + F0 * 16 + 4026 * 256) F2 (F3 * 1 + 0 * 16) 256 16 (by decide) (by decide) (by omega) (by omega) (by omega)
  have p3 : pt x 12 4 = F1 := pt_dig x 12 4 (F0 * 1 + 4026 * 16) F1 (F3 * 1 + 0 * 16 + F2 * 256) 4096 16 (by decide) (by decide) (by omega) (by omega) (by omega)
  have p4 : pt x 16 4 = F0 := pt_dig x 16 4 (4026 * 1) F0 (F3 * 1 + 0 * 16 + F2 * 256 + F1 * 4096) 65536 16 (by decide) (by decide) (by omega) (by omega) (by omega)
  have p5 : pt x 20 12 = 4026 := pt_dig x 20 12 (0) 4026 (F3 * 1 + 0 * 16 + F2 * 256 + F1 * 4096 + F0 * 65536) 1048576 4096 (by decide) (by decide) (by omega) (by omega) (by omega)
  have a0 : x &&& 240 = 0 := and_join x 0 0 4 4 0 240 0 (Nat.and_zero x) (by decide) p1 (by decide) (by decide)
  have a1 : x &&& 4293918960 = 4221566976 := and_join x 240 0 20 12 4026 4293918960 4221566976 a0 (by decide) p5 (by decide) (by decide)
  have hh : hit x 4293918960 4221566976 = true := by unfold hit; rw [a1]; exact beq_self_eq_true _
  have hno : ∀ r ∈ rows.take 16, hit x r.2.1 r.2.2 = false := by
    have hd : ∀ r ∈ rows.take 16, ((4221566976 &&& r.2.1) == (r.2.2 &&& 4293918960)) = false := by decide +kernel
    intro r hr
    exact apart x _ _ _ _ hh (hd r hr)
  refine ⟨find_of x 16 4293918960 4221566976 17 rfl hh hno, ?_⟩
  have hr : read 17 x = ⟨17, ((pt x 12 4 : Nat) : Int), ((pt x 16 4 : Nat) : Int), ((pt x 0 4 : Nat) : Int), ((pt x 8 4 : Nat) : Int), 0, 0, false⟩ := rfl
  rw [hr]
  unfold there
  simp only [p0, p1, p2, p3, p4, p5]
  clear hno hh hr a0 a1
  simp
  omega
set_option maxRecDepth 100000 in
theorem rowB18 (rd rn rm ra imm cond : Int) (wide : Bool) (h : check ⟨18, rd, rn, rm, ra, imm, cond, wide⟩ = 0) : find (num ⟨18, rd, rn, rm, ra, imm, cond, wide⟩) = 18 ∧ there (read 18 (num ⟨18, rd, rn, rm, ra, imm, cond, wide⟩)) = true := by
  have hx : num ⟨18, rd, rn, rm, ra, imm, cond, wide⟩ < 4294967296 := by rcases Th.size_num _ h with h | h <;> omega
  rw [Th.num18] at hx ⊢
  rw [Th.ok18] at h
  have b0 := Th.fv_lt (rn) 1 16 (by decide)
  have b1 := Th.fv_lt (imm) 4 8 (by decide)
  have b2 := Th.fv_lt (rd) 1 16 (by decide)
  have b3 := Th.fv_lt (imm) 1 4 (by decide)
  have b4 := Th.fv_lt ((imm + ra - 1)) 1 32 (by decide)
  have e0 : (Th.fv rn 1 16 : Int) = rn := by unfold Th.fv; omega
  have e2 : (Th.fv rd 1 16 : Int) = rd := by unfold Th.fv; omega
  have ei : (Th.fv imm 4 8 : Int) * 4 + (Th.fv imm 1 4 : Int) = imm := by unfold Th.fv; omega
  have ew : (Th.fv (imm + ra - 1) 1 32 : Int) = imm + ra - 1 := by unfold Th.fv; omega
  generalize Th.fv (rn) 1 16 = F0 at *
  generalize Th.fv (imm) 4 8 = F1 at *
  generalize Th.fv (rd) 1 16 = F2 at *
  generalize Th.fv (imm) 1 4 = F3 at *
  generalize Th.fv ((imm + ra - 1)) 1 32 = F4 at *
  generalize hX : 4083154944 + F0 * 65536 + F1 * 4096 + F2 * 256 + F3 * 64 + F4 * 1 = x at *
  have p0 : pt x 0 5 = F4 := pt_dig x 0 5 (0 * 1 + F3 * 2 + F2 * 8 + F1 * 128 + 0 * 1024 + F0 * 2048 + 3894 * 32768) F4 (0) 1 32 (by decide) (by decide) (by omega) (by omega) (by omega)
  have p1 : pt x 5 1 = 0 := pt_dig x 5 1 (F3 * 1 + F2 * 4 + F1 * 64 + 0 * 512 + F0 * 1024 + 3894 * 16384) 0 (F4 * 1) 32 2 (by decide) (by decide) (by omega) (by omega) (by omega)
  have p2 : pt x 6 2 = F3 := pt_dig x 6 2 (F2 * 1 + F1 * 16 + 0 * 128 + F0 * 256 + 3894 * 4096) F3 (F4 * 1 + 0 * 32) 64 4 (by decide) (by decide) (by omega) (by omega) (by omega)
  have p3 : pt x 8 4 = F2 := pt_dig x 8 4 (F1 * 1 + 0 * 8 + F0 * 16 + 3894 * 256) F2 (F4 * 1 + 0 * 32 + F3 * 64) 256 16 (by decide) (by decide) (by omega) (by omega) (by omega)
  have p4 : pt x 12 3 = F1 := pt_dig x 12 3 (0 * 1 + F0 * 2 + 3894 * 32) F1 (F4 * 1 + 0 * 32 + F3 * 64 + F2 * 256) 4096 8 (by decide) (by decide) (by omega) (by omega) (by omega)
  have p5 : pt x 15 1 = 0 := pt_dig x 15 1 (F0 * 1 + 3894 * 16) 0 (F4 * 1 + 0 * 32 + F3 * 64 + F2 * 256 + F1 * 4096) 32768 2 (by decide) (by decide) (by omega) (by omega) (by omega)
  have p6 : pt x 16 4 = F0 := pt_dig x 16 4 (3894 * 1) F0 (F4 * 1 + 0 * 32 + F3 * 64 + F2 * 256 + F1 * 4096 + 0 * 32768) 65536 16 (by decide) (by decide) (by omega) (by omega) (by omega)
  have p7 : pt x 20 12 = 3894 := pt_dig x 20 12 (0) 3894 (F4 * 1 + 0 * 32 + F3 * 64 + F2 * 256 + F1 * 4096 + 0 * 32768 + F0 * 65536) 1048576 4096 (by decide) (by decide) (by omega) (by omega) (by omega)
  have a0 : x &&& 32 = 0 := and_join x 0 0 5 1 0 32 0 (Nat.and_zero x) (by decide) p1 (by decide) (by decide)
  have a1 : x &&& 32800 = 0 := and_join x 32 0 15 1 0 32800 0 a0 (by decide) p5 (by decide) (by decide)
  have a2 : x &&& 4293951520 = 4083154944 := and_join x 32800 0 20 12 3894 4293951520 4083154944 a1 (by decide) p7 (by decide) (by decide)
  have hh : hit x 4293951520 4083154944 = true := by unfold hit; rw [a2]; exact beq_self_eq_true _
  have hno : ∀ r ∈ rows.take 17, hit x r.2.1 r.2.2 = false := by
    have hd : ∀ r ∈ rows.take 17, ((4083154944 &&& r.2.1) == (r.2.2 &&& 4293951520)) = false := by decide +kernel
    intro r hr
    exact apart x _ _ _ _ hh (hd r hr)
  refine ⟨find_of x 17 4293951520 4083154944 18 rfl hh hno, ?_⟩
  have hr : read 18 x = ⟨18, ((pt x 8 4 : Nat) : Int), ((pt x 16 4 : Nat) : Int), 0, ((pt x 0 5 : Nat) : Int) + 1 - ((shift x : Nat) : Int), ((shift x : Nat) : Int), 0, false⟩ := rfl
  rw [hr]
  unfold there
  unfold shift
  simp only [p0, p1, p2, p3, p4, p5, p6, p7]
  clear hno hh hr a0 a1 a2
  simp
  omega
set_option maxRecDepth 100000 in
theorem rowB19 (rd rn rm ra imm cond : Int) (wide : Bool) (h : check ⟨19, rd, rn, rm, ra, imm, cond, wide⟩ = 0) : find (num ⟨19, rd, rn, rm, ra, imm, cond, wide⟩) = 19 ∧ there (read 19 (num ⟨19, rd, rn, rm, ra, imm, cond, wide⟩)) = true := by
  have hx : num ⟨19, rd, rn, rm, ra, imm, cond, wide⟩ < 4294967296 := by rcases Th.size_num _ h with h | h <;> omega
  rw [Th.num19] at hx ⊢
  rw [Th.ok19] at h
  have b0 := Th.fv_lt (rn) 1 8 (by decide)
  have b1 := Th.fv_lt (rd) 1 8 (by decide)
  have e0 : (Th.fv rn 1 8 : Int) = rn := by unfold Th.fv; omega
  have e1 : (Th.fv rd 1 8 : Int) = rd := by unfold Th.fv; omega
  generalize Th.fv (rn) 1 8 = F0 at *
  generalize Th.fv (rd) 1 8 = F1 at *
  generalize hX : 26624 + F0 * 8 + F1 * 1 = x at *
  have p0 : pt x 0 3 = F1 := pt_dig x 0 3 (F0 * 1 + 416 * 8) F1 (0) 1 8 (by decide) (by decide) (by omega) (by omega) (by omega)
  have p1 : pt x 3 3 = F0 := pt_dig x 3 3 (416 * 1) F0 (F1 * 1) 8 8 (by decide) (by decide) (by omega) (by omega) (by omega)
  have p2 : pt x 6 26 = 416 := pt_dig x 6 26 (0) 416 (F1 * 1 + F0 * 8) 64 67108864 (by decide) (by decide) (by omega) (by omega) (by omega)
  have a0 : x &&& 4294967232 = 26624 := and_join x 0 0 6 26 416 4294967232 26624 (Nat.and_zero x) (by decide) p2 (by decide) (by decide)
  have hh : hit x 4294967232 26624 = true := by unfold hit; rw [a0]; exact beq_self_eq_true _
  have hno : ∀ r ∈ rows.take 18, hit x r.2.1 r.2.2 = false := by
    have hd : ∀ r ∈ rows.take 18, ((26624 &&& r.2.1) == (r.2.2 &&& 4294967232)) = false := by decide +kernel
    intro r hr
    exact apart x _ _ _ _ hh (hd r hr)
  refine ⟨find_of x 18 4294967232 26624 19 rfl hh hno, ?_⟩
  have hr : read 19 x = ⟨19, ((pt x 0 3 : Nat) : Int), ((pt x 3 3 : Nat) : Int), 0, 0, 0, 0, false⟩ := rfl
  rw [hr]
  unfold there
  simp only [p0, p1, p2]
  clear hno hh hr a0
  simp
  omega
set_option maxRecDepth 100000 in
theorem rowB20 (rd rn rm ra imm cond : Int) (wide : Bool) (h : check ⟨20, rd, rn, rm, ra, imm, cond, wide⟩ = 0) : find (num ⟨20, rd, rn, rm, ra, imm, cond, wide⟩) = 20 ∧ there (read 20 (num ⟨20, rd, rn, rm, ra, imm, cond, wide⟩)) = true := by
  have hx : num ⟨20, rd, rn, rm, ra, imm, cond, wide⟩ < 4294967296 := by rcases Th.size_num _ h with h | h <;> omega
  rw [Th.num20] at hx ⊢
  rw [Th.ok20] at h
  have b0 := Th.fv_lt (rn) 1 8 (by decide)
  have b1 := Th.fv_lt (rd) 1 8 (by decide)
  have e0 : (Th.fv rn 1 8 : Int) = rn := by unfold Th.fv; omega
  have e1 : (Th.fv rd 1 8 : Int) = rd := by unfold Th.fv; omega
  generalize Th.fv (rn) 1 8 = F0 at *
  generalize Th.fv (rd) 1 8 = F1 at *
  generalize hX : 24576 + F0 * 8 + F1 * 1 = x at *
  have p0 : pt x 0 3 = F1 := pt_dig x 0 3 (F0 * 1 + 384 * 8) F1 (0) 1 8 (by decide) (by decide) (by omega) (by omega) (by omega)
  have p1 : pt x 3 3 = F0 := pt_dig x 3 3 (384 * 1) F0 (F1 * 1) 8 8 (by decide) (by decide) (by omega) (by omega) (by omega)
  have p2 : pt x 6 26 = 384 := pt_dig x 6 26 (0) 384 (F1 * 1 + F0 * 8) 64 67108864 (by decide) (by decide) (by omega) (by omega) (by omega)
  have a0 : x &&& 4294967232 = 24576 := and_join x 0 0 6 26 384 4294967232 24576 (Nat.and_zero x) (by decide) p2 (by decide) (by decide)
  have hh : hit x 4294967232 24576 = true := by unfold hit; rw [a0]; exact beq_self_eq_true _
  have hno : ∀ r ∈ rows.take 19, hit x r.2.1 r.2.2 = false := by
    have hd : ∀ r ∈ rows.take 19, ((24576 &&& r.2.1) == (r.2.2 &&& 4294967232)) = false := by decide +kernel
    intro r hr
    exact apart x _ _ _ _ hh (hd r hr)
  refine ⟨find_of x 19 4294967232 24576 20 rfl hh hno, ?_⟩
  have hr : read 20 x = ⟨20, ((pt x 0 3 : Nat) : Int), ((pt x 3 3 : Nat) : Int), 0, 0, 0, 0, false⟩ := rfl
  rw [hr]
  unfold there
  simp only [p0, p1, p2]
  clear hno hh hr a0
  simp
  omega
set_option maxRecDepth 100000 in
theorem rowB21 (rd rn rm ra imm cond : Int) (wide : Bool) (h : check ⟨21, rd, rn, rm, ra, imm, cond, wide⟩ = 0) : find (num ⟨21, rd, rn, rm, ra, imm, cond, wide⟩) = 21 ∧ there (read 21 (num ⟨21, rd, rn, rm, ra, imm, cond, wide⟩)) = true := by
  have hx : num ⟨21, rd, rn, rm, ra, imm, cond, wide⟩ < 4294967296 := by rcases Th.size_num _ h with h | h <;> omega
  rw [Th.num21] at hx ⊢
  rw [Th.ok21] at h
  have b0 := Th.fv_lt (rn) 1 8 (by decide)
  have b1 := Th.fv_lt (rd) 1 8 (by decide)
  have e0 : (Th.fv rn 1 8 : Int) = rn := by unfold Th.fv; omega
  have e1 : (Th.fv rd 1 8 : Int) = rd := by unfold Th.fv; omega
  generalize Th.fv (rn) 1 8 = F0 at *
  generalize Th.fv (rd) 1 8 = F1 at *
  generalize hX : 30720 + F0 * 8 + F1 * 1 = x at *
  have p0 : pt x 0 3 = F1 := pt_dig x 0 3 (F0 * 1 + 480 * 8) F1 (0) 1 8 (by decide) (by decide) (by omega) (by omega) (by omega)
  have p1 : pt x 3 3 = F0 := pt_dig x 3 3 (480 * 1) F0 (F1 * 1) 8 8 (by decide) (by decide) (by omega) (by omega) (by omega)
  have p2 : pt x 6 26 = 480 := pt_dig x 6 26 (0) 480 (F1 * 1 + F0 * 8) 64 67108864 (by decide) (by decide) (by omega) (by omega) (by omega)
  have a0 : x &&& 4294967232 = 30720 := and_join x 0 0 6 26 480 4294967232 30720 (Nat.and_zero x) (by decide) p2 (by decide) (by decide)
  have hh : hit x 4294967232 30720 = true := by unfold hit; rw [a0]; exact beq_self_eq_true _
  have hno : ∀ r ∈ rows.take 20, hit x r.2.1 r.2.2 = false := by
    have hd : ∀ r ∈ rows.take 20, ((30720 &&& r.2.1) == (r.2.2 &&& 4294967232)) = false := by decide +kernel
    intro r hr
    exact apart x _ _ _ _ hh (hd r hr)
  refine ⟨find_of x 20 4294967232 30720 21 rfl hh hno, ?_⟩
  have hr : read 21 x = ⟨21, ((pt x 0 3 : Nat) : Int), ((pt x 3 3 : Nat) : Int), 0, 0, 0, 0, false⟩ := rfl
  rw [hr]
  unfold there
  simp only [p0, p1, p2]
  clear hno hh hr a0
  simp
  omega
set_option maxRecDepth 100000 in
theorem rowB22 (rd rn rm ra imm cond : Int) (wide : Bool) (h : check ⟨22, rd, rn, rm, ra, imm, cond, wide⟩ = 0) : find (num ⟨22, rd, rn, rm, ra, imm, cond, wide⟩) = 22 ∧ there (read 22 (num ⟨22, rd, rn, rm, ra, imm, cond, wide⟩)) = true := by
  have hx : num ⟨22, rd, rn, rm, ra, imm, cond, wide⟩ < 4294967296 := by rcases Th.size_num _ h with h | h <;> omega
  rw [Th.num22] at hx ⊢
  rw [Th.ok22] at h
  have b0 := Th.fv_lt (rn) 1 8 (by decide)
  have b1 := Th.fv_lt (rd) 1 8 (by decide)
  have e0 : (Th.fv rn 1 8 : Int) = rn := by unfold Th.fv; omega
  have e1 : (Th.fv rd 1 8 : Int) = rd := by unfold Th.fv; omega
  generalize Th.fv (rn) 1 8 = F0 at *
  generalize Th.fv (rd) 1 8 = F1 at *
  generalize hX : 28672 + F0 * 8 + F1 * 1 = x at *
  have p0 : pt x 0 3 = F1 := pt_dig x 0 3 (F0 * 1 + 448 * 8) F1 (0) 1 8 (by decide) (by decide) (by omega) (by omega) (by omega)
  have p1 : pt x 3 3 = F0 := pt_dig x 3 3 (448 * 1) F0 (F1 * 1) 8 8 (by decide) (by decide) (by omega) (by omega) (by omega)
  have p2 : pt x 6 26 = 448 := pt_dig x 6 26 (0) 448 (F1 * 1 + F0 * 8) 64 67108864 (by decide) (by decide) (by omega) (by omega) (by omega)
  have a0 : x &&& 4294967232 = 28672 := and_join x 0 0 6 26 448 4294967232 28672 (Nat.and_zero x) (by decide) p2 (by decide) (by decide)
  have hh : hit x 4294967232 28672 = true := by unfold hit; rw [a0]; exact beq_self_eq_true _
  have hno : ∀ r ∈ rows.take 21, hit x r.2.1 r.2.2 = false := by
    have hd : ∀ r ∈ rows.take 21, ((28672 &&& r.2.1) == (r.2.2 &&& 4294967232)) = false := by decide +kernel
    intro r hr
    exact apart x _ _ _ _ hh (hd r hr)
  refine ⟨find_of x 21 4294967232 28672 22 rfl hh hno, ?_⟩
  have hr : read 22 x = ⟨22, ((pt x 0 3 : Nat) : Int), ((pt x 3 3 : Nat) : Int), 0, 0, 0, 0, false⟩ := rfl
  rw [hr]
  unfold there
  simp only [p0, p1, p2]
  clear hno hh hr a0
  simp
  omega
set_option maxRecDepth 100000 in
theorem rowB23 (rd rn rm ra imm cond : Int) (wide : Bool) (h : check ⟨23, rd, rn, rm, ra, imm, cond, wide⟩ = 0) : find (num ⟨23, rd, rn, rm, ra, imm, cond, wide⟩) = 23 ∧ there (read 23 (num ⟨23, rd, rn, rm, ra, imm, cond, wide⟩)) = true := by
  have hx : num ⟨23, rd, rn, rm, ra, imm, cond, wide⟩ < 4294967296 := by rcases Th.size_num _ h with h | h <;> omega
  rw [Th.num23] at hx ⊢
  rw [Th.ok23] at h
  have b0 := Th.fv_lt (rm) 1 8 (by decide)
  have b1 := Th.fv_lt (rn) 1 8 (by decide)
  have e0 : (Th.fv rm 1 8 : Int) = rm := by unfold Th.fv; omega
  have e1 : (Th.fv rn 1 8 : Int) = rn := by unfold Th.fv; omega
  generalize Th.fv (rm) 1 8 = F0 at *
  generalize Th.fv (rn) 1 8 = F1 at *
  generalize hX : 17024 + F0 * 8 + F1 * 1 = x at *
  have p0 : pt x 0 3 = F1 := pt_dig x 0 3 (F0 * 1 + 266 * 8) F1 (0) 1 8 (by decide) (by decide) (by omega) (by omega) (by omega)
  have p1 : pt x 3 3 = F0 := pt_dig x 3 3 (266 * 1) F0 (F1 * 1) 8 8 (by decide) (by decide) (by omega) (by omega) (by omega)
  have p2 : pt x 6 26 = 266 := pt_dig x 6 26 (0) 266 (F1 * 1 + F0 * 8) 64 67108864 (by decide) (by decide) (by omega) (by omega) (by omega)
  have a0 : x &&& 4294967232 = 17024 := and_join x 0 0 6 26 266 4294967232 17024 (Nat.and_zero x) (by decide) p2 (by decide) (by decide)
  have hh : hit x 4294967232 17024 = true := by unfold hit; rw [a0]; exact beq_self_eq_true _
  have hno : ∀ r ∈ rows.take 22, hit x r.2.1 r.2.2 = false := by
    have hd : ∀ r ∈ rows.take 22, ((17024 &&& r.2.1) == (r.2.2 &&& 4294967232)) = false := by decide +kernel
    intro r hr
    exact apart x _ _ _ _ hh (hd r hr)
  refine ⟨find_of x 22 4294967232 17024 23 rfl hh hno, ?_⟩
  have hr : read 23 x = ⟨23, 0, ((pt x 0 3 : Nat) : Int), ((pt x 3 3 : Nat) : Int), 0, 0, 0, false⟩ := rfl
  rw [hr]
  unfold there
  simp only [p0, p1, p2]
  clear hno hh hr a0
  simp
  omega
set_option maxRecDepth 100000 in
theorem rowB24n (rd rn rm ra imm cond : Int) (h : check ⟨24, rd, rn, rm, ra, imm, cond, false⟩ = 0) : find (num ⟨24, rd, rn, rm, ra, imm, cond, false⟩) = 24 ∧ there (read 24 (num ⟨24, rd, rn, rm, ra, imm, cond, false⟩)) = true := by
  have hx : num ⟨24, rd, rn, rm, ra, imm, cond, false⟩ < 4294967296 := by rcases Th.size_num _ h with h | h <;> omega
  rw [Th.num24n] at hx ⊢
  rw [Th.ok24] at h
  have b0 := Th.fv_lt ((off imm)) 2 2048 (by decide)
  generalize Th.fv ((off imm)) 2 2048 = F0 at *
  generalize hX : 57344 + F0 * 1 = x at *
  have p0 : pt x 0 11 = F0 := pt_dig x 0 11 (28 * 1) F0 (0) 1 2048 (by decide) (by decide) (by omega) (by omega) (by omega)
  have p1 : pt x 11 21 = 28 := pt_dig x 11 21 (0) 28 (F0 * 1) 2048 2097152 (by decide) (by decide) (by omega) (by omega) (by omega)
  have a0 : x &&& 4294965248 = 57344 := and_join x 0 0 11 21 28 4294965248 57344 (Nat.and_zero x) (by decide) p1 (by decide) (by decide)
  have hh : hit x 4294965248 57344 = true := by unfold hit; rw [a0]; exact beq_self_eq_true _
  have hno : ∀ r ∈ rows.take 23, hit x r.2.1 r.2.2 = false := by
    have hd : ∀ r ∈ rows.take 23, ((57344 &&& r.2.1) == (r.2.2 &&& 4294965248)) = false := by decide +kernel
    intro r hr
    exact apart x _ _ _ _ hh (hd r hr)
  refine ⟨find_of x 23 4294965248 57344 24 rfl hh hno, ?_⟩
  have hw : ¬ 65536 ≤ x := by clear hno hh; omega
  clear hno hh
  rw [rd24n x hw]
  exact there24 _ _
set_option maxRecDepth 100000 in
theorem rowB24w (rd rn rm ra imm cond : Int) (h : check ⟨24, rd, rn, rm, ra, imm, cond, true⟩ = 0) : find (num ⟨24, rd, rn, rm, ra, imm, cond, true⟩) = 24 ∧ there (read 24 (num ⟨24, rd, rn, rm, ra, imm, cond, true⟩)) = true := by
  have hx : num ⟨24, rd, rn, rm, ra, imm, cond, true⟩ < 4294967296 := by rcases Th.size_num _ h with h | h <;> omega
  rw [Th.num24w] at hx ⊢
  rw [Th.ok24] at h
  have b0 := Th.fv_lt ((off imm)) 16777216 2 (by decide)
  have b1 := Th.fv_lt ((off imm)) 4096 1024 (by decide)
  have b2 := Th.fv_lt ((Th.alike (off imm) 23 24)) 1 2 (by decide)
  have b3 := Th.fv_lt ((Th.alike (off imm) 22 24)) 1 2 (by decide)
  have b4 := Th.fv_lt ((off imm)) 2 2048 (by decide)
  generalize Th.fv ((off imm)) 16777216 2 = F0 at *
  generalize Th.fv ((off imm)) 4096 1024 = F1 at *
  generalize Th.fv ((Th.alike (off imm) 23 24)) 1 2 = F2 at *
  generalize Th.fv ((Th.alike (off imm) 22 24)) 1 2 = F3 at *
  generalize Th.fv ((off imm)) 2 2048 = F4 at *
  generalize hX : 4026568704 + F0 * 67108864 + F1 * 65536 + F2 * 8192 + F3 * 2048 + F4 * 1 = x at *
  have p0 : pt x 0 11 = F4 := pt_dig x 0 11 (F3 * 1 + 1 * 2 + F2 * 4 + 2 * 8 + F1 * 32 + F0 * 32768 + 30 * 65536) F4 (0) 1 2048 (by decide) (by decide) (by omega) (by omega) (by omega)
  have p1 : pt x 11 1 = F3 := pt_dig x 11 1 (1 * 1 + F2 * 2 + 2 * 4 + F1 * 16 + F0 * 16384 + 30 * 32768) F3 (F4 * 1) 2048 2 (by decide) (by decide) (by omega) (by omega) (by omega)
  have p2 : pt x 12 1 = 1 := pt_dig x 12 1 (F2 * 1 + 2 * 2 + F1 * 8 + F0 * 8192 + 30 * 16384) 1 (F4 * 1 + F3 * 2048) 4096 2 (by decide) (by decide) (by omega) (by omega) (by omega)
  have p3 : pt x 13 1 = F2 := pt_dig x 13 1 (2 * 1 + F1 * 4 + F0 * 4096 + 30 * 8192) F2 (F4 * 1 + F3 * 2048 + 1 * 4096) 8192 2 (by decide) (by decide) (by omega) (by omega) (by omega)
  have p4 : pt x 14 2 = 2 := pt_dig x 14 2 (F1 * 1 + F0 * 1024 + 30 * 2048) 2 (F4 * 1 + F3 * 2048 + 1 * 4096 + F2 * 8192) 16384 4 (by decide) (by decide) (by omega) (by omega) (by omega)
  have p5 : pt x 16 10 = F1 := pt_dig x 16 10 (F0 * 1 + 30 * 2) F1 (F4 * 1 + F3 * 2048 + 1 * 4096 + F2 * 8192 + 2 * 16384) 65536 1024 (by decide) (by decide) (by omega) (by omega) (by omega)
  have p6 : pt x 26 1 = F0 := pt_dig x 26 1 (30 * 1) F0 (F4 * 1 + F3 * 2048 + 1 * 4096 + F2 * 8192 + 2 * 16384 + F1 * 65536) 67108864 2 (by decide) (by decide) (by omega) (by omega) (by omega)
  have p7 : pt x 27 5 = 30 := pt_dig x 27 5 (0) 30 (F4 * 1 + F3 * 2048 + 1 * 4096 + F2 * 8192 + 2 * 16384 + F1 * 65536 + F0 * 67108864) 134217728 32 (by decide) (by decide) (by omega) (by omega) (by omega)
  have a0 : x &&& 4096 = 4096 := and_join x 0 0 12 1 1 4096 4096 (Nat.and_zero x) (by decide) p2 (by decide) (by decide)
  have a1 : x &&& 53248 = 36864 := and_join x 4096 4096 14 2 2 53248 36864 a0 (by decide) p4 (by decide) (by decide)
  have a2 : x &&& 4160802816 = 4026568704 := and_join x 53248 36864 27 5 30 4160802816 4026568704 a1 (by decide) p7 (by decide) (by decide)
  have hh : hit x 4160802816 4026568704 = true := by unfold hit; rw [a2]; exact beq_self_eq_true _
  have hno : ∀ r ∈ rows.take 24, hit x r.2.1 r.2.2 = false := by
    have hd : ∀ r ∈ rows.take 24, ((4026568704 &&& r.2.1) == (r.2.2 &&& 4160802816)) = false := by decide +kernel
    intro r hr
    exact apart x _ _ _ _ hh (hd r hr)
  refine ⟨find_of x 24 4160802816 4026568704 24 rfl hh hno, ?_⟩
  have hw : 65536 ≤ x := by clear hno hh; omega
  clear hno hh
  rw [rd24w x hw]
  exact there24 _ _
set_option maxRecDepth 100000 in
theorem rowB25n (rd rn rm ra imm cond : Int) (h : check ⟨25, rd, rn, rm, ra, imm, cond, false⟩ = 0) : find (num ⟨25, rd, rn, rm, ra, imm, cond, false⟩) = 25 ∧ there (read 25 (num ⟨25, rd, rn, rm, ra, imm, cond, false⟩)) = true := by
  have hx : num ⟨25, rd, rn, rm, ra, imm, cond, false⟩ < 4294967296 := by rcases Th.size_num _ h with h | h <;> omega
  rw [Th.num25n] at hx ⊢
  rw [Th.ok25] at h
  have b0 := Th.fv_lt (cond) 1 16 (by decide)
  have b1 := Th.fv_lt ((off imm)) 2 256 (by decide)
  have e0 : (Th.fv cond 1 16 : Int) = cond := by unfold Th.fv; omega
  generalize Th.fv (cond) 1 16 = F0 at *
  generalize Th.fv ((off imm)) 2 256 = F1 at *
  generalize hX : 53248 + F0 * 256 + F1 * 1 = x at *
  have p0 : pt x 0 8 = F1 := pt_dig x 0 8 (F0 * 1 + 13 * 16) F1 (0) 1 256 (by decide) (by decide) (by omega) (by omega) (by omega)
  have p1 : pt x 8 4 = F0 := pt_dig x 8 4 (13 * 1) F0 (F1 * 1) 256 16 (by decide) (by decide) (by omega) (by omega) (by omega)
  have p2 : pt x 12 20 = 13 := pt_dig x 12 20 (0) 13 (F1 * 1 + F0 * 256) 4096 1048576 (by decide) (by decide) (by omega) (by omega) (by omega)
  have a0 : x &&& 4294963200 = 53248 := and_join x 0 0 12 20 13 4294963200 53248 (Nat.and_zero x) (by decide) p2 (by decide) (by decide)
  have hh : hit x 4294963200 53248 = true := by unfold hit; rw [a0]; exact beq_self_eq_true _
  have hno : ∀ r ∈ rows.take 25, hit x r.2.1 r.2.2 = false := by
    have hd : ∀ r ∈ rows.take 25, ((53248 &&& r.2.1) == (r.2.2 &&& 4294963200)) = false := by decide +kernel
    intro r hr
    exact apart x _ _ _ _ hh (hd r hr)
  refine ⟨find_of x 25 4294963200 53248 25 rfl hh hno, ?_⟩
  have hw : ¬ 65536 ≤ x := by clear hno hh; omega
  clear hno hh
  rw [rd25n x hw]
  exact there25 _ _ _ (by rw [p1]; omega)
set_option maxRecDepth 100000 in
theorem rowB25w (rd rn rm ra imm cond : Int) (h : check ⟨25, rd, rn, rm, ra, imm, cond, true⟩ = 0) : find (num ⟨25, rd, rn, rm, ra, imm, cond, true⟩) = 25 ∧ there (read 25 (num ⟨25, rd, rn, rm, ra, imm, cond, true⟩)) = true := by
  have hx : num ⟨25, rd, rn, rm, ra, imm, cond, true⟩ < 4294967296 := by rcases Th.size_num _ h with h | h <;> omega
  rw [Th.num25w] at hx ⊢
  rw [Th.ok25] at h
  have b0 := Th.fv_lt ((off imm)) 1048576 2 (by decide)
  have b1 := Th.fv_lt (cond) 1 16 (by decide)
  have b2 := Th.fv_lt ((off imm)) 4096 64 (by decide)
  have b3 := Th.fv_lt ((off imm)) 262144 2 (by decide)
  have b4 := Th.fv_lt ((off imm)) 524288 2 (by decide)
  have b5 := Th.fv_lt ((off imm)) 2 2048 (by decide)
  have e1 : (Th.fv cond 1 16 : Int) = cond := by unfold Th.fv; omega
  generalize Th.fv ((off imm)) 1048576 2 = F0 at *
  generalize Th.fv (cond) 1 16 = F1 at *
  generalize Th.fv ((off imm)) 4096 64 = F2 at *
  generalize Th.fv ((off imm)) 262144 2 = F3 at *
  generalize Th.fv ((off imm)) 524288 2 = F4 at *
  generalize Th.fv ((off imm)) 2 2048 = F5 at *
  generalize hX : 4026564608 + F0 * 67108864 + F1 * 4194304 + F2 * 65536 + F3 * 8192 + F4 * 2048 + F5 * 1 = x at *
  have p0 : pt x 0 11 = F5 := pt_dig x 0 11 (F4 * 1 + 0 * 2 + F3 * 4 + 2 * 8 + F2 * 32 + F1 * 2048 + F0 * 32768 + 30 * 65536) F5 (0) 1 2048 (by decide) (by decide) (by omega) (by omega) (by omega)
  have p1 : pt x 11 1 = F4 := pt_dig x 11 1 (0 * 1 + F3 * 2 + 2 * 4 + F2 * 16 + F1 * 1024 + F0 * 16384 + 30 * 32768) F4 (F5 * 1) 2048 2 (by decide) (by decide) (by omega) (by omega) (by omega)
  have p2 : pt x 12 1 = 0 := pt_dig x 12 1 (F3 * 1 + 2 * 2 + F2 * 8 + F1 * 512 + F0 * 8192 + 30 * 16384) 0 (F5 * 1 + F4 * 2048) 4096 2 (by decide) (by decide) (by omega) (by omega) (by omega)
  have p3 : pt x 13 1 = F3 := pt_dig x 13 1 (2 * 1 + F2 * 4 + F1 * 256 + F0 * 4096 + 30 * 8192) F3 (F5 * 1 + F4 * 2048 + 0 * 4096) 8192 2 (by decide) (by decide) (by omega) (by omega) (by omega)
  have p4 : pt x 14 2 = 2 := pt_dig x 14 2 (F2 * 1 + F1 * 64 + F0 * 1024 + 30 * 2048) 2 (F5 * 1 + F4 * 2048 + 0 * 4096 + F3 * 8192) 16384 4 (by decide) (by decide) (by omega) (by omega) (by omega)
  have p5 : pt x 16 6 = F2 := pt_dig x 16 6 (F1 * 1 + F0 * 16 + 30 * 32) F2 (F5 * 1 + F4 * 2048 + 0 * 4096 + F3 * 8192 + 2 * 16384) 65536 64 (by decide) (by decide) (by omega) (by omega) (by omega)
  have p6 : pt x 22 4 = F1 := pt_dig x 22 4 (F0 * 1 + 30 * 2) F1 (F5 * 1 + F4 * 2048 + 0 * 4096 + F3 * 8192 + 2 * 16384 + F2 * 65536) 4194304 16 (by decide) (by decide) (by omega) (by omega) (by omega)
  have p7 : pt x 26 1 = F0 := pt_dig x 26 1 (30 * 1) F0 (F5 * 1 + F4 * 2048 + 0 * 4096 + F3 * 8192 + 2 * 16384 + F2 * 65536 + F1 * 4194304) 67108864 2 (by decide) (by decide) (by omega) (by omega) (by omega)
  have p8 : pt x 27 5 = 30 := pt_dig x 27 5 (0) 30 (F5 * 1 + F4 * 2048 + 0 * 4096 + F3 * 8192 + 2 * 16384 + F2 * 65536 + F1 * 4194304 + F0 * 67108864) 134217728 32 (by decide) (by decide) (by omega) (by omega) (by omega)
  have a0 : x &&& 4096 = 0 := and_join x 0 0 12 1 0 4096 0 (Nat.and_zero x) (by decide) p2 (by decide) (by decide)
  have a1 : x &&& 53248 = 32768 := and_join x 4096 0 14 2 2 53248 32768 a0 (by decide) p4 (by decide) (by decide)
  have a2 : x &&& 4160802816 = 4026564608 := and_join x 53248 32768 27 5 30 4160802816 4026564608 a1 (by decide) p8 (by decide) (by decide)
  have hh : hit x 4160802816 4026564608 = true := by unfold hit; rw [a2]; exact beq_self_eq_true _
  have hno : ∀ r ∈ rows.take 26, hit x r.2.1 r.2.2 = false := by
    have hd : ∀ r ∈ rows.take 26, ((4026564608 &&& r.2.1) == (r.2.2 &&& 4160802816)) = false := by decide +kernel
    intro r hr
    exact apart x _ _ _ _ hh (hd r hr)
  refine ⟨find_of x 26 4160802816 4026564608 25 rfl hh hno, ?_⟩
  have hw : 65536 ≤ x := by clear hno hh; omega
  clear hno hh
  rw [rd25w x hw]
  exact there25 _ _ _ (by rw [p6]; omega)
end Go.Proofs.Ytplfpaffjaldoaa.De
end
section
namespace Go.Proofs.Ytplfpaffjaldoaa.De
open Go.RowKit
open Th (Ins none0 check num encS by0 by1 b40 b41 b42 b43)
set_option linter.unusedVariables false

theorem complete (i : Ins) (h : check i = 0) : find (num i) = i.op ∧ there (read i.op (num i)) = true := by
  obtain ⟨op, rd, rn, rm, ra, imm, cond, wide⟩ := i
  rcases Th.op_cases (Th.op_range h) with rfl | rfl | rfl | rfl | rfl | rfl | rfl | rfl | rfl | rfl | rfl | rfl | rfl | rfl | rfl | rfl | rfl | rfl | rfl | rfl | rfl | rfl | rfl | rfl | rfl
  · exact rowB1 _ _ _ _ _ _ _ h
  · exact rowB2 _ _ _ _ _ _ _ h
  · exact rowB3 _ _ _ _ _ _ _ h
  · exact rowB4 _ _ _ _ _ _ _ h
  · exact rowB5 _ _ _ _ _ _ _ h
  · exact rowB6 _ _ _ _ _ _ _ h
  · exact rowB7 _ _ _ _ _ _ _ h
  · exact rowB8 _ _ _ _ _ _ _ h
  · exact rowB9 _ _ _ _ _ _ _ h
  · exact rowB10 _ _ _ _ _ _ _ h
  · exact rowB11 _ _ _ _ _ _ _ h
  · exact rowB12 _ _ _ _ _ _ _ h
  · exact rowB13 _ _ _ _ _ _ _ h
  · exact rowB14 _ _ _ _ _ _ _ h
  · exact rowB15 _ _ _ _ _ _ _ h
  · exact rowB16 _ _ _ _ _ _ _ h
  · exact rowB17 _ _ _ _ _ _ _ h
  · exact rowB18 _ _ _ _ _ _ _ h
  · exact rowB19 _ _ _ _ _ _ _ h
  · exact rowB20 _ _ _ _ _ _ _ h
  · exact rowB21 _ _ _ _ _ _ _ h
  · exact rowB22 _ _ _ _ _ _ _ h
  · exact rowB23 _ _ _ _ _ _ _ h
  · cases wide
    · exact rowB24n _ _ _ _ _ _ h
    · exact rowB24w _ _ _ _ _ _ h
  · cases wide
    · exact rowB25n _ _ _ _ _ _ h
    · exact rowB25w _ _ _ _ _ _ h
theorem back (i : Ins) (h : check i = 0) : read (find (num i)) (num i) = i ∧ there (read (find (num i)) (num i)) = true := by
  obtain ⟨h1, h2⟩ := complete i h
  have hx : num i < 4294967296 := by rcases Th.size_num i h with h | h <;> omega
  rw [← h1] at h2
  obtain ⟨h3, h4⟩ := sound (num i) hx h2
  refine ⟨?_, h2⟩
  rcases Th.size_num i h with ⟨s1, s2⟩ | ⟨s1, s2, s3⟩ <;> rcases Th.size_num _ h3 with ⟨t1, t2⟩ | ⟨t1, t2, t3⟩
  · exact Th.like22 _ _ h3 h t1 s1 h4
  · rw [h4] at t2; omega
  · rw [h4] at t2; omega
  · exact Th.like44 _ _ h3 h t1 s1 h4
theorem byt_list (s : ByteArray) (k : Nat) : byt s k = ((s.data.toList[k]?).getD 0).toNat := by
  unfold byt
  split
  · rename_i h
    have : s.data.toList[k]? = some s[k] := by
      rw [Array.getElem?_toList]; exact Array.getElem?_eq_getElem h
    rw [this]; rfl
  · rename_i h
    have : s.data.toList[k]? = none := by
      rw [Array.getElem?_toList]; exact Array.getElem?_eq_none (by simpa using h)
    rw [this]; rfl
theorem app_list (a s : ByteArray) : (a ++ s).data.toList = a.data.toList ++ s.data.toList := by
  rw [ByteArray.data_append, Array.toList_append]
theorem u8n (n : Nat) (h : n < 256) : (UInt8.ofNat n).toNat = n := by rw [UInt8.toNat_ofNat', Nat.mod_eq_of_lt h]
/-- bytes that begin with an instruction's -/
theorem begins2 (i : Ins) (h : check i = 0) (hs : Th.size i = 2) (s : ByteArray) : De.size (encS i ++ s) = 2 ∧ word (encS i ++ s) 2 = num i := by
  have hlt := Th.size2_lt i h hs
  have hh : half (encS i ++ s) 0 = num i := by
    unfold half
    rw [byt_list, byt_list, app_list, Th.encS2 i h hs]
    show (by0 (num i)).toNat + 256 * (by1 (num i)).toNat = num i
    unfold by0 by1
    rw [u8n _ (by omega), u8n _ (by omega)]
    omega
  have hz : ¬ (encS i ++ s).size < 2 := by
    rw [ByteArray.size_append, Th.encS2 i h hs]
    have : (⟨#[by0 (num i), by1 (num i)]⟩ : ByteArray).size = 2 := rfl
    omega
  refine ⟨?_, ?_⟩
  · unfold De.size; rw [if_neg hz, hh, if_pos hlt]
  · unfold word; rw [if_neg (by decide), hh]
theorem begins4 (i : Ins) (h : check i = 0) (hs : Th.size i = 4) (s : ByteArray) : De.size (encS i ++ s) = 4 ∧ word (encS i ++ s) 4 = num i := by
  have hbd := Th.num4_bd i h hs
  have hh : half (encS i ++ s) 0 = num i / 65536 := by
    unfold half
    rw [byt_list, byt_list, app_list, Th.encS4 i h hs]
    show (b40 (num i)).toNat + 256 * (b41 (num i)).toNat = num i / 65536
    unfold b40 b41
    rw [u8n _ (by omega), u8n _ (by omega)]
    omega
  have hh1 : half (encS i ++ s) 1 = num i % 65536 := by
    unfold half
    rw [byt_list, byt_list, app_list, Th.encS4 i h hs]
    show (b42 (num i)).toNat + 256 * (b43 (num i)).toNat = num i % 65536
    unfold b42 b43
    rw [u8n _ (by omega), u8n _ (by omega)]
    omega
  have hz : ¬ (encS i ++ s).size < 2 := by
    rw [ByteArray.size_append, Th.encS4 i h hs]
    have : (⟨#[b40 (num i), b41 (num i), b42 (num i), b43 (num i)]⟩ : ByteArray).size = 4 := rfl
    omega
  refine ⟨?_, ?_⟩
  · unfold De.size; rw [if_neg hz, hh, if_neg (by omega)]
  · unfold word; rw [if_pos rfl, hh, hh1]; omega
theorem enc_size (i : Ins) (h : check i = 0) : ((encS i).size : Int) = Th.size i := by
  rcases Th.size_num i h with ⟨s1, s2⟩ | ⟨s1, s2, s3⟩
  · rw [Th.encS2 i h s1, s1]; rfl
  · rw [Th.encS4 i h s1, s1]; rfl
theorem begins (i : Ins) (h : check i = 0) (s : ByteArray) : err (encS i ++ s) = 0 ∧ ins (encS i ++ s) = i ∧ (len (encS i ++ s) : Int) = Th.size i := by
  have hz := enc_size i h
  have key : ∀ n : Nat, (n : Int) = Th.size i → n ≠ 0 → De.size (encS i ++ s) = n ∧ word (encS i ++ s) n = num i → err (encS i ++ s) = 0 ∧ ins (encS i ++ s) = i ∧ (len (encS i ++ s) : Int) = Th.size i := by
    intro n hn n0 ⟨h1, h2⟩
    have ht : told (encS i ++ s) = i := by unfold told; rw [h1, h2]; exact (back i h).1
    have ht2 : there (told (encS i ++ s)) = true := by unfold told; rw [h1, h2]; exact (back i h).2
    have he : err (encS i ++ s) = 0 := by
      unfold err
      rw [if_neg (by rw [h1, ByteArray.size_append]; omega), if_pos ht2]
    refine ⟨he, ?_, ?_⟩
    · unfold ins; rw [if_pos he, ht]
    · unfold len; rw [if_pos he, h1]; exact hn
  rcases Th.size_num i h with ⟨s1, s2⟩ | ⟨s1, s2, s3⟩
  · exact key 2 (by rw [s1]; rfl) (by decide) (begins2 i h s1 s)
  · exact key 4 (by rw [s1]; rfl) (by decide) (begins4 i h s1 s)
theorem size_enc (i : Ins) (h : check i = 0) : (De.size (encS i) : Int) = Th.size i := by
  have e : encS i = encS i ++ ⟨#[]⟩ := by
    apply ByteArray.ext
    rw [ByteArray.data_append]
    simp
  rcases Th.size_num i h with ⟨s1, s2⟩ | ⟨s1, s2, s3⟩
  · rw [e, (begins2 i h s1 _).1, s1]; rfl
  · rw [e, (begins4 i h s1 _).1, s1]; rfl
theorem err_cases (s : ByteArray) : (err s = 0 ∧ De.size s ≠ 0 ∧ De.size s ≤ s.size ∧ there (told s) = true) ∨ err s = 3 ∨ err s = 7 := by
  unfold err
  split
  · exact Or.inr (Or.inl rfl)
  · split
    · exact Or.inl ⟨rfl, by omega, by omega, by assumption⟩
    · exact Or.inr (Or.inr rfl)
theorem size_cases (s : ByteArray) : De.size s = 0 ∨ (De.size s = 2 ∧ half s 0 < 59392 ∧ 2 ≤ s.size) ∨ (De.size s = 4 ∧ 59392 ≤ half s 0) := by
  unfold De.size
  split
  · exact Or.inl rfl
  · split
    · exact Or.inr (Or.inl ⟨rfl, by assumption, by omega⟩)
    · exact Or.inr (Or.inr ⟨rfl, by omega⟩)
theorem ofNat_byt {a : UInt8} {n : Nat} (h : n = a.toNat) : UInt8.ofNat n = a := by rw [h]; exact UInt8.ofNat_toNat
set_option maxRecDepth 100000 in
/-- what is decoded has just those bytes -/
theorem only (s : ByteArray) (he : err s = 0) : check (ins s) = 0 ∧ (len s : Int) = Th.size (ins s) ∧ len s ≤ s.size ∧ encS (ins s) = s.extract 0 (len s) := by
  rcases err_cases s with ⟨_, h0, h1, h2⟩ | h | h
  case inr.inl => omega
  case inr.inr => omega
  have hi : ins s = told s := by unfold ins; rw [if_pos he]
  have hl : len s = De.size s := by unfold len; rw [if_pos he]
  obtain ⟨c1, c2⟩ := sound _ (word_lt s (De.size s)) h2
  have c1' : check (told s) = 0 := c1
  have c2' : num (told s) = word s (De.size s) := c2
  rw [hi, hl]
  refine ⟨c1', ?_⟩
  rcases size_cases s with g | ⟨g, g2, g3⟩ | ⟨g, g2⟩
  · exact absurd g h0
  · have hn : num (told s) = half s 0 := by rw [c2', g]; rfl
    have sz : Th.size (told s) = 2 := by rcases Th.size_num _ c1' with ⟨q, _⟩ | ⟨_, q, _⟩; exact q; omega
    refine ⟨by rw [g, sz]; rfl, h1, ?_⟩
    rw [Th.encS2 _ c1' sz, g, hn]
    apply ByteArray.ext
    rw [ByteArray.data_extract]
    apply Array.ext'
    have b0 := byt_lt s 0
    have b1 := byt_lt s 1
    have k0 : half s 0 = byt s 0 + 256 * byt s 1 := rfl
    have e0 : by0 (half s 0) = s[0] := by
      unfold by0; apply ofNat_byt; rw [byt_eq s 0 (by omega)]; omega
    have e1 : by1 (half s 0) = s[1] := by
      unfold by1; apply ofNat_byt; rw [byt_eq s 1 (by omega)]; omega
    rw [e0, e1, Array.toList_extract]
    obtain ⟨d⟩ := s
    obtain ⟨l⟩ := d
    match l, g3 with
    | a :: b :: l, _ => rfl
  · have hn : num (told s) = half s 0 * 65536 + half s 1 := by rw [c2', g]; rfl
    have sz : Th.size (told s) = 4 := by rcases Th.size_num _ c1' with ⟨_, q⟩ | ⟨q, _, _⟩; omega; exact q
    have g4 : 4 ≤ s.size := by omega
    refine ⟨by rw [g, sz]; rfl, h1, ?_⟩
    rw [Th.encS4 _ c1' sz, g, hn]
    apply ByteArray.ext
    rw [ByteArray.data_extract]
    apply Array.ext'
    have b0 := byt_lt s 0
    have b1 := byt_lt s 1
    have b2 := byt_lt s 2
    have b3 := byt_lt s 3
    have k0 : half s 0 = byt s 0 + 256 * byt s 1 := rfl
    have k1 : half s 1 = byt s 2 + 256 * byt s 3 := rfl
    have e0 : b40 (half s 0 * 65536 + half s 1) = s[0] := by
      unfold b40; apply ofNat_byt; rw [byt_eq s 0 (by omega)]; omega
    have e1 : b41 (half s 0 * 65536 + half s 1) = s[1] := by
      unfold b41; apply ofNat_byt; rw [byt_eq s 1 (by omega)]; omega
    have e2 : b42 (half s 0 * 65536 + half s 1) = s[2] := by
      unfold b42; apply ofNat_byt; rw [byt_eq s 2 (by omega)]; omega
    have e3 : b43 (half s 0 * 65536 + half s 1) = s[3] := by
      unfold b43; apply ofNat_byt; rw [byt_eq s 3 (by omega)]; omega
    rw [e0, e1, e2, e3, Array.toList_extract]
    obtain ⟨d⟩ := s
    obtain ⟨l⟩ := d
    clear e0 e1 e2 e3 b0 b1 b2 b3 k0 k1 hn sz h0 h1 h2 he hi hl c1 c2 c1' c2' g g2
    match l, g4 with
    | a :: b :: c :: e :: l, _ => rfl
end Go.Proofs.Ytplfpaffjaldoaa.De
end
section
namespace Go.Proofs.Ytplfpaffjaldoaa.De
open Go.RowKit
set_option linter.unusedVariables false

/-- the lowest bits of a number, the greatest first, as noughts and ones -/
def txt (x : Nat) : Nat → ByteArray
  | 0 => ⟨#[]⟩
  | r + 1 => strOfNums [((48 + x / 2 ^ r % 2 : Nat) : Int)] ++ txt x r
theorem one_size (c : Int) : (strOfNums [c]).size = 1 := rfl
theorem txt_size (x r : Nat) : (txt x r).size = r := by
  induction r with
  | zero => rfl
  | succ r ih => rw [txt, ByteArray.size_append, ih, one_size]; omega
theorem one_list (n : Nat) : (strOfNums [((48 + n % 2 : Nat) : Int)]).data.toList = [UInt8.ofNat (48 + n % 2)] := rfl
theorem txt_get (x : Nat) : ∀ r k, k < r → (txt x r).data.toList[k]? = some (UInt8.ofNat (48 + x / 2 ^ (r - 1 - k) % 2)) := by
  intro r
  induction r with
  | zero => intro k hk; omega
  | succ r ih =>
    intro k hk
    rw [txt, app_list, one_list]
    cases k with
    | zero => simp
    | succ k =>
      rw [List.singleton_append, List.getElem?_cons_succ, ih k (by omega), show r + 1 - 1 - (k + 1) = r - 1 - k by omega]
theorem txt_join (a b m : Nat) (hb : b < 2 ^ m) : ∀ r, txt (a * 2 ^ m + b) (r + m) = txt a r ++ txt b m := by
  intro r
  induction r with
  | zero =>
    rw [Nat.zero_add]
    have e : ∀ k, k ≤ m → txt (a * 2 ^ m + b) k = txt b k := by
      intro k
      induction k with
      | zero => intro _; rfl
      | succ k ih =>
        intro hk
        rw [txt, txt, ih (by omega)]
        have : (a * 2 ^ m + b) / 2 ^ k % 2 = b / 2 ^ k % 2 := by
          have e1 : 2 ^ m = 2 ^ k * (2 * 2 ^ (m - k - 1)) := by rw [← Nat.pow_succ', ← Nat.pow_add]; congr 1; omega
          rw [e1, ← Nat.mul_assoc, Nat.mul_comm a, Nat.mul_assoc, Nat.mul_add_div (Nat.two_pow_pos k), ← Nat.mul_assoc, Nat.mul_comm a 2, Nat.mul_assoc, Nat.mul_add_mod]
        rw [this]
    rw [e m (Nat.le_refl m)]
    apply ByteArray.ext
    rw [ByteArray.data_append]
    show _ = #[] ++ _
    simp
  | succ r ih =>
    rw [show r + 1 + m = (r + m) + 1 by omega, txt, txt, ih]
    have : (a * 2 ^ m + b) / 2 ^ (r + m) % 2 = a / 2 ^ r % 2 := by
      rw [Nat.add_comm r m, Nat.pow_add, ← Nat.div_div_eq_div_mul, Nat.mul_comm a, Nat.mul_add_div (Nat.two_pow_pos m), Nat.div_eq_of_lt hb, Nat.add_zero]
    rw [this]
    apply ByteArray.ext
    rw [ByteArray.data_append, ByteArray.data_append, ByteArray.data_append, ByteArray.data_append, Array.append_assoc]
def sgn (x : Int) (n : Nat) : Int := if (2 : Int) ^ n ≤ x then x - 2 * 2 ^ n else x
end Go.Proofs.Ytplfpaffjaldoaa.De
end
section
namespace Go.Proofs.Ytplfpaffjaldoaa.De
open Go.RowKit
open Th (Ins none0)
set_option linter.unusedVariables false

/-- what is gathered: an instruction's fields, and what goes into them later -/
structure Stt where
  rd : Nat
  rn : Nat
  rm : Nat
  ra : Nat
  imm : Nat
  cond : Nat
  w : Nat
  x : Nat
  y : Nat
  t : Nat
def Stt.zero : Stt := ⟨0, 0, 0, 0, 0, 0, 0, 0, 0, 0⟩
def Stt.step (s : Stt) (c : UInt8) (b : Nat) : Stt :=
  if c == 100 then { s with rd := 2 * s.rd + b } else if c == 110 then { s with rn := 2 * s.rn + b } else if c == 109 then { s with rm := 2 * s.rm + b }
  else if c == 97 then { s with ra := 2 * s.ra + b } else if c == 99 then { s with cond := 2 * s.cond + b } else if c == 119 then { s with w := 2 * s.w + b }
  else if c == 120 then { s with x := b } else if c == 121 then { s with y := b } else if c == 48 then s else if c == 49 then s
  else { s with imm := s.imm + b * 2 ^ (c.toNat - 65), t := if c == 89 then b else s.t }
/-- the letters left, of a number's lowest bits -/
def Stt.run (x : Nat) (s : Stt) : List UInt8 → Stt
  | [] => s
  | c :: l => Stt.run x (s.step c (x / 2 ^ l.length % 2)) l
def okL (x : Nat) : List UInt8 → Bool
  | [] => true
  | c :: l => (if c == 48 then x / 2 ^ l.length % 2 == 0 else if c == 49 then x / 2 ^ l.length % 2 == 1 else true) && okL x l
def Stt.Bd (s : Stt) (k : Nat) : Prop := s.rd < 2 ^ k ∧ s.rn < 2 ^ k ∧ s.rm < 2 ^ k ∧ s.ra < 2 ^ k ∧ s.cond < 2 ^ k ∧ s.w < 2 ^ k ∧ s.imm ≤ k * 33554432 ∧ s.x < 2 ∧ s.y < 2 ∧ s.t < 2
theorem Stt.Bd.zero : Stt.zero.Bd 0 := by unfold Stt.Bd Stt.zero; simp
theorem Stt.Bd.step {s : Stt} {k : Nat} (h : s.Bd k) (c : UInt8) (b : Nat) (hb : b < 2) (hc : c.toNat ≤ 90 ∨ c = 100 ∨ c = 110 ∨ c = 109 ∨ c = 97 ∨ c = 99 ∨ c = 119 ∨ c = 120 ∨ c = 121) : (s.step c b).Bd (k + 1) := by
  obtain ⟨h1, h2, h3, h4, h5, h6, h7, h8, h9, h10⟩ := h
  have e : (2 : Nat) ^ (k + 1) = 2 * 2 ^ k := by rw [Nat.pow_succ]; omega
  have hi : s.imm ≤ (k + 1) * 33554432 := Nat.le_trans h7 (Nat.mul_le_mul_right _ (Nat.le_succ k))
  have hu : ¬ c = 100 → ¬ c = 110 → ¬ c = 109 → ¬ c = 97 → ¬ c = 99 → ¬ c = 119 → ¬ c = 120 → ¬ c = 121 → b * 2 ^ (c.toNat - 65) ≤ 33554432 := by
    intro a1 a2 a3 a4 a5 a6 a7 a8
    have h90 : c.toNat ≤ 90 := by
      rcases hc with g | g | g | g | g | g | g | g | g
      · exact g
      all_goals contradiction
    have : (2 : Nat) ^ (c.toNat - 65) ≤ 2 ^ 25 := Nat.pow_le_pow_right (by decide) (by omega)
    rcases (by omega : b = 0 ∨ b = 1) with rfl | rfl <;> omega
  unfold Stt.step
  by_cases a1 : c = 100
  · simp only [a1]; exact ⟨by show 2 * s.rd + b < _; omega, by show s.rn < _; omega, by show s.rm < _; omega, by show s.ra < _; omega, by show s.cond < _; omega, by show s.w < _; omega, hi, h8, h9, h10⟩
  by_cases a2 : c = 110
  · simp only [a2]; exact ⟨by show s.rd < _; omega, by show 2 * s.rn + b < _; omega, by show s.rm < _; omega, by show s.ra < _; omega, by show s.cond < _; omega, by show s.w < _; omega, hi, h8, h9, h10⟩
  by_cases a3 : c = 109
  · simp only [a3]; exact ⟨by show s.rd < _; omega, by show s.rn < _; omega, by show 2 * s.rm + b < _; omega, by show s.ra < _; omega, by show s.cond < _; omega, by show s.w < _; omega, hi, h8, h9, h10⟩
  by_cases a4 : c = 97
  · simp only [a4]; exact ⟨by show s.rd < _; omega, by show s.rn < _; omega, by show s.rm < _; omega, by show 2 * s.ra + b < _; omega, by show s.cond < _; omega, by show s.w < _; omega, hi, h8, h9, h10⟩
  by_cases a5 : c = 99
  · simp only [a5]; exact ⟨by show s.rd < _; omega, by show s.rn < _; omega, by show s.rm < _; omega, by show s.ra < _; omega, by show 2 * s.cond + b < _; omega, by show s.w < _; omega, hi, h8, h9, h10⟩
  by_cases a6 : c = 119
  · simp only [a6]; exact ⟨by show s.rd < _; omega, by show s.rn < _; omega, by show s.rm < _; omega, by show s.ra < _; omega, by show s.cond < _; omega, by show 2 * s.w + b < _; omega, hi, h8, h9, h10⟩
  by_cases a7 : c = 120
  · simp only [a7]; exact ⟨by show s.rd < _; omega, by show s.rn < _; omega, by show s.rm < _; omega, by show s.ra < _; omega, by show s.cond < _; omega, by show s.w < _; omega, hi, hb, h9, h10⟩
  by_cases a8 : c = 121
  · simp only [a8]; exact ⟨by show s.rd < _; omega, by show s.rn < _; omega, by show s.rm < _; omega, by show s.ra < _; omega, by show s.cond < _; omega, by show s.w < _; omega, hi, h8, hb, h10⟩
  by_cases a9 : c = 48
  · simp only [a9]; exact ⟨by show s.rd < _; omega, by show s.rn < _; omega, by show s.rm < _; omega, by show s.ra < _; omega, by show s.cond < _; omega, by show s.w < _; omega, hi, h8, h9, h10⟩
  by_cases a10 : c = 49
  · simp only [a10]; exact ⟨by show s.rd < _; omega, by show s.rn < _; omega, by show s.rm < _; omega, by show s.ra < _; omega, by show s.cond < _; omega, by show s.w < _; omega, hi, h8, h9, h10⟩
  have hu' := hu a1 a2 a3 a4 a5 a6 a7 a8
  have hv : s.imm + b * 2 ^ (c.toNat - 65) ≤ (k + 1) * 33554432 := Nat.le_trans (Nat.add_le_add h7 hu') (Nat.le_of_eq (Nat.succ_mul k 33554432).symm)
  simp only [beq_iff_eq, a1, a2, a3, a4, a5, a6, a7, a8, a9, a10, if_false]
  refine ⟨by show s.rd < _; omega, by show s.rn < _; omega, by show s.rm < _; omega, by show s.ra < _; omega, by show s.cond < _; omega, by show s.w < _; omega, hv, h8, h9, ?_⟩
  show (if c = 89 then b else s.t) < 2
  split <;> assumption
/-- what is read in the end -/
def fin (op : Int) (wide : Bool) (s : Stt) : Ins :=
  if op == 18 then ⟨op, s.rd, s.rn, s.rm, (s.w : Int) + 1 - s.imm, s.imm, s.cond, wide⟩
  else if op == 24 then ⟨op, s.rd, s.rn, s.rm, s.ra, if wide then sgn ((s.imm : Int) + ((s.x : Int) + s.t + 1) % 2 * 8388608 + ((s.y : Int) + s.t + 1) % 2 * 4194304) 24 else sgn s.imm 11, s.cond, wide⟩
  else if op == 25 then ⟨op, s.rd, s.rn, s.rm, s.ra, if wide then sgn s.imm 20 else sgn s.imm 8, s.cond, wide⟩
  else ⟨op, s.rd, s.rn, s.rm, s.ra, s.imm, s.cond, wide⟩
theorem step_x (s : Stt) (c : UInt8) (b : Nat) (h : ¬ c = 120) : (s.step c b).x = s.x := by
  unfold Stt.step
  repeat' split
  all_goals first | rfl | (exfalso; simp_all)
theorem step_y (s : Stt) (c : UInt8) (b : Nat) (h : ¬ c = 121) : (s.step c b).y = s.y := by
  unfold Stt.step
  repeat' split
  all_goals first | rfl | (exfalso; simp_all)
theorem step_t (s : Stt) (c : UInt8) (b : Nat) (h : ¬ c = 89) : (s.step c b).t = s.t := by
  unfold Stt.step
  repeat' split
  all_goals first | rfl | (exfalso; simp_all)
/-- what the document reads of bits by a row, and whether there is such an instruction -/
def rins (op : Int) (wide : Bool) (x : Nat) (L : List UInt8) : Ins := if okL x L then fin op wide (Stt.run x Stt.zero L) else none0
def rok (op : Int) (wide : Bool) (x : Nat) (L : List UInt8) : Bool := okL x L && (Th.check (fin op wide (Stt.run x Stt.zero L)) == 0)
theorem rins_bad {op : Int} {wide : Bool} {x : Nat} {L : List UInt8} (h : okL x L = false) : rins op wide x L = none0 ∧ rok op wide x L = false := by
  unfold rins rok; rw [h]; exact ⟨rfl, rfl⟩
theorem rins_good {op : Int} {wide : Bool} {x : Nat} {L : List UInt8} (h : okL x L = true) : rins op wide x L = fin op wide (Stt.run x Stt.zero L) ∧ rok op wide x L = (Th.check (fin op wide (Stt.run x Stt.zero L)) == 0) := by
  unfold rins rok; rw [h]; exact ⟨rfl, Bool.true_and _⟩
end Go.Proofs.Ytplfpaffjaldoaa.De
end
section
namespace Go.Proofs.Ytplfpaffjaldoaa.De
open Go.RowKit
open Th (Ins none0 check num rbits)
set_option linter.unusedVariables false

def bt (x j : Nat) : Nat := x / 2 ^ j % 2
theorem bt_lt (x j : Nat) : bt x j < 2 := Nat.mod_lt _ (by decide)
theorem pt_zero (x lo : Nat) : pt x lo 0 = 0 := by unfold pt; rw [Nat.pow_zero, Nat.mod_one]
theorem pt_succ (x lo k P : Nat) (hP : 2 ^ k = P) : pt x lo (k + 1) = bt x (lo + k) * P + pt x lo k := by
  subst hP
  unfold pt bt
  rw [Nat.pow_succ, Nat.mod_mul, Nat.pow_add, ← Nat.div_div_eq_div_mul, Nat.mul_comm (2 ^ k), Nat.add_comm]
theorem p1 (x lo : Nat) : pt x lo 1 = bt x (lo + 0) * 1 := by
  rw [show pt x lo 1 = bt x (lo + 0) * 1 + pt x lo 0 from pt_succ x lo 0 1 (by decide), pt_zero x lo]
  rw [Nat.add_zero]
theorem p2 (x lo : Nat) : pt x lo 2 = bt x (lo + 1) * 2 + bt x (lo + 0) * 1 := by
  rw [show pt x lo 2 = bt x (lo + 1) * 2 + pt x lo 1 from pt_succ x lo 1 2 (by decide), p1 x lo]
theorem p3 (x lo : Nat) : pt x lo 3 = bt x (lo + 2) * 4 + bt x (lo + 1) * 2 + bt x (lo + 0) * 1 := by
  rw [show pt x lo 3 = bt x (lo + 2) * 4 + pt x lo 2 from pt_succ x lo 2 4 (by decide), p2 x lo]
  simp only [Nat.add_assoc]
theorem p4 (x lo : Nat) : pt x lo 4 = bt x (lo + 3) * 8 + bt x (lo + 2) * 4 + bt x (lo + 1) * 2 + bt x (lo + 0) * 1 := by
  rw [show pt x lo 4 = bt x (lo + 3) * 8 + pt x lo 3 from pt_succ x lo 3 8 (by decide), p3 x lo]
  simp only [Nat.add_assoc]
theorem p5 (x lo : Nat) : pt x lo 5 = bt x (lo + 4) * 16 + bt x (lo + 3) * 8 + bt x (lo + 2) * 4 + bt x (lo + 1) * 2 + bt x (lo + 0) * 1 := by
  rw [show pt x lo 5 = bt x (lo + 4) * 16 + pt x lo 4 from pt_succ x lo 4 16 (by decide), p4 x lo]
  simp only [Nat.add_assoc]
theorem p6 (x lo : Nat) : pt x lo 6 = bt x (lo + 5) * 32 + bt x (lo + 4) * 16 + bt x (lo + 3) * 8 + bt x (lo + 2) * 4 + bt x (lo + 1) * 2 + bt x (lo + 0) * 1 := by
  rw [show pt x lo 6 = bt x (lo + 5) * 32 + pt x lo 5 from pt_succ x lo 5 32 (by decide), p5 x lo]
  simp only [Nat.add_assoc]
theorem p7 (x lo : Nat) : pt x lo 7 = bt x (lo + 6) * 64 + bt x (lo + 5) * 32 + bt x (lo + 4) * 16 + bt x (lo + 3) * 8 + bt x (lo + 2) * 4 + bt x (lo + 1) * 2 + bt x (lo + 0) * 1 := by
  rw [show pt x lo 7 = bt x (lo + 6) * 64 + pt x lo 6 from pt_succ x lo 6 64 (by decide), p6 x lo]
  simp only [Nat.add_assoc]
theorem p8 (x lo : Nat) : pt x lo 8 = bt x (lo + 7) * 128 + bt x (lo + 6) * 64 + bt x (lo + 5) * 32 + bt x (lo + 4) * 16 + bt x (lo + 3) * 8 + bt x (lo + 2) * 4 + bt x (lo + 1) * 2 + bt x (lo + 0) * 1 := by
  rw [show pt x lo 8 = bt x (lo + 7) * 128 + pt x lo 7 from pt_succ x lo 7 128 (by decide), p7 x lo]
  simp only [Nat.add_assoc]
theorem p9 (x lo : Nat) : pt x lo 9 = bt x (lo + 8) * 256 + bt x (lo + 7) * 128 + bt x (lo + 6) * 64 + bt x (lo + 5) * 32 + bt x (lo + 4) * 16 + bt x (lo + 3) * 8 + bt x (lo + 2) * 4 + bt x (lo + 1) * 2 + bt x (lo + 0) * 1 := by
  rw [show pt x lo 9 = bt x (lo + 8) * 256 + pt x lo 8 from pt_succ x lo 8 256 (by decide), p8 x lo]
  simp only [Nat.add_assoc]
theorem p10 (x lo : Nat) : pt x lo 10 = bt x (lo + 9) * 512 + bt x (lo + 8) * 256 + bt x (lo + 7) * 128 + bt x (lo + 6) * 64 + bt x (lo + 5) * 32 + bt x (lo + 4) * 16 + bt x (lo + 3) * 8 + bt x (lo + 2) * 4 + bt x (lo + 1) * 2 + bt x (lo + 0) * 1 := by
  rw [show pt x lo 10 = bt x (lo + 9) * 512 + pt x lo 9 from pt_succ x lo 9 512 (by decide), p9 x lo]
  simp only [Nat.add_assoc]
theorem p11 (x lo : Nat) : pt x lo 11 = bt x (lo + 10) * 1024 + bt x (lo + 9) * 512 + bt x (lo + 8) * 256 + bt x (lo + 7) * 128 + bt x (lo + 6) * 64 + bt x (lo + 5) * 32 + bt x (lo + 4) * 16 + bt x (lo + 3) * 8 + bt x (lo + 2) * 4 + bt x (lo + 1) * 2 + bt x (lo + 0) * 1 := by
  rw [show pt x lo 11 = bt x (lo + 10) * 1024 + pt x lo 10 from pt_succ x lo 10 1024 (by decide), p10 x lo]
  simp only [Nat.add_assoc]
def fit (m b : Nat) : List UInt8 → Bool
  | [] => true
  | c :: l => (if c == 48 then m.testBit l.length && !b.testBit l.length else if c == 49 then m.testBit l.length && b.testBit l.length else !m.testBit l.length) && fit m b l
theorem okL_iff (x m b : Nat) : ∀ L : List UInt8, fit m b L = true → (okL x L = true ↔ ∀ j, j < L.length → m.testBit j = true → x.testBit j = b.testBit j) := by
  intro L
  induction L with
  | nil => intro _; exact ⟨fun _ j hj => absurd hj (Nat.not_lt_zero j), fun _ => rfl⟩
  | cons c l ih =>
    intro hf
    rw [fit, Bool.and_eq_true] at hf
    obtain ⟨hf1, hf2⟩ := hf
    have ih' := ih hf2
    rw [okL, Bool.and_eq_true, ih']
    have key : (if c == 48 then x / 2 ^ l.length % 2 == 0 else if c == 49 then x / 2 ^ l.length % 2 == 1 else true) = true ↔ (m.testBit l.length = true → x.testBit l.length = b.testBit l.length) := by
      have ex : x.testBit l.length = decide (x / 2 ^ l.length % 2 = 1) := Nat.testBit_eq_decide_div_mod_eq
      have hb : x / 2 ^ l.length % 2 < 2 := Nat.mod_lt _ (by decide)
      by_cases c1 : c = 48
      · subst c1
        rw [if_pos (by decide), Bool.and_eq_true] at hf1
        have hz : b.testBit l.length = false := by simpa using hf1.2
        rw [if_pos (by decide), hz, ex, hf1.1]
        simp
      · by_cases c2 : c = 49
        · subst c2
          rw [if_neg (by decide), if_pos (by decide), Bool.and_eq_true] at hf1
          rw [if_neg (by decide), if_pos (by decide), hf1.2, ex, hf1.1]
          simp
        · rw [if_neg (by simpa using c1), if_neg (by simpa using c2)] at hf1
          have hz : m.testBit l.length = false := by simpa using hf1
          rw [if_neg (by simpa using c1), if_neg (by simpa using c2), hz]
          simp
    rw [key, List.length_cons]
    constructor
    · rintro ⟨h1, h2⟩ j hj hm
      rcases Nat.lt_or_ge j l.length with h | h
      · exact h2 j h hm
      · obtain rfl : j = l.length := by omega
        exact h1 hm
    · intro h
      exact ⟨h _ (Nat.lt_succ_self _), fun j hj => h j (Nat.lt_succ_of_lt hj)⟩
theorem okL_hit (x m b : Nat) (L : List UInt8) (n : Nat) (hn : L.length = n) (hf : fit m b L = true) (hm : m < 2 ^ n) (hbm : b &&& m = b) : okL x L = hit x m b := by
  have e : (okL x L = true ↔ hit x m b = true) := by
    rw [okL_iff x m b L hf, hn]
    unfold hit
    rw [beq_iff_eq]
    constructor
    · intro h
      apply Nat.eq_of_testBit_eq
      intro j
      have hbj : b.testBit j = (b.testBit j && m.testBit j) := by rw [← Nat.testBit_and, hbm]
      rw [Nat.testBit_and]
      by_cases hmj : m.testBit j = true
      · have hj : j < n := by
          apply Nat.lt_of_not_le
          intro hle
          have : m.testBit j = false := Nat.testBit_lt_two_pow (Nat.lt_of_lt_of_le hm (Nat.pow_le_pow_right (by decide) hle))
          rw [this] at hmj
          exact Bool.noConfusion hmj
        rw [h j hj hmj, hmj, Bool.and_true]
      · have : m.testBit j = false := by simpa using hmj
        rw [hbj, this, Bool.and_false, Bool.and_false]
    · intro h j hj hmj
      rw [← h, Nat.testBit_and, hmj, Bool.and_true]
  cases h1 : okL x L <;> cases h2 : hit x m b
  · rfl
  · rw [e.2 h2] at h1; exact Bool.noConfusion h1
  · rw [e.1 h1] at h2; exact Bool.noConfusion h2
  · rfl
theorem hit_low (x m b n M : Nat) (hx : x < 2 ^ n) (hM : m % 2 ^ n = M) : hit x m b = hit x M b := by
  have h1 : x &&& m < 2 ^ n := Nat.lt_of_le_of_lt Nat.and_le_left hx
  have : x &&& m = x &&& M := by
    rw [← Nat.mod_eq_of_lt h1, Nat.and_mod_two_pow, Nat.mod_eq_of_lt hx, hM]
  unfold hit
  rw [this]
theorem hit_ge (x m b : Nat) (h : hit x m b = true) : b ≤ x := by
  unfold hit at h
  rw [beq_iff_eq] at h
  rw [← h]
  exact Nat.and_le_left
theorem sgn_signed (n c P : Nat) (hP : 2 ^ c = P) : sgn (n : Int) c = signed n (c + 1) := by
  unfold sgn signed
  have hP' : (2 : Int) ^ c = (P : Int) := by rw [← hP]; simp
  have hP2 : (2 : Int) ^ (c + 1) = 2 * (P : Int) := by rw [Int.pow_succ, hP']; omega
  rw [Nat.add_sub_cancel, hP, hP', hP2]
  by_cases h : n < P
  · rw [if_neg (by omega), if_pos h]
  · rw [if_pos (by omega), if_neg h]
theorem alike_bits (a b : Nat) (ha : a < 2) (hb : b < 2) : ((a : Int) + b + 1) % 2 = ((alike a b : Nat) : Int) := by
  unfold alike
  rcases (by omega : a = 0 ∨ a = 1) with rfl | rfl <;> rcases (by omega : b = 0 ∨ b = 1) with rfl | rfl <;> decide
theorem fin_24w (s : Stt) : fin 24 true s = ⟨24, s.rd, s.rn, s.rm, s.ra, sgn ((s.imm : Int) + ((s.x : Int) + s.t + 1) % 2 * 8388608 + ((s.y : Int) + s.t + 1) % 2 * 4194304) 24, s.cond, true⟩ := by
  unfold fin
  rw [if_neg (by decide), if_pos (by decide), if_pos rfl]
theorem fin_24n (s : Stt) : fin 24 false s = ⟨24, s.rd, s.rn, s.rm, s.ra, sgn s.imm 11, s.cond, false⟩ := by
  unfold fin
  rw [if_neg (by decide), if_pos (by decide), if_neg (by decide)]
theorem fin_25w (s : Stt) : fin 25 true s = ⟨25, s.rd, s.rn, s.rm, s.ra, sgn s.imm 20, s.cond, true⟩ := by
  unfold fin
  rw [if_neg (by decide), if_neg (by decide), if_pos (by decide), if_pos rfl]
theorem fin_25n (s : Stt) : fin 25 false s = ⟨25, s.rd, s.rn, s.rm, s.ra, sgn s.imm 8, s.cond, false⟩ := by
  unfold fin
  rw [if_neg (by decide), if_neg (by decide), if_pos (by decide), if_neg (by decide)]
theorem fin_24v (I X Y T : Nat) : fin 24 true ⟨0, 0, 0, 0, I, 0, 0, X, Y, T⟩ = ⟨24, 0, 0, 0, 0, sgn ((I : Int) + ((X : Int) + T + 1) % 2 * 8388608 + ((Y : Int) + T + 1) % 2 * 4194304) 24, 0, true⟩ := by
  rw [fin_24w]; rfl
theorem fin_24u (I a b c : Nat) (ha : a < 2) (hb : b < 2) (hc : c < 2) : fin 24 true ⟨0, 0, 0, 0, I, 0, 0, a, b, c⟩ = ⟨24, 0, 0, 0, 0, signed (I + alike a c * 8388608 + alike b c * 4194304) 25, 0, true⟩ := by
  have e : ((I : Int) + ((a : Int) + c + 1) % 2 * 8388608 + ((b : Int) + c + 1) % 2 * 4194304) = ((I + alike a c * 8388608 + alike b c * 4194304 : Nat) : Int) := by
    rw [alike_bits a c ha hc, alike_bits b c hb hc]
    omega
  rw [fin_24v, e]
  congr 1
  exact sgn_signed _ 24 16777216 (by decide)
theorem run1 (x : Nat) : Stt.run x Stt.zero [49, 48, 49, 49, 49, 49, 49, 49, 48, 48, 48, 48, 48, 48, 48, 48] = ⟨0, 0, 0, 0, 0, 0, 0, 0, 0, 0⟩ := by kernel_rfl
theorem okl1 (x : Nat) (hx : x < 2 ^ 16) : okL x [49, 48, 49, 49, 49, 49, 49, 49, 48, 48, 48, 48, 48, 48, 48, 48] = hit x 4294967295 48896 := by
  rw [hit_low x 4294967295 48896 16 65535 hx (by decide)]
  exact okL_hit x 65535 48896 _ 16 rfl (by decide +kernel) (by decide) (by decide)
theorem fin1 (x : Nat) (hx : x < 2 ^ 16) (h : okL x [49, 48, 49, 49, 49, 49, 49, 49, 48, 48, 48, 48, 48, 48, 48, 48] = true) : fin 1 false (Stt.run x Stt.zero [49, 48, 49, 49, 49, 49, 49, 49, 48, 48, 48, 48, 48, 48, 48, 48]) = read 1 x := by
  rw [run1]
  rfl
theorem run2 (x : Nat) : Stt.run x Stt.zero [49, 48, 49, 49, 49, 49, 49, 48, 72, 71, 70, 69, 68, 67, 66, 65] = ⟨0, 0, 0, 0, 0 + bt x 7 * 128 + bt x 6 * 64 + bt x 5 * 32 + bt x 4 * 16 + bt x 3 * 8 + bt x 2 * 4 + bt x 1 * 2 + bt x 0 * 1, 0, 0, 0, 0, 0⟩ := by kernel_rfl
theorem okl2 (x : Nat) (hx : x < 2 ^ 16) : okL x [49, 48, 49, 49, 49, 49, 49, 48, 72, 71, 70, 69, 68, 67, 66, 65] = hit x 4294967040 48640 := by
  rw [hit_low x 4294967040 48640 16 65280 hx (by decide)]
  exact okL_hit x 65280 48640 _ 16 rfl (by decide +kernel) (by decide) (by decide)
theorem fin2 (x : Nat) (hx : x < 2 ^ 16) (h : okL x [49, 48, 49, 49, 49, 49, 49, 48, 72, 71, 70, 69, 68, 67, 66, 65] = true) : fin 2 false (Stt.run x Stt.zero [49, 48, 49, 49, 49, 49, 49, 48, 72, 71, 70, 69, 68, 67, 66, 65]) = read 2 x := by
  rw [run2]
  have g0 : ∀ A : Nat, A + bt x 7 * 128 + bt x 6 * 64 + bt x 5 * 32 + bt x 4 * 16 + bt x 3 * 8 + bt x 2 * 4 + bt x 1 * 2 + bt x 0 * 1 = A + pt x 0 8 * 1 := by
    intro A
    rw [show pt x 0 8 = bt x 7 * 128 + bt x 6 * 64 + bt x 5 * 32 + bt x 4 * 16 + bt x 3 * 8 + bt x 2 * 4 + bt x 1 * 2 + bt x 0 * 1 from p8 x 0]
    omega
  have e_imm : 0 + bt x 7 * 128 + bt x 6 * 64 + bt x 5 * 32 + bt x 4 * 16 + bt x 3 * 8 + bt x 2 * 4 + bt x 1 * 2 + bt x 0 * 1 = pt x 0 8 := by
    rw [g0]
    omega
  rw [e_imm]
  rfl
theorem run3 (x : Nat) : Stt.run x Stt.zero [49, 49, 49, 49, 48, 76, 49, 48, 48, 49, 48, 48, 80, 79, 78, 77, 48, 75, 74, 73, 100, 100, 100, 100, 72, 71, 70, 69, 68, 67, 66, 65] = ⟨2 * (2 * (2 * (2 * (0) + bt x 11) + bt x 10) + bt x 9) + bt x 8, 0, 0, 0, 0 + bt x 26 * 2048 + bt x 19 * 32768 + bt x 18 * 16384 + bt x 17 * 8192 + bt x 16 * 4096 + bt x 14 * 1024 + bt x 13 * 512 + bt x 12 * 256 + bt x 7 * 128 + bt x 6 * 64 + bt x 5 * 32 + bt x 4 * 16 + bt x 3 * 8 + bt x 2 * 4 + bt x 1 * 2 + bt x 0 * 1, 0, 0, 0, 0, 0⟩ := by kernel_rfl
theorem okl3 (x : Nat) (hx : x < 2 ^ 32) : okL x [49, 49, 49, 49, 48, 76, 49, 48, 48, 49, 48, 48, 80, 79, 78, 77, 48, 75, 74, 73, 100, 100, 100, 100, 72, 71, 70, 69, 68, 67, 66, 65] = hit x 4226842624 4064280576 := by
  exact okL_hit x 4226842624 4064280576 _ 32 rfl (by decide +kernel) (by decide) (by decide)
theorem fin3 (x : Nat) (hx : x < 2 ^ 32) (h : okL x [49, 49, 49, 49, 48, 76, 49, 48, 48, 49, 48, 48, 80, 79, 78, 77, 48, 75, 74, 73, 100, 100, 100, 100, 72, 71, 70, 69, 68, 67, 66, 65] = true) : fin 3 false (Stt.run x Stt.zero [49, 49, 49, 49, 48, 76, 49, 48, 48, 49, 48, 48, 80, 79, 78, 77, 48, 75, 74, 73, 100, 100, 100, 100, 72, 71, 70, 69, 68, 67, 66, 65]) = read 3 x := by
  rw [run3]
  have e_rd : 2 * (2 * (2 * (2 * (0) + bt x 11) + bt x 10) + bt x 9) + bt x 8 = pt x 8 4 := by rw [show pt x 8 4 = bt x 11 * 8 + bt x 10 * 4 + bt x 9 * 2 + bt x 8 * 1 from p4 x 8]; omega
  have g0 : ∀ A : Nat, A + bt x 26 * 2048 = A + pt x 26 1 * 2048 := by
    intro A
    rw [show pt x 26 1 = bt x 26 * 1 from p1 x 26]
    omega
  have g1 : ∀ A : Nat, A + bt x 19 * 32768 + bt x 18 * 16384 + bt x 17 * 8192 + bt x 16 * 4096 = A + pt x 16 4 * 4096 := by
    intro A
    rw [show pt x 16 4 = bt x 19 * 8 + bt x 18 * 4 + bt x 17 * 2 + bt x 16 * 1 from p4 x 16]
    omega
  have g2 : ∀ A : Nat, A + bt x 14 * 1024 + bt x 13 * 512 + bt x 12 * 256 = A + pt x 12 3 * 256 := by
    intro A
    rw [show pt x 12 3 = bt x 14 * 4 + bt x 13 * 2 + bt x 12 * 1 from p3 x 12]
    omega
  have g3 : ∀ A : Nat, A + bt x 7 * 128 + bt x 6 * 64 + bt x 5 * 32 + bt x 4 * 16 + bt x 3 * 8 + bt x 2 * 4 + bt x 1 * 2 + bt x 0 * 1 = A + pt x 0 8 * 1 := by
    intro A
    rw [show pt x 0 8 = bt x 7 * 128 + bt x 6 * 64 + bt x 5 * 32 + bt x 4 * 16 + bt x 3 * 8 + bt x 2 * 4 + bt x 1 * 2 + bt x 0 * 1 from p8 x 0]
    omega
  have e_imm : 0 + bt x 26 * 2048 + bt x 19 * 32768 + bt x 18 * 16384 + bt x 17 * 8192 + bt x 16 * 4096 + bt x 14 * 1024 + bt x 13 * 512 + bt x 12 * 256 + bt x 7 * 128 + bt x 6 * 64 + bt x 5 * 32 + bt x 4 * 16 + bt x 3 * 8 + bt x 2 * 4 + bt x 1 * 2 + bt x 0 * 1 = imm16 x := by
    rw [g0, g1, g2, g3]
    unfold imm16; omega
  rw [e_rd, e_imm]
  rfl
theorem run4 (x : Nat) : Stt.run x Stt.zero [49, 49, 49, 49, 48, 76, 49, 48, 49, 49, 48, 48, 80, 79, 78, 77, 48, 75, 74, 73, 100, 100, 100, 100, 72, 71, 70, 69, 68, 67, 66, 65] = ⟨2 * (2 * (2 * (2 * (0) + bt x 11) + bt x 10) + bt x 9) + bt x 8, 0, 0, 0, 0 + bt x 26 * 2048 + bt x 19 * 32768 + bt x 18 * 16384 + bt x 17 * 8192 + bt x 16 * 4096 + bt x 14 * 1024 + bt x 13 * 512 + bt x 12 * 256 + bt x 7 * 128 + bt x 6 * 64 + bt x 5 * 32 + bt x 4 * 16 + bt x 3 * 8 + bt x 2 * 4 + bt x 1 * 2 + bt x 0 * 1, 0, 0, 0, 0, 0⟩ := by kernel_rfl
theorem okl4 (x : Nat) (hx : x < 2 ^ 32) : okL x [49, 49, 49, 49, 48, 76, 49, 48, 49, 49, 48, 48, 80, 79, 78, 77, 48, 75, 74, 73, 100, 100, 100, 100, 72, 71, 70, 69, 68, 67, 66, 65] = hit x 4226842624 4072669184 := by
  exact okL_hit x 4226842624 4072669184 _ 32 rfl (by decide +kernel) (by decide) (by decide)
theorem fin4 (x : Nat) (hx : x < 2 ^ 32) (h : okL x [49, 49, 49, 49, 48, 76, 49, 48, 49, 49, 48, 48, 80, 79, 78, 77, 48, 75, 74, 73, 100, 100, 100, 100, 72, 71, 70, 69, 68, 67, 66, 65] = true) : fin 4 false (Stt.run x Stt.zero [49, 49, 49, 49, 48, 76, 49, 48, 49, 49, 48, 48, 80, 79, 78, 77, 48, 75, 74, 73, 100, 100, 100, 100, 72, 71, 70, 69, 68, 67, 66, 65]) = read 4 x := by
  rw [run4]
  have e_rd : 2 * (2 * (2 * (2 * (0) + bt x 11) + bt x 10) + bt x 9) + bt x 8 = pt x 8 4 := by rw [show pt x 8 4 = bt x 11 * 8 + bt x 10 * 4 + bt x 9 * 2 + bt x 8 * 1 from p4 x 8]; omega
  have g0 : ∀ A : Nat, A + bt x 26 * 2048 = A + pt x 26 1 * 2048 := by
    intro A
    rw [show pt x 26 1 = bt x 26 * 1 from p1 x 26]
    omega
  have g1 : ∀ A : Nat, A + bt x 19 * 32768 + bt x 18 * 16384 + bt x 17 * 8192 + bt x 16 * 4096 = A + pt x 16 4 * 4096 := by
    intro A
    rw [show pt x 16 4 = bt x 19 * 8 + bt x 18 * 4 + bt x 17 * 2 + bt x 16 * 1 from p4 x 16]
    omega
  have g2 : ∀ A : Nat, A + bt x 14 * 1024 + bt x 13 * 512 + bt x 12 * 256 = A + pt x 12 3 * 256 := by
    intro A
    rw [show pt x 12 3 = bt x 14 * 4 + bt x 13 * 2 + bt x 12 * 1 from p3 x 12]
    omega
  have g3 : ∀ A : Nat, A + bt x 7 * 128 + bt x 6 * 64 + bt x 5 * 32 + bt x 4 * 16 + bt x 3 * 8 + bt x 2 * 4 + bt x 1 * 2 + bt x 0 * 1 = A + pt x 0 8 * 1 := by
    intro A
    rw [show pt x 0 8 = bt x 7 * 128 + bt x 6 * 64 + bt x 5 * 32 + bt x 4 * 16 + bt x 3 * 8 + bt x 2 * 4 + bt x 1 * 2 + bt x 0 * 1 from p8 x 0]
    omega
  have e_imm : 0 + bt x 26 * 2048 + bt x 19 * 32768 + bt x 18 * 16384 + bt x 17 * 8192 + bt x 16 * 4096 + bt x 14 * 1024 + bt x 13 * 512 + bt x 12 * 256 + bt x 7 * 128 + bt x 6 * 64 + bt x 5 * 32 + bt x 4 * 16 + bt x 3 * 8 + bt x 2 * 4 + bt x 1 * 2 + bt x 0 * 1 = imm16 x := by
    rw [g0, g1, g2, g3]
    unfold imm16; omega
  rw [e_rd, e_imm]
  rfl
theorem run5 (x : Nat) : Stt.run x Stt.zero [49, 49, 49, 48, 49, 48, 49, 48, 48, 49, 48, 48, 49, 49, 49, 49, 48, 69, 68, 67, 100, 100, 100, 100, 66, 65, 48, 48, 109, 109, 109, 109] = ⟨2 * (2 * (2 * (2 * (0) + bt x 11) + bt x 10) + bt x 9) + bt x 8, 0, 2 * (2 * (2 * (2 * (0) + bt x 3) + bt x 2) + bt x 1) + bt x 0, 0, 0 + bt x 14 * 16 + bt x 13 * 8 + bt x 12 * 4 + bt x 7 * 2 + bt x 6 * 1, 0, 0, 0, 0, 0⟩ := by kernel_rfl
theorem okl5 (x : Nat) (hx : x < 2 ^ 32) : okL x [49, 49, 49, 48, 49, 48, 49, 48, 48, 49, 48, 48, 49, 49, 49, 49, 48, 69, 68, 67, 100, 100, 100, 100, 66, 65, 48, 48, 109, 109, 109, 109] = hit x 4294934576 3931045888 := by
  exact okL_hit x 4294934576 3931045888 _ 32 rfl (by decide +kernel) (by decide) (by decide)
theorem fin5 (x : Nat) (hx : x < 2 ^ 32) (h : okL x [49, 49, 49, 48, 49, 48, 49, 48, 48, 49, 48, 48, 49, 49, 49, 49, 48, 69, 68, 67, 100, 100, 100, 100, 66, 65, 48, 48, 109, 109, 109, 109] = true) : fin 5 false (Stt.run x Stt.zero [49, 49, 49, 48, 49, 48, 49, 48, 48, 49, 48, 48, 49, 49, 49, 49, 48, 69, 68, 67, 100, 100, 100, 100, 66, 65, 48, 48, 109, 109, 109, 109]) = read 5 x := by
  rw [run5]
  have e_rd : 2 * (2 * (2 * (2 * (0) + bt x 11) + bt x 10) + bt x 9) + bt x 8 = pt x 8 4 := by rw [show pt x 8 4 = bt x 11 * 8 + bt x 10 * 4 + bt x 9 * 2 + bt x 8 * 1 from p4 x 8]; omega
  have e_rm : 2 * (2 * (2 * (2 * (0) + bt x 3) + bt x 2) + bt x 1) + bt x 0 = pt x 0 4 := by rw [show pt x 0 4 = bt x 3 * 8 + bt x 2 * 4 + bt x 1 * 2 + bt x 0 * 1 from p4 x 0]; omega
  have g0 : ∀ A : Nat, A + bt x 14 * 16 + bt x 13 * 8 + bt x 12 * 4 = A + pt x 12 3 * 4 := by
    intro A
    rw [show pt x 12 3 = bt x 14 * 4 + bt x 13 * 2 + bt x 12 * 1 from p3 x 12]
    omega
  have g1 : ∀ A : Nat, A + bt x 7 * 2 + bt x 6 * 1 = A + pt x 6 2 * 1 := by
    intro A
    rw [show pt x 6 2 = bt x 7 * 2 + bt x 6 * 1 from p2 x 6]
    omega
  have e_imm : 0 + bt x 14 * 16 + bt x 13 * 8 + bt x 12 * 4 + bt x 7 * 2 + bt x 6 * 1 = shift x := by
    rw [g0, g1]
    unfold shift; omega
  rw [e_rd, e_rm, e_imm]
  rfl
theorem run6 (x : Nat) : Stt.run x Stt.zero [49, 49, 49, 48, 49, 48, 49, 48, 48, 49, 48, 48, 49, 49, 49, 49, 48, 69, 68, 67, 100, 100, 100, 100, 66, 65, 48, 49, 109, 109, 109, 109] = ⟨2 * (2 * (2 * (2 * (0) + bt x 11) + bt x 10) + bt x 9) + bt x 8, 0, 2 * (2 * (2 * (2 * (0) + bt x 3) + bt x 2) + bt x 1) + bt x 0, 0, 0 + bt x 14 * 16 + bt x 13 * 8 + bt x 12 * 4 + bt x 7 * 2 + bt x 6 * 1, 0, 0, 0, 0, 0⟩ := by kernel_rfl
theorem okl6 (x : Nat) (hx : x < 2 ^ 32) : okL x [49, 49, 49, 48, 49, 48, 49, 48, 48, 49, 48, 48, 49, 49, 49, 49, 48, 69, 68, 67, 100, 100, 100, 100, 66, 65, 48, 49, 109, 109, 109, 109] = hit x 4294934576 3931045904 := by
  exact okL_hit x 4294934576 3931045904 _ 32 rfl (by decide +kernel) (by decide) (by decide)
theorem fin6 (x : Nat) (hx : x < 2 ^ 32) (h : okL x [49, 49, 49, 48, 49, 48, 49, 48, 48, 49, 48, 48, 49, 49, 49, 49, 48, 69, 68, 67, 100, 100, 100, 100, 66, 65, 48, 49, 109, 109, 109, 109] = true) : fin 6 false (Stt.run x Stt.zero [49, 49, 49, 48, 49, 48, 49, 48, 48, 49, 48, 48, 49, 49, 49, 49, 48, 69, 68, 67, 100, 100, 100, 100, 66, 65, 48, 49, 109, 109, 109, 109]) = read 6 x := by
  rw [run6]
  have e_rd : 2 * (2 * (2 * (2 * (0) + bt x 11) + bt x 10) + bt x 9) + bt x 8 = pt x 8 4 := by rw [show pt x 8 4 = bt x 11 * 8 + bt x 10 * 4 + bt x 9 * 2 + bt x 8 * 1 from p4 x 8]; omega
  have e_rm : 2 * (2 * (2 * (2 * (0) + bt x 3) + bt x 2) + bt x 1) + bt x 0 = pt x 0 4 := by rw [show pt x 0 4 = bt x 3 * 8 + bt x 2 * 4 + bt x 1 * 2 + bt x 0 * 1 from p4 x 0]; omega
  have g0 : ∀ A : Nat, A + bt x 14 * 16 + bt x 13 * 8 + bt x 12 * 4 = A + pt x 12 3 * 4 := by
    intro A
    rw [show pt x 12 3 = bt x 14 * 4 + bt x 13 * 2 + bt x 12 * 1 from p3 x 12]
    omega
  have g1 : ∀ A : Nat, A + bt x 7 * 2 + bt x 6 * 1 = A + pt x 6 2 * 1 := by
    intro A
    rw [show pt x 6 2 = bt x 7 * 2 + bt x 6 * 1 from p2 x 6]
    omega
  have e_imm : 0 + bt x 14 * 16 + bt x 13 * 8 + bt x 12 * 4 + bt x 7 * 2 + bt x 6 * 1 = shift x := by
    rw [g0, g1]
    unfold shift; omega
  rw [e_rd, e_rm, e_imm]
  rfl
theorem run7 (x : Nat) : Stt.run x Stt.zero [49, 49, 49, 48, 49, 48, 49, 48, 48, 49, 48, 48, 49, 49, 49, 49, 48, 69, 68, 67, 100, 100, 100, 100, 66, 65, 49, 48, 109, 109, 109, 109] = ⟨2 * (2 * (2 * (2 * (0) + bt x 11) + bt x 10) + bt x 9) + bt x 8, 0, 2 * (2 * (2 * (2 * (0) + bt x 3) + bt x 2) + bt x 1) + bt x 0, 0, 0 + bt x 14 * 16 + bt x 13 * 8 + bt x 12 * 4 + bt x 7 * 2 + bt x 6 * 1, 0, 0, 0, 0, 0⟩ := by kernel_rfl
theorem okl7 (x : Nat) (hx : x < 2 ^ 32) : okL x [49, 49, 49, 48, 49, 48, 49, 48, 48, 49, 48, 48, 49, 49, 49, 49, 48, 69, 68, 67, 100, 100, 100, 100, 66, 65, 49, 48, 109, 109, 109, 109] = hit x 4294934576 3931045920 := by
  exact okL_hit x 4294934576 3931045920 _ 32 rfl (by decide +kernel) (by decide) (by decide)
theorem fin7 (x : Nat) (hx : x < 2 ^ 32) (h : okL x [49, 49, 49, 48, 49, 48, 49, 48, 48, 49, 48, 48, 49, 49, 49, 49, 48, 69, 68, 67, 100, 100, 100, 100, 66, 65, 49, 48, 109, 109, 109, 109] = true) : fin 7 false (Stt.run x Stt.zero [49, 49, 49, 48, 49, 48, 49, 48, 48, 49, 48, 48, 49, 49, 49, 49, 48, 69, 68, 67, 100, 100, 100, 100, 66, 65, 49, 48, 109, 109, 109, 109]) = read 7 x := by
  rw [run7]
  have e_rd : 2 * (2 * (2 * (2 * (0) + bt x 11) + bt x 10) + bt x 9) + bt x 8 = pt x 8 4 := by rw [show pt x 8 4 = bt x 11 * 8 + bt x 10 * 4 + bt x 9 * 2 + bt x 8 * 1 from p4 x 8]; omega
  have e_rm : 2 * (2 * (2 * (2 * (0) + bt x 3) + bt x 2) + bt x 1) + bt x 0 = pt x 0 4 := by rw [show pt x 0 4 = bt x 3 * 8 + bt x 2 * 4 + bt x 1 * 2 + bt x 0 * 1 from p4 x 0]; omega
  have g0 : ∀ A : Nat, A + bt x 14 * 16 + bt x 13 * 8 + bt x 12 * 4 = A + pt x 12 3 * 4 := by
    intro A
    rw [show pt x 12 3 = bt x 14 * 4 + bt x 13 * 2 + bt x 12 * 1 from p3 x 12]
    omega
  have g1 : ∀ A : Nat, A + bt x 7 * 2 + bt x 6 * 1 = A + pt x 6 2 * 1 := by
    intro A
    rw [show pt x 6 2 = bt x 7 * 2 + bt x 6 * 1 from p2 x 6]
    omega
  have e_imm : 0 + bt x 14 * 16 + bt x 13 * 8 + bt x 12 * 4 + bt x 7 * 2 + bt x 6 * 1 = shift x := by
    rw [g0, g1]
    unfold shift; omega
  rw [e_rd, e_rm, e_imm]
  rfl
theorem run8 (x : Nat) : Stt.run x Stt.zero [49, 49, 49, 48, 49, 48, 49, 48, 48, 49, 48, 48, 49, 49, 49, 49, 48, 69, 68, 67, 100, 100, 100, 100, 66, 65, 49, 49, 109, 109, 109, 109] = ⟨2 * (2 * (2 * (2 * (0) + bt x 11) + bt x 10) + bt x 9) + bt x 8, 0, 2 * (2 * (2 * (2 * (0) + bt x 3) + bt x 2) + bt x 1) + bt x 0, 0, 0 + bt x 14 * 16 + bt x 13 * 8 + bt x 12 * 4 + bt x 7 * 2 + bt x 6 * 1, 0, 0, 0, 0, 0⟩ := by kernel_rfl
theorem okl8 (x : Nat) (hx : x < 2 ^ 32) : okL x [49, 49, 49, 48, 49, 48, 49, 48, 48, 49, 48, 48, 49, 49, 49, 49, 48, 69, 68, 67, 100, 100, 100, 100, 66, 65, 49, 49, 109, 109, 109, 109] = hit x 4294934576 3931045936 := by
  exact okL_hit x 4294934576 3931045936 _ 32 rfl (by decide +kernel) (by decide) (by decide)
theorem fin8 (x : Nat) (hx : x < 2 ^ 32) (h : okL x [49, 49, 49, 48, 49, 48, 49, 48, 48, 49, 48, 48, 49, 49, 49, 49, 48, 69, 68, 67, 100, 100, 100, 100, 66, 65, 49, 49, 109, 109, 109, 109] = true) : fin 8 false (Stt.run x Stt.zero [49, 49, 49, 48, 49, 48, 49, 48, 48, 49, 48, 48, 49, 49, 49, 49, 48, 69, 68, 67, 100, 100, 100, 100, 66, 65, 49, 49, 109, 109, 109, 109]) = read 8 x := by
  rw [run8]
  have e_rd : 2 * (2 * (2 * (2 * (0) + bt x 11) + bt x 10) + bt x 9) + bt x 8 = pt x 8 4 := by rw [show pt x 8 4 = bt x 11 * 8 + bt x 10 * 4 + bt x 9 * 2 + bt x 8 * 1 from p4 x 8]; omega
  have e_rm : 2 * (2 * (2 * (2 * (0) + bt x 3) + bt x 2) + bt x 1) + bt x 0 = pt x 0 4 := by rw [show pt x 0 4 = bt x 3 * 8 + bt x 2 * 4 + bt x 1 * 2 + bt x 0 * 1 from p4 x 0]; omega
  have g0 : ∀ A : Nat, A + bt x 14 * 16 + bt x 13 * 8 + bt x 12 * 4 = A + pt x 12 3 * 4 := by
    intro A
    rw [show pt x 12 3 = bt x 14 * 4 + bt x 13 * 2 + bt x 12 * 1 from p3 x 12]
    omega
  have g1 : ∀ A : Nat, A + bt x 7 * 2 + bt x 6 * 1 = A + pt x 6 2 * 1 := by
    intro A
    rw [show pt x 6 2 = bt x 7 * 2 + bt x 6 * 1 from p2 x 6]
    omega
  have e_imm : 0 + bt x 14 * 16 + bt x 13 * 8 + bt x 12 * 4 + bt x 7 * 2 + bt x 6 * 1 = shift x := by
    rw [g0, g1]
    unfold shift; omega
  rw [e_rd, e_rm, e_imm]
  rfl
theorem run9 (x : Nat) : Stt.run x Stt.zero [49, 49, 49, 48, 49, 48, 49, 48, 48, 49, 49, 48, 49, 49, 49, 49, 48, 48, 48, 48, 100, 100, 100, 100, 48, 48, 48, 48, 109, 109, 109, 109] = ⟨2 * (2 * (2 * (2 * (0) + bt x 11) + bt x 10) + bt x 9) + bt x 8, 0, 2 * (2 * (2 * (2 * (0) + bt x 3) + bt x 2) + bt x 1) + bt x 0, 0, 0, 0, 0, 0, 0, 0⟩ := by kernel_rfl
theorem okl9 (x : Nat) (hx : x < 2 ^ 32) : okL x [49, 49, 49, 48, 49, 48, 49, 48, 48, 49, 49, 48, 49, 49, 49, 49, 48, 48, 48, 48, 100, 100, 100, 100, 48, 48, 48, 48, 109, 109, 109, 109] = hit x 4294963440 3933143040 := by
  exact okL_hit x 4294963440 3933143040 _ 32 rfl (by decide +kernel) (by decide) (by decide)
theorem fin9 (x : Nat) (hx : x < 2 ^ 32) (h : okL x [49, 49, 49, 48, 49, 48, 49, 48, 48, 49, 49, 48, 49, 49, 49, 49, 48, 48, 48, 48, 100, 100, 100, 100, 48, 48, 48, 48, 109, 109, 109, 109] = true) : fin 9 false (Stt.run x Stt.zero [49, 49, 49, 48, 49, 48, 49, 48, 48, 49, 49, 48, 49, 49, 49, 49, 48, 48, 48, 48, 100, 100, 100, 100, 48, 48, 48, 48, 109, 109, 109, 109]) = read 9 x := by
  rw [run9]
  have e_rd : 2 * (2 * (2 * (2 * (0) + bt x 11) + bt x 10) + bt x 9) + bt x 8 = pt x 8 4 := by rw [show pt x 8 4 = bt x 11 * 8 + bt x 10 * 4 + bt x 9 * 2 + bt x 8 * 1 from p4 x 8]; omega
  have e_rm : 2 * (2 * (2 * (2 * (0) + bt x 3) + bt x 2) + bt x 1) + bt x 0 = pt x 0 4 := by rw [show pt x 0 4 = bt x 3 * 8 + bt x 2 * 4 + bt x 1 * 2 + bt x 0 * 1 from p4 x 0]; omega
  rw [e_rd, e_rm]
  rfl
theorem run10 (x : Nat) : Stt.run x Stt.zero [49, 49, 49, 48, 49, 48, 49, 48, 48, 48, 48, 48, 110, 110, 110, 110, 48, 48, 48, 48, 100, 100, 100, 100, 48, 48, 48, 48, 109, 109, 109, 109] = ⟨2 * (2 * (2 * (2 * (0) + bt x 11) + bt x 10) + bt x 9) + bt x 8, 2 * (2 * (2 * (2 * (0) + bt x 19) + bt x 18) + bt x 17) + bt x 16, 2 * (2 * (2 * (2 * (0) + bt x 3) + bt x 2) + bt x 1) + bt x 0, 0, 0, 0, 0, 0, 0, 0⟩ := by kernel_rfl
theorem okl10 (x : Nat) (hx : x < 2 ^ 32) : okL x [49, 49, 49, 48, 49, 48, 49, 48, 48, 48, 48, 48, 110, 110, 110, 110, 48, 48, 48, 48, 100, 100, 100, 100, 48, 48, 48, 48, 109, 109, 109, 109] = hit x 4293980400 3925868544 := by
  exact okL_hit x 4293980400 3925868544 _ 32 rfl (by decide +kernel) (by decide) (by decide)
theorem fin10 (x : Nat) (hx : x < 2 ^ 32) (h : okL x [49, 49, 49, 48, 49, 48, 49, 48, 48, 48, 48, 48, 110, 110, 110, 110, 48, 48, 48, 48, 100, 100, 100, 100, 48, 48, 48, 48, 109, 109, 109, 109] = true) : fin 10 false (Stt.run x Stt.zero [49, 49, 49, 48, 49, 48, 49, 48, 48, 48, 48, 48, 110, 110, 110, 110, 48, 48, 48, 48, 100, 100, 100, 100, 48, 48, 48, 48, 109, 109, 109, 109]) = read 10 x := by
  rw [run10]
  have e_rd : 2 * (2 * (2 * (2 * (0) + bt x 11) + bt x 10) + bt x 9) + bt x 8 = pt x 8 4 := by rw [show pt x 8 4 = bt x 11 * 8 + bt x 10 * 4 + bt x 9 * 2 + bt x 8 * 1 from p4 x 8]; omega
  have e_rn : 2 * (2 * (2 * (2 * (0) + bt x 19) + bt x 18) + bt x 17) + bt x 16 = pt x 16 4 := by rw [show pt x 16 4 = bt x 19 * 8 + bt x 18 * 4 + bt x 17 * 2 + bt x 16 * 1 from p4 x 16]; omega
  have e_rm : 2 * (2 * (2 * (2 * (0) + bt x 3) + bt x 2) + bt x 1) + bt x 0 = pt x 0 4 := by rw [show pt x 0 4 = bt x 3 * 8 + bt x 2 * 4 + bt x 1 * 2 + bt x 0 * 1 from p4 x 0]; omega
  rw [e_rd, e_rn, e_rm]
  rfl
theorem run11 (x : Nat) : Stt.run x Stt.zero [49, 49, 49, 48, 49, 48, 49, 48, 48, 48, 49, 48, 110, 110, 110, 110, 48, 48, 48, 48, 100, 100, 100, 100, 48, 48, 48, 48, 109, 109, 109, 109] = ⟨2 * (2 * (2 * (2 * (0) + bt x 11) + bt x 10) + bt x 9) + bt x 8, 2 * (2 * (2 * (2 * (0) + bt x 19) + bt x 18) + bt x 17) + bt x 16, 2 * (2 * (2 * (2 * (0) + bt x 3) + bt x 2) + bt x 1) + bt x 0, 0, 0, 0, 0, 0, 0, 0⟩ := by kernel_rfl
theorem okl11 (x : Nat) (hx : x < 2 ^ 32) : okL x [49, 49, 49, 48, 49, 48, 49, 48, 48, 48, 49, 48, 110, 110, 110, 110, 48, 48, 48, 48, 100, 100, 100, 100, 48, 48, 48, 48, 109, 109, 109, 109] = hit x 4293980400 3927965696 := by
  exact okL_hit x 4293980400 3927965696 _ 32 rfl (by decide +kernel) (by decide) (by decide)
theorem fin11 (x : Nat) (hx : x < 2 ^ 32) (h : okL x [49, 49, 49, 48, 49, 48, 49, 48, 48, 48, 49, 48, 110, 110, 110, 110, 48, 48, 48, 48, 100, 100, 100, 100, 48, 48, 48, 48, 109, 109, 109, 109] = true) : fin 11 false (Stt.run x Stt.zero [49, 49, 49, 48, 49, 48, 49, 48, 48, 48, 49, 48, 110, 110, 110, 110, 48, 48, 48, 48, 100, 100, 100, 100, 48, 48, 48, 48, 109, 109, 109, 109]) = read 11 x := by
  rw [run11]
  have e_rd : 2 * (2 * (2 * (2 * (0) + bt x 11) + bt x 10) + bt x 9) + bt x 8 = pt x 8 4 := by rw [show pt x 8 4 = bt x 11 * 8 + bt x 10 * 4 + bt x 9 * 2 + bt x 8 * 1 from p4 x 8]; omega
  have e_rn : 2 * (2 * (2 * (2 * (0) + bt x 19) + bt x 18) + bt x 17) + bt x 16 = pt x 16 4 := by rw [show pt x 16 4 = bt x 19 * 8 + bt x 18 * 4 + bt x 17 * 2 + bt x 16 * 1 from p4 x 16]; omega
  have e_rm : 2 * (2 * (2 * (2 * (0) + bt x 3) + bt x 2) + bt x 1) + bt x 0 = pt x 0 4 := by rw [show pt x 0 4 = bt x 3 * 8 + bt x 2 * 4 + bt x 1 * 2 + bt x 0 * 1 from p4 x 0]; omega
  rw [e_rd, e_rn, e_rm]
  rfl
theorem run12 (x : Nat) : Stt.run x Stt.zero [49, 49, 49, 48, 49, 48, 49, 48, 48, 49, 48, 48, 110, 110, 110, 110, 48, 48, 48, 48, 100, 100, 100, 100, 48, 48, 48, 48, 109, 109, 109, 109] = ⟨2 * (2 * (2 * (2 * (0) + bt x 11) + bt x 10) + bt x 9) + bt x 8, 2 * (2 * (2 * (2 * (0) + bt x 19) + bt x 18) + bt x 17) + bt x 16, 2 * (2 * (2 * (2 * (0) + bt x 3) + bt x 2) + bt x 1) + bt x 0, 0, 0, 0, 0, 0, 0, 0⟩ := by kernel_rfl
theorem okl12 (x : Nat) (hx : x < 2 ^ 32) : okL x [49, 49, 49, 48, 49, 48, 49, 48, 48, 49, 48, 48, 110, 110, 110, 110, 48, 48, 48, 48, 100, 100, 100, 100, 48, 48, 48, 48, 109, 109, 109, 109] = hit x 4293980400 3930062848 := by
  exact okL_hit x 4293980400 3930062848 _ 32 rfl (by decide +kernel) (by decide) (by decide)
theorem fin12 (x : Nat) (hx : x < 2 ^ 32) (h : okL x [49, 49, 49, 48, 49, 48, 49, 48, 48, 49, 48, 48, 110, 110, 110, 110, 48, 48, 48, 48, 100, 100, 100, 100, 48, 48, 48, 48, 109, 109, 109, 109] = true) : fin 12 false (Stt.run x Stt.zero [49, 49, 49, 48, 49, 48, 49, 48, 48, 49, 48, 48, 110, 110, 110, 110, 48, 48, 48, 48, 100, 100, 100, 100, 48, 48, 48, 48, 109, 109, 109, 109]) = read 12 x := by
  rw [run12]
  have e_rd : 2 * (2 * (2 * (2 * (0) + bt x 11) + bt x 10) + bt x 9) + bt x 8 = pt x 8 4 := by rw [show pt x 8 4 = bt x 11 * 8 + bt x 10 * 4 + bt x 9 * 2 + bt x 8 * 1 from p4 x 8]; omega
  have e_rn : 2 * (2 * (2 * (2 * (0) + bt x 19) + bt x 18) + bt x 17) + bt x 16 = pt x 16 4 := by rw [show pt x 16 4 = bt x 19 * 8 + bt x 18 * 4 + bt x 17 * 2 + bt x 16 * 1 from p4 x 16]; omega
  have e_rm : 2 * (2 * (2 * (2 * (0) + bt x 3) + bt x 2) + bt x 1) + bt x 0 = pt x 0 4 := by rw [show pt x 0 4 = bt x 3 * 8 + bt x 2 * 4 + bt x 1 * 2 + bt x 0 * 1 from p4 x 0]; omega
  rw [e_rd, e_rn, e_rm]
  rfl
theorem run13 (x : Nat) : Stt.run x Stt.zero [49, 49, 49, 48, 49, 48, 49, 48, 49, 48, 48, 48, 110, 110, 110, 110, 48, 48, 48, 48, 100, 100, 100, 100, 48, 48, 48, 48, 109, 109, 109, 109] = ⟨2 * (2 * (2 * (2 * (0) + bt x 11) + bt x 10) + bt x 9) + bt x 8, 2 * (2 * (2 * (2 * (0) + bt x 19) + bt x 18) + bt x 17) + bt x 16, 2 * (2 * (2 * (2 * (0) + bt x 3) + bt x 2) + bt x 1) + bt x 0, 0, 0, 0, 0, 0, 0, 0⟩ := by kernel_rfl
theorem okl13 (x : Nat) (hx : x < 2 ^ 32) : okL x [49, 49, 49, 48, 49, 48, 49, 48, 49, 48, 48, 48, 110, 110, 110, 110, 48, 48, 48, 48, 100, 100, 100, 100, 48, 48, 48, 48, 109, 109, 109, 109] = hit x 4293980400 3934257152 := by
  exact okL_hit x 4293980400 3934257152 _ 32 rfl (by decide +kernel) (by decide) (by decide)
theorem fin13 (x : Nat) (hx : x < 2 ^ 32) (h : okL x [49, 49, 49, 48, 49, 48, 49, 48, 49, 48, 48, 48, 110, 110, 110, 110, 48, 48, 48, 48, 100, 100, 100, 100, 48, 48, 48, 48, 109, 109, 109, 109] = true) : fin 13 false (Stt.run x Stt.zero [49, 49, 49, 48, 49, 48, 49, 48, 49, 48, 48, 48, 110, 110, 110, 110, 48, 48, 48, 48, 100, 100, 100, 100, 48, 48, 48, 48, 109, 109, 109, 109]) = read 13 x := by
  rw [run13]
  have e_rd : 2 * (2 * (2 * (2 * (0) + bt x 11) + bt x 10) + bt x 9) + bt x 8 = pt x 8 4 := by rw [show pt x 8 4 = bt x 11 * 8 + bt x 10 * 4 + bt x 9 * 2 + bt x 8 * 1 from p4 x 8]; omega
  have e_rn : 2 * (2 * (2 * (2 * (0) + bt x 19) + bt x 18) + bt x 17) + bt x 16 = pt x 16 4 := by rw [show pt x 16 4 = bt x 19 * 8 + bt x 18 * 4 + bt x 17 * 2 + bt x 16 * 1 from p4 x 16]; omega
  have e_rm : 2 * (2 * (2 * (2 * (0) + bt x 3) + bt x 2) + bt x 1) + bt x 0 = pt x 0 4 := by rw [show pt x 0 4 = bt x 3 * 8 + bt x 2 * 4 + bt x 1 * 2 + bt x 0 * 1 from p4 x 0]; omega
  rw [e_rd, e_rn, e_rm]
  rfl
theorem run14 (x : Nat) : Stt.run x Stt.zero [49, 49, 49, 48, 49, 48, 49, 49, 48, 48, 48, 48, 110, 110, 110, 110, 48, 48, 48, 48, 100, 100, 100, 100, 48, 48, 48, 48, 109, 109, 109, 109] = ⟨2 * (2 * (2 * (2 * (0) + bt x 11) + bt x 10) + bt x 9) + bt x 8, 2 * (2 * (2 * (2 * (0) + bt x 19) + bt x 18) + bt x 17) + bt x 16, 2 * (2 * (2 * (2 * (0) + bt x 3) + bt x 2) + bt x 1) + bt x 0, 0, 0, 0, 0, 0, 0, 0⟩ := by kernel_rfl
theorem okl14 (x : Nat) (hx : x < 2 ^ 32) : okL x [49, 49, 49, 48, 49, 48, 49, 49, 48, 48, 48, 48, 110, 110, 110, 110, 48, 48, 48, 48, 100, 100, 100, 100, 48, 48, 48, 48, 109, 109, 109, 109] = hit x 4293980400 3942645760 := by
  exact okL_hit x 4293980400 3942645760 _ 32 rfl (by decide +kernel) (by decide) (by decide)
theorem fin14 (x : Nat) (hx : x < 2 ^ 32) (h : okL x [49, 49, 49, 48, 49, 48, 49, 49, 48, 48, 48, 48, 110, 110, 110, 110, 48, 48, 48, 48, 100, 100, 100, 100, 48, 48, 48, 48, 109, 109, 109, 109] = true) : fin 14 false (Stt.run x Stt.zero [49, 49, 49, 48, 49, 48, 49, 49, 48, 48, 48, 48, 110, 110, 110, 110, 48, 48, 48, 48, 100, 100, 100, 100, 48, 48, 48, 48, 109, 109, 109, 109]) = read 14 x := by
  rw [run14]
  have e_rd : 2 * (2 * (2 * (2 * (0) + bt x 11) + bt x 10) + bt x 9) + bt x 8 = pt x 8 4 := by rw [show pt x 8 4 = bt x 11 * 8 + bt x 10 * 4 + bt x 9 * 2 + bt x 8 * 1 from p4 x 8]; omega
  have e_rn : 2 * (2 * (2 * (2 * (0) + bt x 19) + bt x 18) + bt x 17) + bt x 16 = pt x 16 4 := by rw [show pt x 16 4 = bt x 19 * 8 + bt x 18 * 4 + bt x 17 * 2 + bt x 16 * 1 from p4 x 16]; omega
  have e_rm : 2 * (2 * (2 * (2 * (0) + bt x 3) + bt x 2) + bt x 1) + bt x 0 = pt x 0 4 := by rw [show pt x 0 4 = bt x 3 * 8 + bt x 2 * 4 + bt x 1 * 2 + bt x 0 * 1 from p4 x 0]; omega
  rw [e_rd, e_rn, e_rm]
  rfl
theorem run15 (x : Nat) : Stt.run x Stt.zero [49, 49, 49, 48, 49, 48, 49, 49, 49, 48, 49, 48, 110, 110, 110, 110, 48, 48, 48, 48, 100, 100, 100, 100, 48, 48, 48, 48, 109, 109, 109, 109] = ⟨2 * (2 * (2 * (2 * (0) + bt x 11) + bt x 10) + bt x 9) + bt x 8, 2 * (2 * (2 * (2 * (0) + bt x 19) + bt x 18) + bt x 17) + bt x 16, 2 * (2 * (2 * (2 * (0) + bt x 3) + bt x 2) + bt x 1) + bt x 0, 0, 0, 0, 0, 0, 0, 0⟩ := by kernel_rfl
theorem okl15 (x : Nat) (hx : x < 2 ^ 32) : okL x [49, 49, 49, 48, 49, 48, 49, 49, 49, 48, 49, 48, 110, 110, 110, 110, 48, 48, 48, 48, 100, 100, 100, 100, 48, 48, 48, 48, 109, 109, 109, 109] = hit x 4293980400 3953131520 := by
  exact okL_hit x 4293980400 3953131520 _ 32 rfl (by decide +kernel) (by decide) (by decide)
theorem fin15 (x : Nat) (hx : x < 2 ^ 32) (h : okL x [49, 49, 49, 48, 49, 48, 49, 49, 49, 48, 49, 48, 110, 110, 110, 110, 48, 48, 48, 48, 100, 100, 100, 100, 48, 48, 48, 48, 109, 109, 109, 109] = true) : fin 15 false (Stt.run x Stt.zero [49, 49, 49, 48, 49, 48, 49, 49, 49, 48, 49, 48, 110, 110, 110, 110, 48, 48, 48, 48, 100, 100, 100, 100, 48, 48, 48, 48, 109, 109, 109, 109]) = read 15 x := by
  rw [run15]
  have e_rd : 2 * (2 * (2 * (2 * (0) + bt x 11) + bt x 10) + bt x 9) + bt x 8 = pt x 8 4 := by rw [show pt x 8 4 = bt x 11 * 8 + bt x 10 * 4 + bt x 9 * 2 + bt x 8 * 1 from p4 x 8]; omega
  have e_rn : 2 * (2 * (2 * (2 * (0) + bt x 19) + bt x 18) + bt x 17) + bt x 16 = pt x 16 4 := by rw [show pt x 16 4 = bt x 19 * 8 + bt x 18 * 4 + bt x 17 * 2 + bt x 16 * 1 from p4 x 16]; omega
  have e_rm : 2 * (2 * (2 * (2 * (0) + bt x 3) + bt x 2) + bt x 1) + bt x 0 = pt x 0 4 := by rw [show pt x 0 4 = bt x 3 * 8 + bt x 2 * 4 + bt x 1 * 2 + bt x 0 * 1 from p4 x 0]; omega
  rw [e_rd, e_rn, e_rm]
  rfl
theorem run16 (x : Nat) : Stt.run x Stt.zero [49, 49, 49, 49, 49, 48, 49, 49, 48, 48, 48, 48, 110, 110, 110, 110, 49, 49, 49, 49, 100, 100, 100, 100, 48, 48, 48, 48, 109, 109, 109, 109] = ⟨2 * (2 * (2 * (2 * (0) + bt x 11) + bt x 10) + bt x 9) + bt x 8, 2 * (2 * (2 * (2 * (0) + bt x 19) + bt x 18) + bt x 17) + bt x 16, 2 * (2 * (2 * (2 * (0) + bt x 3) + bt x 2) + bt x 1) + bt x 0, 0, 0, 0, 0, 0, 0, 0⟩ := by kernel_rfl
theorem okl16 (x : Nat) (hx : x < 2 ^ 32) : okL x [49, 49, 49, 49, 49, 48, 49, 49, 48, 48, 48, 48, 110, 110, 110, 110, 49, 49, 49, 49, 100, 100, 100, 100, 48, 48, 48, 48, 109, 109, 109, 109] = hit x 4293980400 4211142656 := by
  exact okL_hit x 4293980400 4211142656 _ 32 rfl (by decide +kernel) (by decide) (by decide)
theorem fin16 (x : Nat) (hx : x < 2 ^ 32) (h : okL x [49, 49, 49, 49, 49, 48, 49, 49, 48, 48, 48, 48, 110, 110, 110, 110, 49, 49, 49, 49, 100, 100, 100, 100, 48, 48, 48, 48, 109, 109, 109, 109] = true) : fin 16 false (Stt.run x Stt.zero [49, 49, 49, 49, 49, 48, 49, 49, 48, 48, 48, 48, 110, 110, 110, 110, 49, 49, 49, 49, 100, 100, 100, 100, 48, 48, 48, 48, 109, 109, 109, 109]) = read 16 x := by
  rw [run16]
  have e_rd : 2 * (2 * (2 * (2 * (0) + bt x 11) + bt x 10) + bt x 9) + bt x 8 = pt x 8 4 := by rw [show pt x 8 4 = bt x 11 * 8 + bt x 10 * 4 + bt x 9 * 2 + bt x 8 * 1 from p4 x 8]; omega
  have e_rn : 2 * (2 * (2 * (2 * (0) + bt x 19) + bt x 18) + bt x 17) + bt x 16 = pt x 16 4 := by rw [show pt x 16 4 = bt x 19 * 8 + bt x 18 * 4 + bt x 17 * 2 + bt x 16 * 1 from p4 x 16]; omega
  have e_rm : 2 * (2 * (2 * (2 * (0) + bt x 3) + bt x 2) + bt x 1) + bt x 0 = pt x 0 4 := by rw [show pt x 0 4 = bt x 3 * 8 + bt x 2 * 4 + bt x 1 * 2 + bt x 0 * 1 from p4 x 0]; omega
  rw [e_rd, e_rn, e_rm]
  rfl
theorem run17 (x : Nat) : Stt.run x Stt.zero [49, 49, 49, 49, 49, 48, 49, 49, 49, 48, 49, 48, 110, 110, 110, 110, 100, 100, 100, 100, 97, 97, 97, 97, 48, 48, 48, 48, 109, 109, 109, 109] = ⟨2 * (2 * (2 * (2 * (0) + bt x 15) + bt x 14) + bt x 13) + bt x 12, 2 * (2 * (2 * (2 * (0) + bt x 19) + bt x 18) + bt x 17) + bt x 16, 2 * (2 * (2 * (2 * (0) + bt x 3) + bt x 2) + bt x 1) + bt x 0, 2 * (2 * (2 * (2 * (0) + bt x 11) + bt x 10) + bt x 9) + bt x 8, 0, 0, 0, 0, 0, 0⟩ := by kernel_rfl
theorem okl17 (x : Nat) (hx : x < 2 ^ 32) : okL x [49, 49, 49, 49, 49, 48, 49, 49, 49, 48, 49, 48, 110, 110, 110, 110, 100, 100, 100, 100, 97, 97, 97, 97, 48, 48, 48, 48, 109, 109, 109, 109] = hit x 4293918960 4221566976 := by
  exact okL_hit x 4293918960 4221566976 _ 32 rfl (by decide +kernel) (by decide) (by decide)
theorem fin17 (x : Nat) (hx : x < 2 ^ 32) (h : okL x [49, 49, 49, 49, 49, 48, 49, 49, 49, 48, 49, 48, 110, 110, 110, 110, 100, 100, 100, 100, 97, 97, 97, 97, 48, 48, 48, 48, 109, 109, 109, 109] = true) : fin 17 false (Stt.run x Stt.zero [49, 49, 49, 49, 49, 48, 49, 49, 49, 48, 49, 48, 110, 110, 110, 110, 100, 100, 100, 100, 97, 97, 97, 97, 48, 48, 48, 48, 109, 109, 109, 109]) = read 17 x := by
  rw [run17]
  have e_rd : 2 * (2 * (2 * (2 * (0) + bt x 15) + bt x 14) + bt x 13) + bt x 12 = pt x 12 4 := by rw [show pt x 12 4 = bt x 15 * 8 + bt x 14 * 4 + bt x 13 * 2 + bt x 12 * 1 from p4 x 12]; omega
  have e_ra : 2 * (2 * (2 * (2 * (0) + bt x 11) + bt x 10) + bt x 9) + bt x 8 = pt x 8 4 := by rw [show pt x 8 4 = bt x 11 * 8 + bt x 10 * 4 + bt x 9 * 2 + bt x 8 * 1 from p4 x 8]; omega
  have e_rn : 2 * (2 * (2 * (2 * (0) + bt x 19) + bt x 18) + bt x 17) + bt x 16 = pt x 16 4 := by rw [show pt x 16 4 = bt x 19 * 8 + bt x 18 * 4 + bt x 17 * 2 + bt x 16 * 1 from p4 x 16]; omega
  have e_rm : 2 * (2 * (2 * (2 * (0) + bt x 3) + bt x 2) + bt x 1) + bt x 0 = pt x 0 4 := by rw [show pt x 0 4 = bt x 3 * 8 + bt x 2 * 4 + bt x 1 * 2 + bt x 0 * 1 from p4 x 0]; omega
  rw [e_rd, e_ra, e_rn, e_rm]
  rfl
theorem run18 (x : Nat) : Stt.run x Stt.zero [49, 49, 49, 49, 48, 48, 49, 49, 48, 49, 49, 48, 110, 110, 110, 110, 48, 69, 68, 67, 100, 100, 100, 100, 66, 65, 48, 119, 119, 119, 119, 119] = ⟨2 * (2 * (2 * (2 * (0) + bt x 11) + bt x 10) + bt x 9) + bt x 8, 2 * (2 * (2 * (2 * (0) + bt x 19) + bt x 18) + bt x 17) + bt x 16, 0, 0, 0 + bt x 14 * 16 + bt x 13 * 8 + bt x 12 * 4 + bt x 7 * 2 + bt x 6 * 1, 0, 2 * (2 * (2 * (2 * (2 * (0) + bt x 4) + bt x 3) + bt x 2) + bt x 1) + bt x 0, 0, 0, 0⟩ := by kernel_rfl
theorem okl18 (x : Nat) (hx : x < 2 ^ 32) : okL x [49, 49, 49, 49, 48, 48, 49, 49, 48, 49, 49, 48, 110, 110, 110, 110, 48, 69, 68, 67, 100, 100, 100, 100, 66, 65, 48, 119, 119, 119, 119, 119] = hit x 4293951520 4083154944 := by
  exact okL_hit x 4293951520 4083154944 _ 32 rfl (by decide +kernel) (by decide) (by decide)
theorem fin18 (x : Nat) (hx : x < 2 ^ 32) (h : okL x [49, 49, 49, 49, 48, 48, 49, 49, 48, 49, 49, 48, 110, 110, 110, 110, 48, 69, 68, 67, 100, 100, 100, 100, 66, 65, 48, 119, 119, 119, 119, 119] = true) : fin 18 false (Stt.run x Stt.zero [49, 49, 49, 49, 48, 48, 49, 49, 48, 49, 49, 48, 110, 110, 110, 110, 48, 69, 68, 67, 100, 100, 100, 100, 66, 65, 48, 119, 119, 119, 119, 119]) = read 18 x := by
  rw [run18]
  have e_rd : 2 * (2 * (2 * (2 * (0) + bt x 11) + bt x 10) + bt x 9) + bt x 8 = pt x 8 4 := by rw [show pt x 8 4 = bt x 11 * 8 + bt x 10 * 4 + bt x 9 * 2 + bt x 8 * 1 from p4 x 8]; omega
  have e_rn : 2 * (2 * (2 * (2 * (0) + bt x 19) + bt x 18) + bt x 17) + bt x 16 = pt x 16 4 := by rw [show pt x 16 4 = bt x 19 * 8 + bt x 18 * 4 + bt x 17 * 2 + bt x 16 * 1 from p4 x 16]; omega
  have g0 : ∀ A : Nat, A + bt x 14 * 16 + bt x 13 * 8 + bt x 12 * 4 = A + pt x 12 3 * 4 := by
    intro A
    rw [show pt x 12 3 = bt x 14 * 4 + bt x 13 * 2 + bt x 12 * 1 from p3 x 12]
    omega
  have g1 : ∀ A : Nat, A + bt x 7 * 2 + bt x 6 * 1 = A + pt x 6 2 * 1 := by
    intro A
    rw [show pt x 6 2 = bt x 7 * 2 + bt x 6 * 1 from p2 x 6]
    omega
  have e_imm : 0 + bt x 14 * 16 + bt x 13 * 8 + bt x 12 * 4 + bt x 7 * 2 + bt x 6 * 1 = shift x := by
    rw [g0, g1]
    unfold shift; omega
  have e_w : 2 * (2 * (2 * (2 * (2 * (0) + bt x 4) + bt x 3) + bt x 2) + bt x 1) + bt x 0 = pt x 0 5 := by rw [show pt x 0 5 = bt x 4 * 16 + bt x 3 * 8 + bt x 2 * 4 + bt x 1 * 2 + bt x 0 * 1 from p5 x 0]; omega
  rw [e_rd, e_rn, e_imm, e_w]
  rfl
theorem run19 (x : Nat) : Stt.run x Stt.zero [48, 49, 49, 48, 49, 48, 48, 48, 48, 48, 110, 110, 110, 100, 100, 100] = ⟨2 * (2 * (2 * (0) + bt x 2) + bt x 1) + bt x 0, 2 * (2 * (2 * (0) + bt x 5) + bt x 4) + bt x 3, 0, 0, 0, 0, 0, 0, 0, 0⟩ := by kernel_rfl
theorem okl19 (x : Nat) (hx : x < 2 ^ 16) : okL x [48, 49, 49, 48, 49, 48, 48, 48, 48, 48, 110, 110, 110, 100, 100, 100] = hit x 4294967232 26624 := by
  rw [hit_low x 4294967232 26624 16 65472 hx (by decide)]
  exact okL_hit x 65472 26624 _ 16 rfl (by decide +kernel) (by decide) (by decide)
theorem fin19 (x : Nat) (hx : x < 2 ^ 16) (h : okL x [48, 49, 49, 48, 49, 48, 48, 48, 48, 48, 110, 110, 110, 100, 100, 100] = true) : fin 19 false (Stt.run x Stt.zero [48, 49, 49, 48, 49, 48, 48, 48, 48, 48, 110, 110, 110, 100, 100, 100]) = read 19 x := by
  rw [run19]
  have e_rd : 2 * (2 * (2 * (0) + bt x 2) + bt x 1) + bt x 0 = pt x 0 3 := by rw [show pt x 0 3 = bt x 2 * 4 + bt x 1 * 2 + bt x 0 * 1 from p3 x 0]; omega
  have e_rn : 2 * (2 * (2 * (0) + bt x 5) + bt x 4) + bt x 3 = pt x 3 3 := by rw [show pt x 3 3 = bt x 5 * 4 + bt x 4 * 2 + bt x 3 * 1 from p3 x 3]; omega
  rw [e_rd, e_rn]
  rfl
theorem run20 (x : Nat) : Stt.run x Stt.zero [48, 49, 49, 48, 48, 48, 48, 48, 48, 48, 110, 110, 110, 100, 100, 100] = ⟨2 * (2 * (2 * (0) + bt x 2) + bt x 1) + bt x 0, 2 * (2 * (2 * (0) + bt x 5) + bt x 4) + bt x 3, 0, 0, 0, 0, 0, 0, 0, 0⟩ := by kernel_rfl
theorem okl20 (x : Nat) (hx : x < 2 ^ 16) : okL x [48, 49, 49, 48, 48, 48, 48, 48, 48, 48, 110, 110, 110, 100, 100, 100] = hit x 4294967232 24576 := by
  rw [hit_low x 4294967232 24576 16 65472 hx (by decide)]
  exact okL_hit x 65472 24576 _ 16 rfl (by decide +kernel) (by decide) (by decide)
theorem fin20 (x : Nat) (hx : x < 2 ^ 16) (h : okL x [48, 49, 49, 48, 48, 48, 48, 48, 48, 48, 110, 110, 110, 100, 100, 100] = true) : fin 20 false (Stt.run x Stt.zero [48, 49, 49, 48, 48, 48, 48, 48, 48, 48, 110, 110, 110, 100, 100, 100]) = read 20 x := by
  rw [run20]
  have e_rd : 2 * (2 * (2 * (0) + bt x 2) + bt x 1) + bt x 0 = pt x 0 3 := by rw [show pt x 0 3 = bt x 2 * 4 + bt x 1 * 2 + bt x 0 * 1 from p3 x 0]; omega
  have e_rn : 2 * (2 * (2 * (0) + bt x 5) + bt x 4) + bt x 3 = pt x 3 3 := by rw [show pt x 3 3 = bt x 5 * 4 + bt x 4 * 2 + bt x 3 * 1 from p3 x 3]; omega
  rw [e_rd, e_rn]
  rfl
theorem run21 (x : Nat) : Stt.run x Stt.zero [48, 49, 49, 49, 49, 48, 48, 48, 48, 48, 110, 110, 110, 100, 100, 100] = ⟨2 * (2 * (2 * (0) + bt x 2) + bt x 1) + bt x 0, 2 * (2 * (2 * (0) + bt x 5) + bt x 4) + bt x 3, 0, 0, 0, 0, 0, 0, 0, 0⟩ := by kernel_rfl
theorem okl21 (x : Nat) (hx : x < 2 ^ 16) : okL x [48, 49, 49, 49, 49, 48, 48, 48, 48, 48, 110, 110, 110, 100, 100, 100] = hit x 4294967232 30720 := by
  rw [hit_low x 4294967232 30720 16 65472 hx (by decide)]
  exact okL_hit x 65472 30720 _ 16 rfl (by decide +kernel) (by decide) (by decide)
theorem fin21 (x : Nat) (hx : x < 2 ^ 16) (h : okL x [48, 49, 49, 49, 49, 48, 48, 48, 48, 48, 110, 110, 110, 100, 100, 100] = true) : fin 21 false (Stt.run x Stt.zero [48, 49, 49, 49, 49, 48, 48, 48, 48, 48, 110, 110, 110, 100, 100, 100]) = read 21 x := by
  rw [run21]
  have e_rd : 2 * (2 * (2 * (0) + bt x 2) + bt x 1) + bt x 0 = pt x 0 3 := by rw [show pt x 0 3 = bt x 2 * 4 + bt x 1 * 2 + bt x 0 * 1 from p3 x 0]; omega
  have e_rn : 2 * (2 * (2 * (0) + bt x 5) + bt x 4) + bt x 3 = pt x 3 3 := by rw [show pt x 3 3 = bt x 5 * 4 + bt x 4 * 2 + bt x 3 * 1 from p3 x 3]; omega
  rw [e_rd, e_rn]
  rfl
theorem run22 (x : Nat) : Stt.run x Stt.zero [48, 49, 49, 49, 48, 48, 48, 48, 48, 48, 110, 110, 110, 100, 100, 100] = ⟨2 * (2 * (2 * (0) + bt x 2) + bt x 1) + bt x 0, 2 * (2 * (2 * (0) + bt x 5) + bt x 4) + bt x 3, 0, 0, 0, 0, 0, 0, 0, 0⟩ := by kernel_rfl
theorem okl22 (x : Nat) (hx : x < 2 ^ 16) : okL x [48, 49, 49, 49, 48, 48, 48, 48, 48, 48, 110, 110, 110, 100, 100, 100] = hit x 4294967232 28672 := by
  rw [hit_low x 4294967232 28672 16 65472 hx (by decide)]
  exact okL_hit x 65472 28672 _ 16 rfl (by decide +kernel) (by decide) (by decide)
theorem fin22 (x : Nat) (hx : x < 2 ^ 16) (h : okL x [48, 49, 49, 49, 48, 48, 48, 48, 48, 48, 110, 110, 110, 100, 100, 100] = true) : fin 22 false (Stt.run x Stt.zero [48, 49, 49, 49, 48, 48, 48, 48, 48, 48, 110, 110, 110, 100, 100, 100]) = read 22 x := by
  rw [run22]
  have e_rd : 2 * (2 * (2 * (0) + bt x 2) + bt x 1) + bt x 0 = pt x 0 3 := by rw [show pt x 0 3 = bt x 2 * 4 + bt x 1 * 2 + bt x 0 * 1 from p3 x 0]; omega
  have e_rn : 2 * (2 * (2 * (0) + bt x 5) + bt x 4) + bt x 3 = pt x 3 3 := by rw [show pt x 3 3 = bt x 5 * 4 + bt x 4 * 2 + bt x 3 * 1 from p3 x 3]; omega
  rw [e_rd, e_rn]
  rfl
theorem run23 (x : Nat) : Stt.run x Stt.zero [48, 49, 48, 48, 48, 48, 49, 48, 49, 48, 109, 109, 109, 110, 110, 110] = ⟨0, 2 * (2 * (2 * (0) + bt x 2) + bt x 1) + bt x 0, 2 * (2 * (2 * (0) + bt x 5) + bt x 4) + bt x 3, 0, 0, 0, 0, 0, 0, 0⟩ := by kernel_rfl
theorem okl23 (x : Nat) (hx : x < 2 ^ 16) : okL x [48, 49, 48, 48, 48, 48, 49, 48, 49, 48, 109, 109, 109, 110, 110, 110] = hit x 4294967232 17024 := by
  rw [hit_low x 4294967232 17024 16 65472 hx (by decide)]
  exact okL_hit x 65472 17024 _ 16 rfl (by decide +kernel) (by decide) (by decide)
theorem fin23 (x : Nat) (hx : x < 2 ^ 16) (h : okL x [48, 49, 48, 48, 48, 48, 49, 48, 49, 48, 109, 109, 109, 110, 110, 110] = true) : fin 23 false (Stt.run x Stt.zero [48, 49, 48, 48, 48, 48, 49, 48, 49, 48, 109, 109, 109, 110, 110, 110]) = read 23 x := by
  rw [run23]
  have e_rn : 2 * (2 * (2 * (0) + bt x 2) + bt x 1) + bt x 0 = pt x 0 3 := by rw [show pt x 0 3 = bt x 2 * 4 + bt x 1 * 2 + bt x 0 * 1 from p3 x 0]; omega
  have e_rm : 2 * (2 * (2 * (0) + bt x 5) + bt x 4) + bt x 3 = pt x 3 3 := by rw [show pt x 3 3 = bt x 5 * 4 + bt x 4 * 2 + bt x 3 * 1 from p3 x 3]; omega
  rw [e_rn, e_rm]
  rfl
theorem run24n (x : Nat) : Stt.run x Stt.zero [49, 49, 49, 48, 48, 76, 75, 74, 73, 72, 71, 70, 69, 68, 67, 66] = ⟨0, 0, 0, 0, 0 + bt x 10 * 2048 + bt x 9 * 1024 + bt x 8 * 512 + bt x 7 * 256 + bt x 6 * 128 + bt x 5 * 64 + bt x 4 * 32 + bt x 3 * 16 + bt x 2 * 8 + bt x 1 * 4 + bt x 0 * 2, 0, 0, 0, 0, 0⟩ := by kernel_rfl
theorem okl24n (x : Nat) (hx : x < 2 ^ 16) : okL x [49, 49, 49, 48, 48, 76, 75, 74, 73, 72, 71, 70, 69, 68, 67, 66] = hit x 4294965248 57344 := by
  rw [hit_low x 4294965248 57344 16 63488 hx (by decide)]
  exact okL_hit x 63488 57344 _ 16 rfl (by decide +kernel) (by decide) (by decide)
theorem fin24n (x : Nat) (hx : x < 2 ^ 16) (h : okL x [49, 49, 49, 48, 48, 76, 75, 74, 73, 72, 71, 70, 69, 68, 67, 66] = true) : fin 24 false (Stt.run x Stt.zero [49, 49, 49, 48, 48, 76, 75, 74, 73, 72, 71, 70, 69, 68, 67, 66]) = read 24 x := by
  rw [run24n]
  have hw : ¬ 65536 ≤ x := Nat.not_le.2 hx
  rw [rd24n x hw]
  have g0 : ∀ A : Nat, A + bt x 10 * 2048 + bt x 9 * 1024 + bt x 8 * 512 + bt x 7 * 256 + bt x 6 * 128 + bt x 5 * 64 + bt x 4 * 32 + bt x 3 * 16 + bt x 2 * 8 + bt x 1 * 4 + bt x 0 * 2 = A + pt x 0 11 * 2 := by
    intro A
    rw [show pt x 0 11 = bt x 10 * 1024 + bt x 9 * 512 + bt x 8 * 256 + bt x 7 * 128 + bt x 6 * 64 + bt x 5 * 32 + bt x 4 * 16 + bt x 3 * 8 + bt x 2 * 4 + bt x 1 * 2 + bt x 0 * 1 from p11 x 0]
    omega
  have e_imm : 0 + bt x 10 * 2048 + bt x 9 * 1024 + bt x 8 * 512 + bt x 7 * 256 + bt x 6 * 128 + bt x 5 * 64 + bt x 4 * 32 + bt x 3 * 16 + bt x 2 * 8 + bt x 1 * 4 + bt x 0 * 2 = b24n x := by
    rw [g0]
    unfold b24n
    omega
  rw [e_imm]
  rw [← sgn_signed _ 11 2048 (by decide), fin_24n]
  rfl
theorem run24w (x : Nat) : Stt.run x Stt.zero [49, 49, 49, 49, 48, 89, 86, 85, 84, 83, 82, 81, 80, 79, 78, 77, 49, 48, 120, 49, 121, 76, 75, 74, 73, 72, 71, 70, 69, 68, 67, 66] = ⟨0, 0, 0, 0, 0 + bt x 26 * 16777216 + bt x 25 * 2097152 + bt x 24 * 1048576 + bt x 23 * 524288 + bt x 22 * 262144 + bt x 21 * 131072 + bt x 20 * 65536 + bt x 19 * 32768 + bt x 18 * 16384 + bt x 17 * 8192 + bt x 16 * 4096 + bt x 10 * 2048 + bt x 9 * 1024 + bt x 8 * 512 + bt x 7 * 256 + bt x 6 * 128 + bt x 5 * 64 + bt x 4 * 32 + bt x 3 * 16 + bt x 2 * 8 + bt x 1 * 4 + bt x 0 * 2, 0, 0, bt x 13, bt x 11, bt x 26⟩ := by kernel_rfl
theorem okl24w (x : Nat) (hx : x < 2 ^ 32) : okL x [49, 49, 49, 49, 48, 89, 86, 85, 84, 83, 82, 81, 80, 79, 78, 77, 49, 48, 120, 49, 121, 76, 75, 74, 73, 72, 71, 70, 69, 68, 67, 66] = hit x 4160802816 4026568704 := by
  exact okL_hit x 4160802816 4026568704 _ 32 rfl (by decide +kernel) (by decide) (by decide)
theorem fin24w (x : Nat) (hx : x < 2 ^ 32) (h : okL x [49, 49, 49, 49, 48, 89, 86, 85, 84, 83, 82, 81, 80, 79, 78, 77, 49, 48, 120, 49, 121, 76, 75, 74, 73, 72, 71, 70, 69, 68, 67, 66] = true) : fin 24 true (Stt.run x Stt.zero [49, 49, 49, 49, 48, 89, 86, 85, 84, 83, 82, 81, 80, 79, 78, 77, 49, 48, 120, 49, 121, 76, 75, 74, 73, 72, 71, 70, 69, 68, 67, 66]) = read 24 x := by
  rw [run24w]
  have hw : 65536 ≤ x := Nat.le_trans (by decide) (hit_ge x 4160802816 4026568704 (by rw [← okl24w x hx]; exact h))
  rw [rd24w x hw]
  have a1 : pt x 26 1 = bt x 26 * 1 := p1 x 26
  have a2 : pt x 13 1 = bt x 13 * 1 := p1 x 13
  have a3 : pt x 11 1 = bt x 11 * 1 := p1 x 11
  have g0 : ∀ A : Nat, A + bt x 26 * 16777216 = A + pt x 26 1 * 16777216 := by
    intro A
    rw [show pt x 26 1 = bt x 26 * 1 from p1 x 26]
    omega
  have g1 : ∀ A : Nat, A + bt x 25 * 2097152 + bt x 24 * 1048576 + bt x 23 * 524288 + bt x 22 * 262144 + bt x 21 * 131072 + bt x 20 * 65536 + bt x 19 * 32768 + bt x 18 * 16384 + bt x 17 * 8192 + bt x 16 * 4096 = A + pt x 16 10 * 4096 := by
    intro A
    rw [show pt x 16 10 = bt x 25 * 512 + bt x 24 * 256 + bt x 23 * 128 + bt x 22 * 64 + bt x 21 * 32 + bt x 20 * 16 + bt x 19 * 8 + bt x 18 * 4 + bt x 17 * 2 + bt x 16 * 1 from p10 x 16]
    omega
  have g2 : ∀ A : Nat, A + bt x 10 * 2048 + bt x 9 * 1024 + bt x 8 * 512 + bt x 7 * 256 + bt x 6 * 128 + bt x 5 * 64 + bt x 4 * 32 + bt x 3 * 16 + bt x 2 * 8 + bt x 1 * 4 + bt x 0 * 2 = A + pt x 0 11 * 2 := by
    intro A
    rw [show pt x 0 11 = bt x 10 * 1024 + bt x 9 * 512 + bt x 8 * 256 + bt x 7 * 128 + bt x 6 * 64 + bt x 5 * 32 + bt x 4 * 16 + bt x 3 * 8 + bt x 2 * 4 + bt x 1 * 2 + bt x 0 * 1 from p11 x 0]
    omega
  have e_imm : 0 + bt x 26 * 16777216 + bt x 25 * 2097152 + bt x 24 * 1048576 + bt x 23 * 524288 + bt x 22 * 262144 + bt x 21 * 131072 + bt x 20 * 65536 + bt x 19 * 32768 + bt x 18 * 16384 + bt x 17 * 8192 + bt x 16 * 4096 + bt x 10 * 2048 + bt x 9 * 1024 + bt x 8 * 512 + bt x 7 * 256 + bt x 6 * 128 + bt x 5 * 64 + bt x 4 * 32 + bt x 3 * 16 + bt x 2 * 8 + bt x 1 * 4 + bt x 0 * 2 + alike (bt x 13) (bt x 26) * 8388608 + alike (bt x 11) (bt x 26) * 4194304 = b24w x := by
    rw [g0, g1, g2]
    unfold b24w
    rw [a1, a2, a3, Nat.mul_one, Nat.mul_one, Nat.mul_one]
    generalize alike (bt x 13) (bt x 26) = A
    generalize alike (bt x 11) (bt x 26) = B
    generalize pt x 16 10 = C
    generalize pt x 0 11 = D
    generalize bt x 26 = E
    omega
  rw [fin_24u _ _ _ _ (bt_lt _ _) (bt_lt _ _) (bt_lt _ _), e_imm]
theorem run25n (x : Nat) : Stt.run x Stt.zero [49, 49, 48, 49, 99, 99, 99, 99, 73, 72, 71, 70, 69, 68, 67, 66] = ⟨0, 0, 0, 0, 0 + bt x 7 * 256 + bt x 6 * 128 + bt x 5 * 64 + bt x 4 * 32 + bt x 3 * 16 + bt x 2 * 8 + bt x 1 * 4 + bt x 0 * 2, 2 * (2 * (2 * (2 * (0) + bt x 11) + bt x 10) + bt x 9) + bt x 8, 0, 0, 0, 0⟩ := by kernel_rfl
theorem okl25n (x : Nat) (hx : x < 2 ^ 16) : okL x [49, 49, 48, 49, 99, 99, 99, 99, 73, 72, 71, 70, 69, 68, 67, 66] = hit x 4294963200 53248 := by
  rw [hit_low x 4294963200 53248 16 61440 hx (by decide)]
  exact okL_hit x 61440 53248 _ 16 rfl (by decide +kernel) (by decide) (by decide)
theorem fin25n (x : Nat) (hx : x < 2 ^ 16) (h : okL x [49, 49, 48, 49, 99, 99, 99, 99, 73, 72, 71, 70, 69, 68, 67, 66] = true) : fin 25 false (Stt.run x Stt.zero [49, 49, 48, 49, 99, 99, 99, 99, 73, 72, 71, 70, 69, 68, 67, 66]) = read 25 x := by
  rw [run25n]
  have hw : ¬ 65536 ≤ x := Nat.not_le.2 hx
  rw [rd25n x hw]
  have g0 : ∀ A : Nat, A + bt x 7 * 256 + bt x 6 * 128 + bt x 5 * 64 + bt x 4 * 32 + bt x 3 * 16 + bt x 2 * 8 + bt x 1 * 4 + bt x 0 * 2 = A + pt x 0 8 * 2 := by
    intro A
    rw [show pt x 0 8 = bt x 7 * 128 + bt x 6 * 64 + bt x 5 * 32 + bt x 4 * 16 + bt x 3 * 8 + bt x 2 * 4 + bt x 1 * 2 + bt x 0 * 1 from p8 x 0]
    omega
  have e_imm : 0 + bt x 7 * 256 + bt x 6 * 128 + bt x 5 * 64 + bt x 4 * 32 + bt x 3 * 16 + bt x 2 * 8 + bt x 1 * 4 + bt x 0 * 2 = b25n x := by
    rw [g0]
    unfold b25n
    omega
  have e_cond : 2 * (2 * (2 * (2 * (0) + bt x 11) + bt x 10) + bt x 9) + bt x 8 = pt x 8 4 := by rw [show pt x 8 4 = bt x 11 * 8 + bt x 10 * 4 + bt x 9 * 2 + bt x 8 * 1 from p4 x 8]; omega
  rw [e_imm, e_cond]
  rw [← sgn_signed _ 8 256 (by decide), fin_25n]
  rfl
theorem run25w (x : Nat) : Stt.run x Stt.zero [49, 49, 49, 49, 48, 85, 99, 99, 99, 99, 82, 81, 80, 79, 78, 77, 49, 48, 83, 48, 84, 76, 75, 74, 73, 72, 71, 70, 69, 68, 67, 66] = ⟨0, 0, 0, 0, 0 + bt x 26 * 1048576 + bt x 21 * 131072 + bt x 20 * 65536 + bt x 19 * 32768 + bt x 18 * 16384 + bt x 17 * 8192 + bt x 16 * 4096 + bt x 13 * 262144 + bt x 11 * 524288 + bt x 10 * 2048 + bt x 9 * 1024 + bt x 8 * 512 + bt x 7 * 256 + bt x 6 * 128 + bt x 5 * 64 + bt x 4 * 32 + bt x 3 * 16 + bt x 2 * 8 + bt x 1 * 4 + bt x 0 * 2, 2 * (2 * (2 * (2 * (0) + bt x 25) + bt x 24) + bt x 23) + bt x 22, 0, 0, 0, 0⟩ := by kernel_rfl
theorem okl25w (x : Nat) (hx : x < 2 ^ 32) : okL x [49, 49, 49, 49, 48, 85, 99, 99, 99, 99, 82, 81, 80, 79, 78, 77, 49, 48, 83, 48, 84, 76, 75, 74, 73, 72, 71, 70, 69, 68, 67, 66] = hit x 4160802816 4026564608 := by
  exact okL_hit x 4160802816 4026564608 _ 32 rfl (by decide +kernel) (by decide) (by decide)
theorem fin25w (x : Nat) (hx : x < 2 ^ 32) (h : okL x [49, 49, 49, 49, 48, 85, 99, 99, 99, 99, 82, 81, 80, 79, 78, 77, 49, 48, 83, 48, 84, 76, 75, 74, 73, 72, 71, 70, 69, 68, 67, 66] = true) : fin 25 true (Stt.run x Stt.zero [49, 49, 49, 49, 48, 85, 99, 99, 99, 99, 82, 81, 80, 79, 78, 77, 49, 48, 83, 48, 84, 76, 75, 74, 73, 72, 71, 70, 69, 68, 67, 66]) = read 25 x := by
  rw [run25w]
  have hw : 65536 ≤ x := Nat.le_trans (by decide) (hit_ge x 4160802816 4026564608 (by rw [← okl25w x hx]; exact h))
  rw [rd25w x hw]
  have g0 : ∀ A : Nat, A + bt x 26 * 1048576 = A + pt x 26 1 * 1048576 := by
    intro A
    rw [show pt x 26 1 = bt x 26 * 1 from p1 x 26]
    omega
  have g1 : ∀ A : Nat, A + bt x 21 * 131072 + bt x 20 * 65536 + bt x 19 * 32768 + bt x 18 * 16384 + bt x 17 * 8192 + bt x 16 * 4096 = A + pt x 16 6 * 4096 := by
    intro A
    rw [show pt x 16 6 = bt x 21 * 32 + bt x 20 * 16 + bt x 19 * 8 + bt x 18 * 4 + bt x 17 * 2 + bt x 16 * 1 from p6 x 16]
    omega
  have g2 : ∀ A : Nat, A + bt x 13 * 262144 = A + pt x 13 1 * 262144 := by
    intro A
    rw [show pt x 13 1 = bt x 13 * 1 from p1 x 13]
    omega
  have g3 : ∀ A : Nat, A + bt x 11 * 524288 = A + pt x 11 1 * 524288 := by
    intro A
    rw [show pt x 11 1 = bt x 11 * 1 from p1 x 11]
    omega
  have g4 : ∀ A : Nat, A + bt x 10 * 2048 + bt x 9 * 1024 + bt x 8 * 512 + bt x 7 * 256 + bt x 6 * 128 + bt x 5 * 64 + bt x 4 * 32 + bt x 3 * 16 + bt x 2 * 8 + bt x 1 * 4 + bt x 0 * 2 = A + pt x 0 11 * 2 := by
    intro A
    rw [show pt x 0 11 = bt x 10 * 1024 + bt x 9 * 512 + bt x 8 * 256 + bt x 7 * 128 + bt x 6 * 64 + bt x 5 * 32 + bt x 4 * 16 + bt x 3 * 8 + bt x 2 * 4 + bt x 1 * 2 + bt x 0 * 1 from p11 x 0]
    omega
  have e_imm : 0 + bt x 26 * 1048576 + bt x 21 * 131072 + bt x 20 * 65536 + bt x 19 * 32768 + bt x 18 * 16384 + bt x 17 * 8192 + bt x 16 * 4096 + bt x 13 * 262144 + bt x 11 * 524288 + bt x 10 * 2048 + bt x 9 * 1024 + bt x 8 * 512 + bt x 7 * 256 + bt x 6 * 128 + bt x 5 * 64 + bt x 4 * 32 + bt x 3 * 16 + bt x 2 * 8 + bt x 1 * 4 + bt x 0 * 2 = b25w x := by
    rw [g0, g1, g2, g3, g4]
    unfold b25w
    omega
  have e_cond : 2 * (2 * (2 * (2 * (0) + bt x 25) + bt x 24) + bt x 23) + bt x 22 = pt x 22 4 := by rw [show pt x 22 4 = bt x 25 * 8 + bt x 24 * 4 + bt x 23 * 2 + bt x 22 * 1 from p4 x 22]; omega
  rw [e_imm, e_cond]
  rw [← sgn_signed _ 20 1048576 (by decide), fin_25w]
  rfl
theorem there_of (i : Ins) (h : check i = 0) : there i = true := by
  have := back i h
  rw [this.1] at this
  exact this.2
/-- bits that the document takes for an instruction are just that one for the program -/
theorem sure (x m b : Nat) (op : Int) (wide : Bool) (L : List UInt8) (hk : okL x L = hit x m b) (hf : okL x L = true → fin op wide (Stt.run x Stt.zero L) = read op x) (hA : hit x m b = true → there (read op x) = true → check (read op x) = 0 ∧ num (read op x) = x)
    (h : rok op wide x L = true) : read (find x) x = rins op wide x L ∧ there (read (find x) x) = true := by
  unfold rok at h
  rw [Bool.and_eq_true, beq_iff_eq] at h
  obtain ⟨h1, h2⟩ := h
  rw [(rins_good h1).1]
  rw [hf h1] at h2 ⊢
  have hn := (hA (by rw [← hk]; exact h1) (there_of _ h2)).2
  have hb := back _ h2
  rw [hn] at hb
  exact hb
theorem sure' (x m b : Nat) (op : Int) (wide : Bool) (L : List UInt8) (hk : okL x L = hit x m b) (hf : okL x L = true → fin op wide (Stt.run x Stt.zero L) = read op x) (hh : hit x m b = true) (hc : check (read op x) = 0) : rok op wide x L = true := by
  rw [← hk] at hh
  unfold rok
  rw [hh, hf hh, hc]
  rfl
theorem size_wide (op : Int) (h : ¬ op = 24 ∧ ¬ op = 25) : rbits op true = ⟨#[]⟩ := by
  unfold rbits
  rw [if_pos rfl, if_neg (by simpa using h.1), if_neg (by simpa using h.2)]
/-- whatever row fits -/
theorem rsure (op : Int) (wide : Bool) (x n : Nat) (hn : (rbits op wide).size = n) (h0 : ¬ n = 0) (hx : x < 2 ^ n) (h : rok op wide x (rbits op wide).data.toList = true) : read (find x) x = rins op wide x (rbits op wide).data.toList ∧ there (read (find x) x) = true := by
  have hr : 1 ≤ op ∧ op ≤ 25 := by
    by_cases hr : 1 ≤ op ∧ op ≤ 25
    · exact hr
    · rw [Th.rbits_no op wide hr] at hn
      exact absurd hn.symm h0
  have hx32 : n ≤ 32 → x < 4294967296 := fun hle => Nat.lt_of_lt_of_le hx (Nat.pow_le_pow_right (n := 2) (by decide) hle)
  cases wide with
  | true =>
    by_cases h24 : op = 24
    · subst h24
      obtain rfl : n = 32 := hn.symm
      exact sure x _ _ 24 true _ (okl24w x hx) (fin24w x hx) (rowA24w x (hx32 (by decide))) h
    · by_cases h25 : op = 25
      · subst h25
        obtain rfl : n = 32 := hn.symm
        exact sure x _ _ 25 true _ (okl25w x hx) (fin25w x hx) (rowA25w x (hx32 (by decide))) h
      · rw [size_wide op ⟨h24, h25⟩] at hn
        exact absurd hn.symm h0
  | false =>
    rcases Th.op_cases hr with rfl | rfl | rfl | rfl | rfl | rfl | rfl | rfl | rfl | rfl | rfl | rfl | rfl | rfl | rfl | rfl | rfl | rfl | rfl | rfl | rfl | rfl | rfl | rfl | rfl
    · obtain rfl : n = 16 := hn.symm
      exact sure x _ _ 1 false _ (okl1 x hx) (fin1 x hx) (rowA1 x (hx32 (by decide))) h
    · obtain rfl : n = 16 := hn.symm
      exact sure x _ _ 2 false _ (okl2 x hx) (fin2 x hx) (rowA2 x (hx32 (by decide))) h
    · obtain rfl : n = 32 := hn.symm
      exact sure x _ _ 3 false _ (okl3 x hx) (fin3 x hx) (rowA3 x (hx32 (by decide))) h
    · obtain rfl : n = 32 := hn.symm
      exact sure x _ _ 4 false _ (okl4 x hx) (fin4 x hx) (rowA4 x (hx32 (by decide))) h
    · obtain rfl : n = 32 := hn.symm
      exact sure x _ _ 5 false _ (okl5 x hx) (fin5 x hx) (rowA5 x (hx32 (by decide))) h
    · obtain rfl : n = 32 := hn.symm
      exact sure x _ _ 6 false _ (okl6 x hx) (fin6 x hx) (rowA6 x (hx32 (by decide))) h
    · obtain rfl : n = 32 := hn.symm
      exact sure x _ _ 7 false _ (okl7 x hx) (fin7 x hx) (rowA7 x (hx32 (by decide))) h
    · obtain rfl : n = 32 := hn.symm
      exact sure x _ _ 8 false _ (okl8 x hx) (fin8 x hx) (rowA8 x (hx32 (by decide))) h
    · obtain rfl : n = 32 := hn.symm
      exact sure x _ _ 9 false _ (okl9 x hx) (fin9 x hx) (rowA9 x (hx32 (by decide))) h
    · obtain rfl : n = 32 := hn.symm
      exact sure x _ _ 10 false _ (okl10 x hx) (fin10 x hx) (rowA10 x (hx32 (by decide))) h
    · obtain rfl : n = 32 := hn.symm
      exact sure x _ _ 11 false _ (okl11 x hx) (fin11 x hx) (rowA11 x (hx32 (by decide))) h
    · obtain rfl : n = 32 := hn.symm
      exact sure x _ _ 12 false _ (okl12 x hx) (fin12 x hx) (rowA12 x (hx32 (by decide))) h
    · obtain rfl : n = 32 := hn.symm
      exact sure x _ _ 13 false _ (okl13 x hx) (fin13 x hx) (rowA13 x (hx32 (by decide))) h
    · obtain rfl : n = 32 := hn.symm
      exact sure x _ _ 14 false _ (okl14 x hx) (fin14 x hx) (rowA14 x (hx32 (by decide))) h
    · obtain rfl : n = 32 := hn.symm
      exact sure x _ _ 15 false _ (okl15 x hx) (fin15 x hx) (rowA15 x (hx32 (by decide))) h
    · obtain rfl : n = 32 := hn.symm
      exact sure x _ _ 16 false _ (okl16 x hx) (fin16 x hx) (rowA16 x (hx32 (by decide))) h
    · obtain rfl : n = 32 := hn.symm
      exact sure x _ _ 17 false _ (okl17 x hx) (fin17 x hx) (rowA17 x (hx32 (by decide))) h
    · obtain rfl : n = 32 := hn.symm
      exact sure x _ _ 18 false _ (okl18 x hx) (fin18 x hx) (rowA18 x (hx32 (by decide))) h
    · obtain rfl : n = 16 := hn.symm
      exact sure x _ _ 19 false _ (okl19 x hx) (fin19 x hx) (rowA19 x (hx32 (by decide))) h
    · obtain rfl : n = 16 := hn.symm
      exact sure x _ _ 20 false _ (okl20 x hx) (fin20 x hx) (rowA20 x (hx32 (by decide))) h
    · obtain rfl : n = 16 := hn.symm
      exact sure x _ _ 21 false _ (okl21 x hx) (fin21 x hx) (rowA21 x (hx32 (by decide))) h
    · obtain rfl : n = 16 := hn.symm
      exact sure x _ _ 22 false _ (okl22 x hx) (fin22 x hx) (rowA22 x (hx32 (by decide))) h
    · obtain rfl : n = 16 := hn.symm
      exact sure x _ _ 23 false _ (okl23 x hx) (fin23 x hx) (rowA23 x (hx32 (by decide))) h
    · obtain rfl : n = 16 := hn.symm
      exact sure x _ _ 24 false _ (okl24n x hx) (fin24n x hx) (rowA24n x (hx32 (by decide))) h
    · obtain rfl : n = 16 := hn.symm
      exact sure x _ _ 25 false _ (okl25n x hx) (fin25n x hx) (rowA25n x (hx32 (by decide))) h
theorem hit_narrow (x m b M : Nat) (hm : m = M + 4294901760) (hM : M < 65536) (hb : b < 65536) (hx : x < 4294967296) (h : hit x m b = true) : x < 65536 := by
  have h1 : pt x 16 16 = b / 2 ^ 16 % 2 ^ 16 := run_of x m b 16 16 _ 65535 (by unfold hit at h; rw [beq_iff_eq] at h; exact h) (by decide) (by subst hm; omega) rfl
  unfold pt at h1
  omega
/-- some row fits, if the program knows the bits -/
theorem rsome (x n : Nat) (hx : x < 4294967296) (hn : (n = 16 ∧ x < 65536) ∨ (n = 32 ∧ 65536 ≤ x)) (h : there (read (find x) x) = true) :
    ∃ (op : Nat) (wide : Bool), 1 ≤ op ∧ op ≤ 25 ∧ (rbits op wide).size = n ∧ rok op wide x (rbits op wide).data.toList = true := by
  have hs := (sound x hx h).1
  have hlt : x < 2 ^ 32 := hx
  rcases findIn_spec x rows with h0 | ⟨r, hr, hh, he⟩
  · exfalso
    have : find x = 0 := h0
    rw [this] at hs
    have hop := Th.op_range hs
    have e0 : (read 0 x).op = 0 := rfl
    omega
  · have he' : find x = r.1 := he
    rw [he'] at hs
    have hr' := hr
    unfold rows at hr'
    simp only [List.mem_cons, List.not_mem_nil, or_false] at hr'
    rcases hr' with rfl | rfl | rfl | rfl | rfl | rfl | rfl | rfl | rfl | rfl | rfl | rfl | rfl | rfl | rfl | rfl | rfl | rfl | rfl | rfl | rfl | rfl | rfl | rfl | rfl | rfl | rfl
    · have hlo := hit_narrow x 4294967295 48896 65535 (by decide) (by decide) (by decide) hx hh
      obtain rfl : n = 16 := by omega
      exact ⟨1, false, by decide, by decide, rfl, sure' x _ _ 1 false _ (okl1 x hlo) (fin1 x hlo) hh hs⟩
    · have hlo := hit_narrow x 4294967040 48640 65280 (by decide) (by decide) (by decide) hx hh
      obtain rfl : n = 16 := by omega
      exact ⟨2, false, by decide, by decide, rfl, sure' x _ _ 2 false _ (okl2 x hlo) (fin2 x hlo) hh hs⟩
    · have hhi := Nat.le_trans (by decide : 65536 ≤ 4064280576) (hit_ge x _ _ hh)
      obtain rfl : n = 32 := by omega
      exact ⟨3, false, by decide, by decide, rfl, sure' x _ _ 3 false _ (okl3 x hlt) (fin3 x hlt) hh hs⟩
    · have hhi := Nat.le_trans (by decide : 65536 ≤ 4072669184) (hit_ge x _ _ hh)
      obtain rfl : n = 32 := by omega
      exact ⟨4, false, by decide, by decide, rfl, sure' x _ _ 4 false _ (okl4 x hlt) (fin4 x hlt) hh hs⟩
    · have hhi := Nat.le_trans (by decide : 65536 ≤ 3931045888) (hit_ge x _ _ hh)
      obtain rfl : n = 32 := by omega
      exact ⟨5, false, by decide, by decide, rfl, sure' x _ _ 5 false _ (okl5 x hlt) (fin5 x hlt) hh hs⟩
    · have hhi := Nat.le_trans (by decide : 65536 ≤ 3931045904) (hit_ge x _ _ hh)
      obtain rfl : n = 32 := by omega
      exact ⟨6, false, by decide, by decide, rfl, sure' x _ _ 6 false _ (okl6 x hlt) (fin6 x hlt) hh hs⟩
    · have hhi := Nat.le_trans (by decide : 65536 ≤ 3931045920) (hit_ge x _ _ hh)
      obtain rfl : n = 32 := by omega
      exact ⟨7, false, by decide, by decide, rfl, sure' x _ _ 7 false _ (okl7 x hlt) (fin7 x hlt) hh hs⟩
    · have hhi := Nat.le_trans (by decide : 65536 ≤ 3931045936) (hit_ge x _ _ hh)
      obtain rfl : n = 32 := by omega
      exact ⟨8, false, by decide, by decide, rfl, sure' x _ _ 8 false _ (okl8 x hlt) (fin8 x hlt) hh hs⟩
    · have hhi := Nat.le_trans (by decide : 65536 ≤ 3933143040) (hit_ge x _ _ hh)
      obtain rfl : n = 32 := by omega
      exact ⟨9, false, by decide, by decide, rfl, sure' x _ _ 9 false _ (okl9 x hlt) (fin9 x hlt) hh hs⟩
    · have hhi := Nat.le_trans (by decide : 65536 ≤ 3925868544) (hit_ge x _ _ hh)
      obtain rfl : n = 32 := by omega
      exact ⟨10, false, by decide, by decide, rfl, sure' x _ _ 10 false _ (okl10 x hlt) (fin10 x hlt) hh hs⟩
    · have hhi := Nat.le_trans (by decide : 65536 ≤ 3927965696) (hit_ge x _ _ hh)
      obtain rfl : n = 32 := by omega
      exact ⟨11, false, by decide, by decide, rfl, sure' x _ _ 11 false _ (okl11 x hlt) (fin11 x hlt) hh hs⟩
    · have hhi := Nat.le_trans (by decide : 65536 ≤ 3930062848) (hit_ge x _ _ hh)
      obtain rfl : n = 32 := by omega
      exact ⟨12, false, by decide, by decide, rfl, sure' x _ _ 12 false _ (okl12 x hlt) (fin12 x hlt) hh hs⟩
    · have hhi := Nat.le_trans (by decide : 65536 ≤ 3934257152) (hit_ge x _ _ hh)
      obtain rfl : n = 32 := by omega
      exact ⟨13, false, by decide, by decide, rfl, sure' x _ _ 13 false _ (okl13 x hlt) (fin13 x hlt) hh hs⟩
    · have hhi := Nat.le_trans (by decide : 65536 ≤ 3942645760) (hit_ge x _ _ hh)
      obtain rfl : n = 32 := by omega
      exact ⟨14, false, by decide, by decide, rfl, sure' x _ _ 14 false _ (okl14 x hlt) (fin14 x hlt) hh hs⟩
    · have hhi := Nat.le_trans (by decide : 65536 ≤ 3953131520) (hit_ge x _ _ hh)
      obtain rfl : n = 32 := by omega
      exact ⟨15, false, by decide, by decide, rfl, sure' x _ _ 15 false _ (okl15 x hlt) (fin15 x hlt) hh hs⟩
    · have hhi := Nat.le_trans (by decide : 65536 ≤ 4211142656) (hit_ge x _ _ hh)
      obtain rfl : n = 32 := by omega
      exact ⟨16, false, by decide, by decide, rfl, sure' x _ _ 16 false _ (okl16 x hlt) (fin16 x hlt) hh hs⟩
    · have hhi := Nat.le_trans (by decide : 65536 ≤ 4221566976) (hit_ge x _ _ hh)
      obtain rfl : n = 32 := by omega
      exact ⟨17, false, by decide, by decide, rfl, sure' x _ _ 17 false _ (okl17 x hlt) (fin17 x hlt) hh hs⟩
    · have hhi := Nat.le_trans (by decide : 65536 ≤ 4083154944) (hit_ge x _ _ hh)
      obtain rfl : n = 32 := by omega
      exact ⟨18, false, by decide, by decide, rfl, sure' x _ _ 18 false _ (okl18 x hlt) (fin18 x hlt) hh hs⟩
    · have hlo := hit_narrow x 4294967232 26624 65472 (by decide) (by decide) (by decide) hx hh
      obtain rfl : n = 16 := by omega
      exact ⟨19, false, by decide, by decide, rfl, sure' x _ _ 19 false _ (okl19 x hlo) (fin19 x hlo) hh hs⟩
    · have hlo := hit_narrow x 4294967232 24576 65472 (by decide) (by decide) (by decide) hx hh
      obtain rfl : n = 16 := by omega
      exact ⟨20, false, by decide, by decide, rfl, sure' x _ _ 20 false _ (okl20 x hlo) (fin20 x hlo) hh hs⟩
    · have hlo := hit_narrow x 4294967232 30720 65472 (by decide) (by decide) (by decide) hx hh
      obtain rfl : n = 16 := by omega
      exact ⟨21, false, by decide, by decide, rfl, sure' x _ _ 21 false _ (okl21 x hlo) (fin21 x hlo) hh hs⟩
    · have hlo := hit_narrow x 4294967232 28672 65472 (by decide) (by decide) (by decide) hx hh
      obtain rfl : n = 16 := by omega
      exact ⟨22, false, by decide, by decide, rfl, sure' x _ _ 22 false _ (okl22 x hlo) (fin22 x hlo) hh hs⟩
    · have hlo := hit_narrow x 4294967232 17024 65472 (by decide) (by decide) (by decide) hx hh
      obtain rfl : n = 16 := by omega
      exact ⟨23, false, by decide, by decide, rfl, sure' x _ _ 23 false _ (okl23 x hlo) (fin23 x hlo) hh hs⟩
    · have hlo := hit_narrow x 4294965248 57344 63488 (by decide) (by decide) (by decide) hx hh
      obtain rfl : n = 16 := by omega
      exact ⟨24, false, by decide, by decide, rfl, sure' x _ _ 24 false _ (okl24n x hlo) (fin24n x hlo) hh hs⟩
    · have hhi := Nat.le_trans (by decide : 65536 ≤ 4026568704) (hit_ge x _ _ hh)
      obtain rfl : n = 32 := by omega
      exact ⟨24, true, by decide, by decide, rfl, sure' x _ _ 24 true _ (okl24w x hlt) (fin24w x hlt) hh hs⟩
    · have hlo := hit_narrow x 4294963200 53248 61440 (by decide) (by decide) (by decide) hx hh
      obtain rfl : n = 16 := by omega
      exact ⟨25, false, by decide, by decide, rfl, sure' x _ _ 25 false _ (okl25n x hlo) (fin25n x hlo) hh hs⟩
    · have hhi := Nat.le_trans (by decide : 65536 ≤ 4026564608) (hit_ge x _ _ hh)
      obtain rfl : n = 32 := by omega
      exact ⟨25, true, by decide, by decide, rfl, sure' x _ _ 25 true _ (okl25w x hlt) (fin25w x hlt) hh hs⟩
end Go.Proofs.Ytplfpaffjaldoaa.De
end
