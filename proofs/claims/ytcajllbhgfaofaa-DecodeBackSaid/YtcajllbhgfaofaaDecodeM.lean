/-
  Plain mathematics of bytes as instructions: what the calls of package decode tell, as functions on numbers. It names nothing of the translated program.
-/
import Derived.Test.YtcajllbhgfaofaaThumbM7
namespace Go.Proofs.Ytcajllbhgfaofaa.De
open Go.RowKit

def byt (s : ByteArray) (k : Nat) : Nat := if h : k < s.size then s[k].toNat else 0
theorem byt_eq (s : ByteArray) (k : Nat) (h : k < s.size) : s[k].toNat = byt s k := by unfold byt; rw [dif_pos h]
theorem byt_lt (s : ByteArray) (k : Nat) : byt s k < 256 := by unfold byt; split; exact UInt8.toNat_lt _; decide
/-- the k-th 16 bits of bytes -/
def half (s : ByteArray) (k : Nat) : Nat := byt s (2 * k) + 256 * byt s (2 * k + 1)
theorem half_lt (s : ByteArray) (k : Nat) : half s k < 65536 := by unfold half; have := byt_lt s (2 * k); have := byt_lt s (2 * k + 1); omega
def size (s : ByteArray) : Nat := if s.size < 2 then 0 else if half s 0 < 59392 then 2 else 4
/-- the bits of an instruction of so many bytes -/
def word (s : ByteArray) (n : Nat) : Nat := if n = 4 then half s 0 * 65536 + half s 1 else half s 0
theorem word_lt (s : ByteArray) (n : Nat) : word s n < 4294967296 := by
  unfold word; have := half_lt s 0; have := half_lt s 1; split <;> omega
/-- so many bits from one on -/
def pt (w f c : Nat) : Nat := w / 2 ^ f % 2 ^ c
theorem pt_lt (w f c : Nat) : pt w f c < 2 ^ c := Nat.mod_lt _ (Nat.two_pow_pos c)
def hit (w m b : Nat) : Bool := (w &&& m) == b
def rows : List (Int × Nat × Nat) :=
  [(1, 4294967295, 48896), (2, 4294967040, 48640), (3, 4226842624, 4064280576), (4, 4226842624, 4072669184), (5, 4294934576, 3931045888), (6, 4294934576, 3931045904), (7, 4294934576, 3931045920), (8, 4294934576, 3931045936), (9, 4294963440, 3933143040), (10, 4293980400, 3925868544), (11, 4293980400, 3927965696), (12, 4293980400, 3930062848), (13, 4293980400, 3934257152), (14, 4293980400, 3942645760), (15, 4293980400, 3953131520), (16, 4293980400, 4211142656), (17, 4293918960, 4221566976), (18, 4293951520, 4083154944), (19, 4294967232, 26624), (20, 4294967232, 24576), (21, 4294967232, 30720), (22, 4294967232, 28672), (23, 4294967232, 17024), (24, 4294965248, 57344), (24, 4160802816, 4026568704), (25, 4294963200, 53248), (25, 4160802816, 4026564608)]
def findIn (w : Nat) : List (Int × Nat × Nat) → Int
  | [] => 0
  | r :: l => if hit w r.2.1 r.2.2 then r.1 else findIn w l
def find (w : Nat) : Int := findIn w rows
def shift (w : Nat) : Nat := pt w 12 3 * 4 + pt w 6 2
def alike (a b : Nat) : Nat := if a = b then 1 else 0
def signed (n c : Nat) : Int := if n < 2 ^ (c - 1) then (n : Int) else (n : Int) - 2 ^ c
def imm16 (x : Nat) : Nat := pt x 16 4 * 4096 + pt x 26 1 * 2048 + pt x 12 3 * 256 + pt x 0 8
def b24w (x : Nat) : Nat := pt x 26 1 * 16777216 + alike (pt x 13 1) (pt x 26 1) * 8388608 + alike (pt x 11 1) (pt x 26 1) * 4194304 + pt x 16 10 * 4096 + pt x 0 11 * 2
def b24n (x : Nat) : Nat := pt x 0 11 * 2
def b25w (x : Nat) : Nat := pt x 26 1 * 1048576 + pt x 11 1 * 524288 + pt x 13 1 * 262144 + pt x 16 6 * 4096 + pt x 0 11 * 2
def b25n (x : Nat) : Nat := pt x 0 8 * 2
theorem alike_lt (a b : Nat) : alike a b < 2 := by unfold alike; split <;> decide
open Th (Ins none0)
def readB (op : Int) (w : Nat) : Ins :=
  if op == 24 then
    (if 65536 ≤ w then { none0 with op := op, wide := true, imm := signed (b24w w) 25 }
     else { none0 with op := op, imm := signed (b24n w) 12 })
  else
    (if 65536 ≤ w then { none0 with op := op, wide := true, cond := pt w 22 4, imm := signed (b25w w) 21 }
     else { none0 with op := op, cond := pt w 8 4, imm := signed (b25n w) 9 })
def read (op : Int) (w : Nat) : Ins :=
  if op == 2 then { none0 with op := op, imm := pt w 0 8 }
  else if op == 3 || op == 4 then { none0 with op := op, rd := pt w 8 4, imm := imm16 w }
  else if op == 5 || op == 6 || op == 7 || op == 8 then { none0 with op := op, rd := pt w 8 4, rm := pt w 0 4, imm := shift w }
  else if op == 9 then { none0 with op := op, rd := pt w 8 4, rm := pt w 0 4 }
  else if op == 10 || op == 11 || op == 12 || op == 13 || op == 14 || op == 15 || op == 16 then { none0 with op := op, rd := pt w 8 4, rn := pt w 16 4, rm := pt w 0 4 }
  else if op == 17 then { none0 with op := op, rd := pt w 12 4, ra := pt w 8 4, rn := pt w 16 4, rm := pt w 0 4 }
  else if op == 18 then { none0 with op := op, rd := pt w 8 4, rn := pt w 16 4, imm := shift w, ra := (pt w 0 5 : Int) + 1 - shift w }
  else if op == 19 || op == 20 || op == 21 || op == 22 then { none0 with op := op, rd := pt w 0 3, rn := pt w 3 3 }
  else if op == 23 then { none0 with op := op, rn := pt w 0 3, rm := pt w 3 3 }
  else if op == 24 || op == 25 then readB op w
  else { none0 with op := op }
def there (i : Ins) : Bool :=
  if decide (12 < i.rd) || decide (12 < i.rn) || decide (12 < i.rm) || decide (13 < i.cond) then false
  else if i.op == 0 then false
  else if i.op == 6 || i.op == 7 || i.op == 8 then decide (1 ≤ i.imm)
  else if i.op == 17 then decide (i.ra ≤ 12) && i.ra != i.rd
  else if i.op == 18 then decide (1 ≤ i.ra)
  else true
/-- what bytes are: an instruction, how many bytes it has, and the error -/
def told (s : ByteArray) : Ins := read (find (word s (size s))) (word s (size s))
def err (s : ByteArray) : Int := if size s = 0 ∨ s.size < size s then 3 else if there (told s) then 0 else 7
def ins (s : ByteArray) : Ins := if err s = 0 then told s else none0
def len (s : ByteArray) : Nat := if err s = 0 then size s else 0

theorem and_u32 (x m : Nat) (hx : x < 4294967296) (hm : m < 4294967296) : bits .and .u32 (x : Int) (m : Int) = ((x &&& m : Nat) : Int) := by
  show IntKind.u32.wrap ((BitVec.ofInt 32 (x : Int) &&& BitVec.ofInt 32 (m : Int)).toNat : Int) = _
  have e : ∀ y : Nat, y < 4294967296 → (BitVec.ofInt 32 (y : Int)).toNat = y := fun y hy => by
    rw [BitVec.toNat_ofInt]; omega
  have hl : x &&& m < 2 ^ 32 := Nat.and_lt_two_pow _ hm
  rw [BitVec.toNat_and, e x hx, e m hm, IntKind.wrap_u32]
  omega
theorem or_u32 (x m : Nat) (hx : x < 4294967296) (hm : m < 4294967296) : bits .or .u32 (x : Int) (m : Int) = ((x ||| m : Nat) : Int) := by
  show IntKind.u32.wrap ((BitVec.ofInt 32 (x : Int) ||| BitVec.ofInt 32 (m : Int)).toNat : Int) = _
  have e : ∀ y : Nat, y < 4294967296 → (BitVec.ofInt 32 (y : Int)).toNat = y := fun y hy => by
    rw [BitVec.toNat_ofInt]; omega
  have hl : x ||| m < 2 ^ 32 := Nat.or_lt_two_pow hx hm
  rw [BitVec.toNat_or, e x hx, e m hm, IntKind.wrap_u32]
  omega
end Go.Proofs.Ytcajllbhgfaofaa.De
