/-
  Plain mathematics of layer 5: sizes, regions and accesses. It names nothing of the translated program.
-/
import Derived.WalkKit
import Derived.Laws.Bits64
namespace Go.Proofs.Ytpfljdcahhhggaa
open Go.RowKit
set_option linter.unusedVariables false

/-- a region -/
structure Mm.Rg where
  base : Int
  len : Int
  write : Bool
def Mm.whole (n : Int) : Bool := decide (0 ≤ n) && (n % 4 == 0)
/-- the error of sizes -/
def Mm.err (i o r f : Int) : Int :=
  if Mm.whole i && Mm.whole o && Mm.whole r && decide (0 ≤ f) && decide (4 ≤ r) then (if i ≤ 65536 ∧ o ≤ 65536 ∧ r ≤ 65536 ∧ f ≤ 262144 then 0 else 5) else 2
def Mm.seven (i o r f : Int) : List Mm.Rg :=
  [⟨0, f, false⟩, ⟨536936448, i, true⟩, ⟨537001984, o, true⟩, ⟨537133056, r, true⟩, ⟨537395200, r, true⟩, ⟨537919488, 4, true⟩, ⟨538968064, 4, true⟩]
def Mm.regs (i o r f : Int) : List Mm.Rg := if Mm.err i o r f = 0 then Mm.seven i o r f else []
/-- whether a region has all of n bytes from a on -/
def Mm.has (g : Mm.Rg) (a n : Int) : Bool := decide (g.base ≤ a ∧ n ≤ g.len ∧ a - g.base ≤ g.len - n)
/-- the place of the first one that has them, from k on -/
def Mm.look (a n : Int) (wr : Bool) : List Mm.Rg → Int → Int × Int
  | [], _ => (0, 8)
  | g :: L, k => if Mm.has g a n then (if wr && !g.write then (0, 8) else (k, 0)) else Mm.look a n wr L (k + 1)
def Mm.find (L : List Mm.Rg) (a n : Int) (wr : Bool) : Int × Int :=
  if n ≠ 1 ∧ n ≠ 4 then (0, 2) else if Int.tmod a n ≠ 0 then (0, 8) else Mm.look a n wr L 0
end Go.Proofs.Ytpfljdcahhhggaa
