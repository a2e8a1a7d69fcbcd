/-
  No cell of these rows narrows 'for every input' (looked for: loops, veiled, ifaces, maps, wideKeys, modest, calm, conditions, laid).
  DERIVED. THE GIVEN ROWS OF THIS SEAT. 4 by the template 'for every input the law returns true; each argument reads behind the call as it read before'; 0 by the template 'total and deterministic' (their statements: YtmhhljbhbhlefaaTotals.lean).
  GIVEN WITH THE SEED: the statements are not yours to turn. If you find one false, say at which input.
  Laid BY PROGRAM, IN A SANDBOX (cutbox-rows.mjs): the forced cells as the released guide's own fill.sh prints them over the translation 8de28795a3e6f382… (all of the seat's roots in one cut). By AI agents, Wed Nov 11 2026. No macro, syntax, notation, axiom, sorry.
-/
import Derived.Test.YtmhhljbhbhlefaaChecked
import GoSem.Claim
import GoSem.ClaimJoined
import GoSem.ClaimMapViews
import Derived.JoinedTies
import Derived.KernelRfl
namespace Go.Proofs.Ytmhhljbhbhlefaa
/- THE CELL 'sum', in the pinned program and in every row, IS THE sha256 OF THE DUMP (.gsa) THAT YtmhhljbhbhlefaaProg.lean LOADS. Nothing in Lean hashes anything: it is a label: what it is worth is what the hold of that sum in a sandbox is worth. -/
noncomputable def Try.pinned : Pinned := { name := "ytmhhljbhbhlefaa", sum := "8de28795a3e6f382ffb3f4a950b754fc93fdd964b9de2fa97350882f3a2efaab", checked := Try.checked }
namespace Rows
def none {H : Type} : Left H := { results := [], args := [] }

/-- 'hauberklaw05.MemmapRegions': WHATEVER THE INPUT: true; the input reads as it did. -/
def memmapRegionsSpec : ChangeSpec := { name := "memmapRegions", fn := fun _ => fun
  | [d1, d2] => { results := [.lit (.bool true)], args := [d1, d2] }
  | _ => none }
def memmapRegionsRow : OpenClaim := { program := "ytmhhljbhbhlefaa", sum := "8de28795a3e6f382ffb3f4a950b754fc93fdd964b9de2fa97350882f3a2efaab", func := "hauberk/hauberklaw05.MemmapRegions", spec := "memmapRegions", apart := false }
def MemmapRegionsSaid : Prop := memmapRegionsRow.holds Try.pinned (OpenSpec.ofChange memmapRegionsSpec)

/-- ITS FALSE NEIGHBOUR: 'it returns false'. Refute it at one input. -/
def memmapRegionsWrong : ChangeSpec := { name := "memmapRegions", fn := fun _ => fun
  | [d1, d2] => { results := [.lit (.bool false)], args := [d1, d2] }
  | _ => none }
def MemmapRegionsWrongFalsely : Prop := memmapRegionsRow.holds Try.pinned (OpenSpec.ofChange memmapRegionsWrong)

/-- 'hauberklaw05.MemmapFinds': WHATEVER THE INPUT: true; the input reads as it did. -/
def memmapFindsSpec : ChangeSpec := { name := "memmapFinds", fn := fun _ => fun
  | [d1, d2, d3, d4] => { results := [.lit (.bool true)], args := [d1, d2, d3, d4] }
  | _ => none }
def memmapFindsRow : OpenClaim := { program := "ytmhhljbhbhlefaa", sum := "8de28795a3e6f382ffb3f4a950b754fc93fdd964b9de2fa97350882f3a2efaab", func := "hauberk/hauberklaw05.MemmapFinds", spec := "memmapFinds", apart := false }
def MemmapFindsSaid : Prop := memmapFindsRow.holds Try.pinned (OpenSpec.ofChange memmapFindsSpec)

/-- ITS FALSE NEIGHBOUR: 'it returns false'. Refute it at one input. -/
def memmapFindsWrong : ChangeSpec := { name := "memmapFinds", fn := fun _ => fun
  | [d1, d2, d3, d4] => { results := [.lit (.bool false)], args := [d1, d2, d3, d4] }
  | _ => none }
def MemmapFindsWrongFalsely : Prop := memmapFindsRow.holds Try.pinned (OpenSpec.ofChange memmapFindsWrong)

/-- 'hauberklaw05.MemmapFar': WHATEVER THE INPUT: true; the input reads as it did. -/
def memmapFarSpec : ChangeSpec := { name := "memmapFar", fn := fun _ => fun
  | [d1, d2, d3, d4] => { results := [.lit (.bool true)], args := [d1, d2, d3, d4] }
  | _ => none }
def memmapFarRow : OpenClaim := { program := "ytmhhljbhbhlefaa", sum := "8de28795a3e6f382ffb3f4a950b754fc93fdd964b9de2fa97350882f3a2efaab", func := "hauberk/hauberklaw05.MemmapFar", spec := "memmapFar", apart := false }
def MemmapFarSaid : Prop := memmapFarRow.holds Try.pinned (OpenSpec.ofChange memmapFarSpec)

/-- ITS FALSE NEIGHBOUR: 'it returns false'. Refute it at one input. -/
def memmapFarWrong : ChangeSpec := { name := "memmapFar", fn := fun _ => fun
  | [d1, d2, d3, d4] => { results := [.lit (.bool false)], args := [d1, d2, d3, d4] }
  | _ => none }
def MemmapFarWrongFalsely : Prop := memmapFarRow.holds Try.pinned (OpenSpec.ofChange memmapFarWrong)

/-- 'hauberklaw05.MemmapWord': WHATEVER THE INPUT: true; the input reads as it did. -/
def memmapWordSpec : ChangeSpec := { name := "memmapWord", fn := fun _ => fun
  | [d1, d2, d3, d4] => { results := [.lit (.bool true)], args := [d1, d2, d3, d4] }
  | _ => none }
def memmapWordRow : OpenClaim := { program := "ytmhhljbhbhlefaa", sum := "8de28795a3e6f382ffb3f4a950b754fc93fdd964b9de2fa97350882f3a2efaab", func := "hauberk/hauberklaw05.MemmapWord", spec := "memmapWord", apart := false }
def MemmapWordSaid : Prop := memmapWordRow.holds Try.pinned (OpenSpec.ofChange memmapWordSpec)

/-- ITS FALSE NEIGHBOUR: 'it returns false'. Refute it at one input. -/
def memmapWordWrong : ChangeSpec := { name := "memmapWord", fn := fun _ => fun
  | [d1, d2, d3, d4] => { results := [.lit (.bool false)], args := [d1, d2, d3, d4] }
  | _ => none }
def MemmapWordWrongFalsely : Prop := memmapWordRow.holds Try.pinned (OpenSpec.ofChange memmapWordWrong)

/- THE SECOND FORM. 'bulk': how many values and letters a reading holds, each counted each time it is reached (what is shared counts as often as it is met; a slice's spare places count too). A statement '..UptoSaid' is the law's where the arguments, and the package variables that the reading takes, are together of bulk at most 1048576: NARROWER than '..Said'. Prove '..Said' where nothing that the law and all that it calls make is longer than what came in: it says more and counts as full. Else prove '..UptoSaid'. A law counts once. -/
mutual
def uptoBulk {H : Type} : DataW H → Nat
  | .lit (.string bytes) => bytes.length + 1
  | .lit _ => 1
  | .nil => 1
  | .ptr d => uptoBulk d + 1
  | .slice elems spare => uptoBulkAll elems + uptoBulkAll spare + 1
  | .agg parts => uptoBulkAll parts + 1
  | .iface _ d => uptoBulk d + 1
  | .map entries => uptoBulkEntries entries + 1
  | .held _ => 1
def uptoBulkAll {H : Type} : List (DataW H) → Nat
  | [] => 0
  | d :: r => uptoBulk d + uptoBulkAll r
def uptoBulkEntries {H : Type} : List (Lit × DataW H) → Nat
  | [] => 0
  | x :: r => uptoBulkEntry x + uptoBulkEntries r
def uptoBulkEntry {H : Type} : Lit × DataW H → Nat
  | (.string bytes, d) => bytes.length + uptoBulk d + 1
  | (_, d) => uptoBulk d + 1
 end
def uptoSmall : (H : Type) → List (DataW H) → Bool := fun _ ds => decide (uptoBulkAll ds ≤ 1048576)
def OpenSpec.upto (s : _root_.Go.ChangeSpec) : _root_.Go.OpenSpec := { _root_.Go.OpenSpec.ofChange s with cond := some uptoSmall }

/-- 'hauberklaw05.MemmapRegions', WHERE WHAT IT READS IS OF BULK AT MOST 1048576: true; the input reads as it did. -/
def memmapRegionsUptoRow : OpenClaim := { program := "ytmhhljbhbhlefaa", sum := "8de28795a3e6f382ffb3f4a950b754fc93fdd964b9de2fa97350882f3a2efaab", func := "hauberk/hauberklaw05.MemmapRegions", spec := "memmapRegions", apart := false, narrowed := true }
def MemmapRegionsUptoSaid : Prop := memmapRegionsUptoRow.holds Try.pinned (OpenSpec.upto memmapRegionsSpec)

/-- 'hauberklaw05.MemmapFinds', WHERE WHAT IT READS IS OF BULK AT MOST 1048576: true; the input reads as it did. -/
def memmapFindsUptoRow : OpenClaim := { program := "ytmhhljbhbhlefaa", sum := "8de28795a3e6f382ffb3f4a950b754fc93fdd964b9de2fa97350882f3a2efaab", func := "hauberk/hauberklaw05.MemmapFinds", spec := "memmapFinds", apart := false, narrowed := true }
def MemmapFindsUptoSaid : Prop := memmapFindsUptoRow.holds Try.pinned (OpenSpec.upto memmapFindsSpec)

/-- 'hauberklaw05.MemmapFar', WHERE WHAT IT READS IS OF BULK AT MOST 1048576: true; the input reads as it did. -/
def memmapFarUptoRow : OpenClaim := { program := "ytmhhljbhbhlefaa", sum := "8de28795a3e6f382ffb3f4a950b754fc93fdd964b9de2fa97350882f3a2efaab", func := "hauberk/hauberklaw05.MemmapFar", spec := "memmapFar", apart := false, narrowed := true }
def MemmapFarUptoSaid : Prop := memmapFarUptoRow.holds Try.pinned (OpenSpec.upto memmapFarSpec)

/-- 'hauberklaw05.MemmapWord', WHERE WHAT IT READS IS OF BULK AT MOST 1048576: true; the input reads as it did. -/
def memmapWordUptoRow : OpenClaim := { program := "ytmhhljbhbhlefaa", sum := "8de28795a3e6f382ffb3f4a950b754fc93fdd964b9de2fa97350882f3a2efaab", func := "hauberk/hauberklaw05.MemmapWord", spec := "memmapWord", apart := false, narrowed := true }
def MemmapWordUptoSaid : Prop := memmapWordUptoRow.holds Try.pinned (OpenSpec.upto memmapWordSpec)

end Rows
end Go.Proofs.Ytmhhljbhbhlefaa
