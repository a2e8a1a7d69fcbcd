/-
  No cell of these rows narrows 'for every input' (looked for: loops, veiled, ifaces, maps, wideKeys, modest, calm, conditions, laid).
  DERIVED. THE GIVEN ROWS OF THIS SEAT. 4 by the template 'for every input the law returns true; each argument reads behind the call as it read before'; 0 by the template 'total and deterministic' (their statements: YtchljdcjlkfbfaaTotals.lean).
  GIVEN WITH THE SEED: the statements are not yours to turn. If you find one false, say at which input.
  Laid BY PROGRAM, IN A SANDBOX (cutbox-rows.mjs): the forced cells as the released guide's own fill.sh prints them over the translation b27e7904f21cd378… (all of the seat's roots in one cut). By AI agents, Wed Nov 11 2026. No macro, syntax, notation, axiom, sorry.
-/
import Derived.Test.YtchljdcjlkfbfaaChecked
import GoSem.Claim
import GoSem.ClaimJoined
import GoSem.ClaimMapViews
import Derived.JoinedTies
import Derived.KernelRfl
namespace Go.Proofs.Ytchljdcjlkfbfaa
/- THE CELL 'sum', in the pinned program and in every row, IS THE sha256 OF THE DUMP (.gsa) THAT YtchljdcjlkfbfaaProg.lean LOADS. Nothing in Lean hashes anything: it is a label: what it is worth is what the hold of that sum in a sandbox is worth. -/
noncomputable def Try.pinned : Pinned := { name := "ytchljdcjlkfbfaa", sum := "b27e7904f21cd37804d9fb608d8f87aedc2cd099ecdc2b789d4ad8192fdc4727", checked := Try.checked }
namespace Rows
def none {H : Type} : Left H := { results := [], args := [] }

/-- 'hauberklaw07.MemoryPlays': WHATEVER THE INPUT: true; the input reads as it did. -/
def memoryPlaysSpec : ChangeSpec := { name := "memoryPlays", fn := fun _ => fun
  | [d1, d2] => { results := [.lit (.bool true)], args := [d1, d2] }
  | _ => none }
def memoryPlaysRow : OpenClaim := { program := "ytchljdcjlkfbfaa", sum := "b27e7904f21cd37804d9fb608d8f87aedc2cd099ecdc2b789d4ad8192fdc4727", func := "hauberk/hauberklaw07.MemoryPlays", spec := "memoryPlays", apart := false }
def MemoryPlaysSaid : Prop := memoryPlaysRow.holds Try.pinned (OpenSpec.ofChange memoryPlaysSpec)

/-- ITS FALSE NEIGHBOUR: 'it returns false'. Refute it at one input. -/
def memoryPlaysWrong : ChangeSpec := { name := "memoryPlays", fn := fun _ => fun
  | [d1, d2] => { results := [.lit (.bool false)], args := [d1, d2] }
  | _ => none }
def MemoryPlaysWrongFalsely : Prop := memoryPlaysRow.holds Try.pinned (OpenSpec.ofChange memoryPlaysWrong)

/-- 'hauberklaw07.MemoryRegions': WHATEVER THE INPUT: true; the input reads as it did. -/
def memoryRegionsSpec : ChangeSpec := { name := "memoryRegions", fn := fun _ => fun
  | [d1, d2, d3] => { results := [.lit (.bool true)], args := [d1, d2, d3] }
  | _ => none }
def memoryRegionsRow : OpenClaim := { program := "ytchljdcjlkfbfaa", sum := "b27e7904f21cd37804d9fb608d8f87aedc2cd099ecdc2b789d4ad8192fdc4727", func := "hauberk/hauberklaw07.MemoryRegions", spec := "memoryRegions", apart := false }
def MemoryRegionsSaid : Prop := memoryRegionsRow.holds Try.pinned (OpenSpec.ofChange memoryRegionsSpec)

/-- ITS FALSE NEIGHBOUR: 'it returns false'. Refute it at one input. -/
def memoryRegionsWrong : ChangeSpec := { name := "memoryRegions", fn := fun _ => fun
  | [d1, d2, d3] => { results := [.lit (.bool false)], args := [d1, d2, d3] }
  | _ => none }
def MemoryRegionsWrongFalsely : Prop := memoryRegionsRow.holds Try.pinned (OpenSpec.ofChange memoryRegionsWrong)

/-- 'hauberklaw07.MemoryKeeps': WHATEVER THE INPUT: true; the input reads as it did. -/
def memoryKeepsSpec : ChangeSpec := { name := "memoryKeeps", fn := fun _ => fun
  | [d1, d2, d3, d4] => { results := [.lit (.bool true)], args := [d1, d2, d3, d4] }
  | _ => none }
def memoryKeepsRow : OpenClaim := { program := "ytchljdcjlkfbfaa", sum := "b27e7904f21cd37804d9fb608d8f87aedc2cd099ecdc2b789d4ad8192fdc4727", func := "hauberk/hauberklaw07.MemoryKeeps", spec := "memoryKeeps", apart := false }
def MemoryKeepsSaid : Prop := memoryKeepsRow.holds Try.pinned (OpenSpec.ofChange memoryKeepsSpec)

/-- ITS FALSE NEIGHBOUR: 'it returns false'. Refute it at one input. -/
def memoryKeepsWrong : ChangeSpec := { name := "memoryKeeps", fn := fun _ => fun
  | [d1, d2, d3, d4] => { results := [.lit (.bool false)], args := [d1, d2, d3, d4] }
  | _ => none }
def MemoryKeepsWrongFalsely : Prop := memoryKeepsRow.holds Try.pinned (OpenSpec.ofChange memoryKeepsWrong)

/-- 'hauberklaw07.MemoryFlash': WHATEVER THE INPUT: true; the input reads as it did. -/
def memoryFlashSpec : ChangeSpec := { name := "memoryFlash", fn := fun _ => fun
  | [d1, d2, d3] => { results := [.lit (.bool true)], args := [d1, d2, d3] }
  | _ => none }
def memoryFlashRow : OpenClaim := { program := "ytchljdcjlkfbfaa", sum := "b27e7904f21cd37804d9fb608d8f87aedc2cd099ecdc2b789d4ad8192fdc4727", func := "hauberk/hauberklaw07.MemoryFlash", spec := "memoryFlash", apart := false }
def MemoryFlashSaid : Prop := memoryFlashRow.holds Try.pinned (OpenSpec.ofChange memoryFlashSpec)

/-- ITS FALSE NEIGHBOUR: 'it returns false'. Refute it at one input. -/
def memoryFlashWrong : ChangeSpec := { name := "memoryFlash", fn := fun _ => fun
  | [d1, d2, d3] => { results := [.lit (.bool false)], args := [d1, d2, d3] }
  | _ => none }
def MemoryFlashWrongFalsely : Prop := memoryFlashRow.holds Try.pinned (OpenSpec.ofChange memoryFlashWrong)

/- THE SECOND FORM. 'bulk': how many values and letters a reading holds, each counted each time it is reached (what is shared counts as often as it is met; a slice's spare places count too). A statement '..UptoSaid' is the law's where the arguments, and the package variables that the reading takes, are together of bulk at most 1048576: NARROWER than '..Said'. Prove '..Said' where nothing that the law and all that it calls make is longer than what came in: it says more and counts as full. Else prove '..UptoSaid'. A law counts once. -/
mutual
def uptoBulk {H : Type} : DataW H → Nat
  | .lit (.string bytes) => bytes.length + 1
  | .lit _ => 1
  | .nil => 1
  | .ptr d => uptoBulk d + 1
  | .slice elems spare => uptoBulkAll elems + uptoBulkAll spare + 1
  | .agg parts => uptoBulkAll parts + 1
  | .iface _ d => uptoBulk d + 1
  | .map entries => uptoBulkEntries entries + 1
  | .held _ => 1
def uptoBulkAll {H : Type} : List (DataW H) → Nat
  | [] => 0
  | d :: r => uptoBulk d + uptoBulkAll r
def uptoBulkEntries {H : Type} : List (Lit × DataW H) → Nat
  | [] => 0
  | x :: r => uptoBulkEntry x + uptoBulkEntries r
def uptoBulkEntry {H : Type} : Lit × DataW H → Nat
  | (.string bytes, d) => bytes.length + uptoBulk d + 1
  | (_, d) => uptoBulk d + 1
 end
def uptoSmall : (H : Type) → List (DataW H) → Bool := fun _ ds => decide (uptoBulkAll ds ≤ 1048576)
def OpenSpec.upto (s : _root_.Go.ChangeSpec) : _root_.Go.OpenSpec := { _root_.Go.OpenSpec.ofChange s with cond := some uptoSmall }

/-- 'hauberklaw07.MemoryPlays', WHERE WHAT IT READS IS OF BULK AT MOST 1048576: true; the input reads as it did. -/
def memoryPlaysUptoRow : OpenClaim := { program := "ytchljdcjlkfbfaa", sum := "b27e7904f21cd37804d9fb608d8f87aedc2cd099ecdc2b789d4ad8192fdc4727", func := "hauberk/hauberklaw07.MemoryPlays", spec := "memoryPlays", apart := false, narrowed := true }
def MemoryPlaysUptoSaid : Prop := memoryPlaysUptoRow.holds Try.pinned (OpenSpec.upto memoryPlaysSpec)

/-- 'hauberklaw07.MemoryRegions', WHERE WHAT IT READS IS OF BULK AT MOST 1048576: true; the input reads as it did. -/
def memoryRegionsUptoRow : OpenClaim := { program := "ytchljdcjlkfbfaa", sum := "b27e7904f21cd37804d9fb608d8f87aedc2cd099ecdc2b789d4ad8192fdc4727", func := "hauberk/hauberklaw07.MemoryRegions", spec := "memoryRegions", apart := false, narrowed := true }
def MemoryRegionsUptoSaid : Prop := memoryRegionsUptoRow.holds Try.pinned (OpenSpec.upto memoryRegionsSpec)

/-- 'hauberklaw07.MemoryKeeps', WHERE WHAT IT READS IS OF BULK AT MOST 1048576: true; the input reads as it did. -/
def memoryKeepsUptoRow : OpenClaim := { program := "ytchljdcjlkfbfaa", sum := "b27e7904f21cd37804d9fb608d8f87aedc2cd099ecdc2b789d4ad8192fdc4727", func := "hauberk/hauberklaw07.MemoryKeeps", spec := "memoryKeeps", apart := false, narrowed := true }
def MemoryKeepsUptoSaid : Prop := memoryKeepsUptoRow.holds Try.pinned (OpenSpec.upto memoryKeepsSpec)

/-- 'hauberklaw07.MemoryFlash', WHERE WHAT IT READS IS OF BULK AT MOST 1048576: true; the input reads as it did. -/
def memoryFlashUptoRow : OpenClaim := { program := "ytchljdcjlkfbfaa", sum := "b27e7904f21cd37804d9fb608d8f87aedc2cd099ecdc2b789d4ad8192fdc4727", func := "hauberk/hauberklaw07.MemoryFlash", spec := "memoryFlash", apart := false, narrowed := true }
def MemoryFlashUptoSaid : Prop := memoryFlashUptoRow.holds Try.pinned (OpenSpec.upto memoryFlashSpec)

end Rows
end Go.Proofs.Ytchljdcjlkfbfaa
