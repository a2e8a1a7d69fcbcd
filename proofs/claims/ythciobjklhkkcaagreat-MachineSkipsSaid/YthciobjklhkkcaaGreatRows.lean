/-
  No cell of these rows narrows 'for every input' (looked for: loops, veiled, ifaces, maps, wideKeys, modest, calm, conditions, laid).
  DERIVED. THE GIVEN ROWS OF THIS SEAT. 4 by the template 'for every input the law returns true; each argument reads behind the call as it read before'; 0 by the template 'total and deterministic' (their statements: YthciobjklhkkcaaGreatTotals.lean).
  GIVEN WITH THE SEED: the statements are not yours to turn. If you find one false, say at which input.
  Laid BY PROGRAM, IN A SANDBOX (cutbox-rows.mjs): the forced cells as the released guide's own fill.sh prints them over the translation 40fa735e7cb53c48… (all of the seat's roots in one cut). By AI agents, Wed Nov 11 2026. No macro, syntax, notation, axiom, sorry.
-/
import Derived.Test.YthciobjklhkkcaaGreatChecked
import GoSem.Claim
import GoSem.ClaimJoined
import GoSem.ClaimMapViews
import Derived.JoinedTies
import Derived.KernelRfl
namespace Go.Proofs.YthciobjklhkkcaaGreat
/- THE CELL 'sum', in the pinned program and in every row, IS THE sha256 OF THE DUMP (.gsa) THAT YthciobjklhkkcaaGreatProg.lean LOADS. Nothing in Lean hashes anything: it is a label: what it is worth is what the hold of that sum in a sandbox is worth. -/
noncomputable def Tryz.pinned : Pinned := { name := "ythciobjklhkkcaagreat", sum := "40fa735e7cb53c48b91e65b5c5686ca5defa252559ff028ab565fd0f6ba97cbb", checked := Tryz.checked }
namespace Rows
def none {H : Type} : Left H := { results := [], args := [] }

/-- 'hauberklaw09.MachineRuns': WHATEVER THE INPUT: true; the input reads as it did. -/
def machineRunsSpec : ChangeSpec := { name := "machineRuns", fn := fun _ => fun
  | [d1, d2, d3, d4] => { results := [.lit (.bool true)], args := [d1, d2, d3, d4] }
  | _ => none }
def machineRunsRow : OpenClaim := { program := "ythciobjklhkkcaagreat", sum := "40fa735e7cb53c48b91e65b5c5686ca5defa252559ff028ab565fd0f6ba97cbb", func := "hauberk/hauberklaw09.MachineRuns", spec := "machineRuns", inPlace := ["internal/abi.NoEscape"], unfollowed := true, recurses := true, apart := false }
def MachineRunsSaid : Prop := machineRunsRow.holds Tryz.pinned (OpenSpec.ofChange machineRunsSpec)

/-- ITS FALSE NEIGHBOUR: 'it returns false'. Refute it at one input. -/
def machineRunsWrong : ChangeSpec := { name := "machineRuns", fn := fun _ => fun
  | [d1, d2, d3, d4] => { results := [.lit (.bool false)], args := [d1, d2, d3, d4] }
  | _ => none }
def MachineRunsWrongFalsely : Prop := machineRunsRow.holds Tryz.pinned (OpenSpec.ofChange machineRunsWrong)

/-- 'hauberklaw09.MachineTraces': WHATEVER THE INPUT: true; the input reads as it did. -/
def machineTracesSpec : ChangeSpec := { name := "machineTraces", fn := fun _ => fun
  | [d1, d2, d3] => { results := [.lit (.bool true)], args := [d1, d2, d3] }
  | _ => none }
def machineTracesRow : OpenClaim := { program := "ythciobjklhkkcaagreat", sum := "40fa735e7cb53c48b91e65b5c5686ca5defa252559ff028ab565fd0f6ba97cbb", func := "hauberk/hauberklaw09.MachineTraces", spec := "machineTraces", inPlace := ["internal/abi.NoEscape"], unfollowed := true, recurses := true, apart := false }
def MachineTracesSaid : Prop := machineTracesRow.holds Tryz.pinned (OpenSpec.ofChange machineTracesSpec)

/-- ITS FALSE NEIGHBOUR: 'it returns false'. Refute it at one input. -/
def machineTracesWrong : ChangeSpec := { name := "machineTraces", fn := fun _ => fun
  | [d1, d2, d3] => { results := [.lit (.bool false)], args := [d1, d2, d3] }
  | _ => none }
def MachineTracesWrongFalsely : Prop := machineTracesRow.holds Tryz.pinned (OpenSpec.ofChange machineTracesWrong)

/-- 'hauberklaw09.MachineSums': WHATEVER THE INPUT: true; the input reads as it did. -/
def machineSumsSpec : ChangeSpec := { name := "machineSums", fn := fun _ => fun
  | [d1, d2, d3, d4] => { results := [.lit (.bool true)], args := [d1, d2, d3, d4] }
  | _ => none }
def machineSumsRow : OpenClaim := { program := "ythciobjklhkkcaagreat", sum := "40fa735e7cb53c48b91e65b5c5686ca5defa252559ff028ab565fd0f6ba97cbb", func := "hauberk/hauberklaw09.MachineSums", spec := "machineSums", inPlace := ["internal/abi.NoEscape"], unfollowed := true, recurses := true, apart := false }
def MachineSumsSaid : Prop := machineSumsRow.holds Tryz.pinned (OpenSpec.ofChange machineSumsSpec)

/-- ITS FALSE NEIGHBOUR: 'it returns false'. Refute it at one input. -/
def machineSumsWrong : ChangeSpec := { name := "machineSums", fn := fun _ => fun
  | [d1, d2, d3, d4] => { results := [.lit (.bool false)], args := [d1, d2, d3, d4] }
  | _ => none }
def MachineSumsWrongFalsely : Prop := machineSumsRow.holds Tryz.pinned (OpenSpec.ofChange machineSumsWrong)

/-- 'hauberklaw09.MachineSkips': WHATEVER THE INPUT: true; the input reads as it did. -/
def machineSkipsSpec : ChangeSpec := { name := "machineSkips", fn := fun _ => fun
  | [d1, d2, d3] => { results := [.lit (.bool true)], args := [d1, d2, d3] }
  | _ => none }
def machineSkipsRow : OpenClaim := { program := "ythciobjklhkkcaagreat", sum := "40fa735e7cb53c48b91e65b5c5686ca5defa252559ff028ab565fd0f6ba97cbb", func := "hauberk/hauberklaw09.MachineSkips", spec := "machineSkips", inPlace := ["internal/abi.NoEscape"], unfollowed := true, recurses := true, apart := false }
def MachineSkipsSaid : Prop := machineSkipsRow.holds Tryz.pinned (OpenSpec.ofChange machineSkipsSpec)

/-- ITS FALSE NEIGHBOUR: 'it returns false'. Refute it at one input. -/
def machineSkipsWrong : ChangeSpec := { name := "machineSkips", fn := fun _ => fun
  | [d1, d2, d3] => { results := [.lit (.bool false)], args := [d1, d2, d3] }
  | _ => none }
def MachineSkipsWrongFalsely : Prop := machineSkipsRow.holds Tryz.pinned (OpenSpec.ofChange machineSkipsWrong)

/- THE SECOND FORM. 'bulk': how many values and letters a reading holds, each counted each time it is reached (what is shared counts as often as it is met; a slice's spare places count too). A statement '..UptoSaid' is the law's where the arguments, and the package variables that the reading takes, are together of bulk at most 1048576: NARROWER than '..Said'. Prove '..Said' where nothing that the law and all that it calls make is longer than what came in: it says more and counts as full. Else prove '..UptoSaid'. A law counts once. -/
mutual
def uptoBulk {H : Type} : DataW H → Nat
  | .lit (.string bytes) => bytes.length + 1
  | .lit _ => 1
  | .nil => 1
  | .ptr d => uptoBulk d + 1
  | .slice elems spare => uptoBulkAll elems + uptoBulkAll spare + 1
  | .agg parts => uptoBulkAll parts + 1
  | .iface _ d => uptoBulk d + 1
  | .map entries => uptoBulkEntries entries + 1
  | .held _ => 1
def uptoBulkAll {H : Type} : List (DataW H) → Nat
  | [] => 0
  | d :: r => uptoBulk d + uptoBulkAll r
def uptoBulkEntries {H : Type} : List (Lit × DataW H) → Nat
  | [] => 0
  | x :: r => uptoBulkEntry x + uptoBulkEntries r
def uptoBulkEntry {H : Type} : Lit × DataW H → Nat
  | (.string bytes, d) => bytes.length + uptoBulk d + 1
  | (_, d) => uptoBulk d + 1
 end
def uptoSmall : (H : Type) → List (DataW H) → Bool := fun _ ds => decide (uptoBulkAll ds ≤ 1048576)
def OpenSpec.upto (s : _root_.Go.ChangeSpec) : _root_.Go.OpenSpec := { _root_.Go.OpenSpec.ofChange s with cond := some uptoSmall }

/-- 'hauberklaw09.MachineRuns', WHERE WHAT IT READS IS OF BULK AT MOST 1048576: true; the input reads as it did. -/
def machineRunsUptoRow : OpenClaim := { program := "ythciobjklhkkcaagreat", sum := "40fa735e7cb53c48b91e65b5c5686ca5defa252559ff028ab565fd0f6ba97cbb", func := "hauberk/hauberklaw09.MachineRuns", spec := "machineRuns", inPlace := ["internal/abi.NoEscape"], unfollowed := true, recurses := true, apart := false, narrowed := true }
def MachineRunsUptoSaid : Prop := machineRunsUptoRow.holds Tryz.pinned (OpenSpec.upto machineRunsSpec)

/-- 'hauberklaw09.MachineTraces', WHERE WHAT IT READS IS OF BULK AT MOST 1048576: true; the input reads as it did. -/
def machineTracesUptoRow : OpenClaim := { program := "ythciobjklhkkcaagreat", sum := "40fa735e7cb53c48b91e65b5c5686ca5defa252559ff028ab565fd0f6ba97cbb", func := "hauberk/hauberklaw09.MachineTraces", spec := "machineTraces", inPlace := ["internal/abi.NoEscape"], unfollowed := true, recurses := true, apart := false, narrowed := true }
def MachineTracesUptoSaid : Prop := machineTracesUptoRow.holds Tryz.pinned (OpenSpec.upto machineTracesSpec)

/-- 'hauberklaw09.MachineSums', WHERE WHAT IT READS IS OF BULK AT MOST 1048576: true; the input reads as it did. -/
def machineSumsUptoRow : OpenClaim := { program := "ythciobjklhkkcaagreat", sum := "40fa735e7cb53c48b91e65b5c5686ca5defa252559ff028ab565fd0f6ba97cbb", func := "hauberk/hauberklaw09.MachineSums", spec := "machineSums", inPlace := ["internal/abi.NoEscape"], unfollowed := true, recurses := true, apart := false, narrowed := true }
def MachineSumsUptoSaid : Prop := machineSumsUptoRow.holds Tryz.pinned (OpenSpec.upto machineSumsSpec)

/-- 'hauberklaw09.MachineSkips', WHERE WHAT IT READS IS OF BULK AT MOST 1048576: true; the input reads as it did. -/
def machineSkipsUptoRow : OpenClaim := { program := "ythciobjklhkkcaagreat", sum := "40fa735e7cb53c48b91e65b5c5686ca5defa252559ff028ab565fd0f6ba97cbb", func := "hauberk/hauberklaw09.MachineSkips", spec := "machineSkips", inPlace := ["internal/abi.NoEscape"], unfollowed := true, recurses := true, apart := false, narrowed := true }
def MachineSkipsUptoSaid : Prop := machineSkipsUptoRow.holds Tryz.pinned (OpenSpec.upto machineSkipsSpec)

end Rows
end Go.Proofs.YthciobjklhkkcaaGreat
