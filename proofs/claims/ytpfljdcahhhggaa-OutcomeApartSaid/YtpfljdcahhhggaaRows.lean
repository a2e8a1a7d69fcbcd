/-
  No cell of these rows narrows 'for every input' (looked for: loops, veiled, ifaces, maps, wideKeys, modest, calm, conditions, laid).
  DERIVED. THE GIVEN ROWS OF THIS SEAT. 3 by the template 'for every input the law returns true; each argument reads behind the call as it read before'; 0 by the template 'total and deterministic' (their statements: YtpfljdcahhhggaaTotals.lean).
  GIVEN WITH THE SEED: the statements are not yours to turn. If you find one false, say at which input.
  Laid BY PROGRAM, IN A SANDBOX (cutbox-rows.mjs): the forced cells as the released guide's own fill.sh prints them over the translation 2d452df3eccc3d72… (all of the seat's roots in one cut). By AI agents, Wed Nov 11 2026. No macro, syntax, notation, axiom, sorry.
-/
import Derived.Test.YtpfljdcahhhggaaChecked
import GoSem.Claim
import GoSem.ClaimJoined
import GoSem.ClaimMapViews
import Derived.JoinedTies
import Derived.KernelRfl
namespace Go.Proofs.Ytpfljdcahhhggaa
/- THE CELL 'sum', in the pinned program and in every row, IS THE sha256 OF THE DUMP (.gsa) THAT YtpfljdcahhhggaaProg.lean LOADS. Nothing in Lean hashes anything: it is a label: what it is worth is what the hold of that sum in a sandbox is worth. -/
noncomputable def Try.pinned : Pinned := { name := "ytpfljdcahhhggaa", sum := "2d452df3eccc3d72a6f71cb62881d6a62df0927f949febef060faa330ee6cdd6", checked := Try.checked }
namespace Rows
def none {H : Type} : Left H := { results := [], args := [] }

/-- 'hauberklaw10.OutcomeTells': WHATEVER THE INPUT: true; the input reads as it did. -/
def outcomeTellsSpec : ChangeSpec := { name := "outcomeTells", fn := fun _ => fun
  | [d] => { results := [.lit (.bool true)], args := [d] }
  | _ => none }
def outcomeTellsRow : OpenClaim := { program := "ytpfljdcahhhggaa", sum := "2d452df3eccc3d72a6f71cb62881d6a62df0927f949febef060faa330ee6cdd6", func := "hauberk/hauberklaw10.OutcomeTells", spec := "outcomeTells", apart := false }
def OutcomeTellsSaid : Prop := outcomeTellsRow.holds Try.pinned (OpenSpec.ofChange outcomeTellsSpec)

/-- ITS FALSE NEIGHBOUR: 'it returns false'. Refute it at one input. -/
def outcomeTellsWrong : ChangeSpec := { name := "outcomeTells", fn := fun _ => fun
  | [d] => { results := [.lit (.bool false)], args := [d] }
  | _ => none }
def OutcomeTellsWrongFalsely : Prop := outcomeTellsRow.holds Try.pinned (OpenSpec.ofChange outcomeTellsWrong)

/-- 'hauberklaw10.OutcomeSame': WHATEVER THE INPUT: true; the input reads as it did. -/
def outcomeSameSpec : ChangeSpec := { name := "outcomeSame", fn := fun _ => fun
  | [d1, d2, d3] => { results := [.lit (.bool true)], args := [d1, d2, d3] }
  | _ => none }
def outcomeSameRow : OpenClaim := { program := "ytpfljdcahhhggaa", sum := "2d452df3eccc3d72a6f71cb62881d6a62df0927f949febef060faa330ee6cdd6", func := "hauberk/hauberklaw10.OutcomeSame", spec := "outcomeSame", apart := false }
def OutcomeSameSaid : Prop := outcomeSameRow.holds Try.pinned (OpenSpec.ofChange outcomeSameSpec)

/-- ITS FALSE NEIGHBOUR: 'it returns false'. Refute it at one input. -/
def outcomeSameWrong : ChangeSpec := { name := "outcomeSame", fn := fun _ => fun
  | [d1, d2, d3] => { results := [.lit (.bool false)], args := [d1, d2, d3] }
  | _ => none }
def OutcomeSameWrongFalsely : Prop := outcomeSameRow.holds Try.pinned (OpenSpec.ofChange outcomeSameWrong)

/-- 'hauberklaw10.OutcomeApart': WHATEVER THE INPUT: true; the input reads as it did. -/
def outcomeApartSpec : ChangeSpec := { name := "outcomeApart", fn := fun _ => fun
  | [d1, d2] => { results := [.lit (.bool true)], args := [d1, d2] }
  | _ => none }
def outcomeApartRow : OpenClaim := { program := "ytpfljdcahhhggaa", sum := "2d452df3eccc3d72a6f71cb62881d6a62df0927f949febef060faa330ee6cdd6", func := "hauberk/hauberklaw10.OutcomeApart", spec := "outcomeApart", apart := false }
def OutcomeApartSaid : Prop := outcomeApartRow.holds Try.pinned (OpenSpec.ofChange outcomeApartSpec)

/-- ITS FALSE NEIGHBOUR: 'it returns false'. Refute it at one input. -/
def outcomeApartWrong : ChangeSpec := { name := "outcomeApart", fn := fun _ => fun
  | [d1, d2] => { results := [.lit (.bool false)], args := [d1, d2] }
  | _ => none }
def OutcomeApartWrongFalsely : Prop := outcomeApartRow.holds Try.pinned (OpenSpec.ofChange outcomeApartWrong)

/- THE SECOND FORM. 'bulk': how many values and letters a reading holds, each counted each time it is reached (what is shared counts as often as it is met; a slice's spare places count too). A statement '..UptoSaid' is the law's where the arguments, and the package variables that the reading takes, are together of bulk at most 1048576: NARROWER than '..Said'. Prove '..Said' where nothing that the law and all that it calls make is longer than what came in: it says more and counts as full. Else prove '..UptoSaid'. A law counts once. -/
mutual
def uptoBulk {H : Type} : DataW H → Nat
  | .lit (.string bytes) => bytes.length + 1
  | .lit _ => 1
  | .nil => 1
  | .ptr d => uptoBulk d + 1
  | .slice elems spare => uptoBulkAll elems + uptoBulkAll spare + 1
  | .agg parts => uptoBulkAll parts + 1
  | .iface _ d => uptoBulk d + 1
  | .map entries => uptoBulkEntries entries + 1
  | .held _ => 1
def uptoBulkAll {H : Type} : List (DataW H) → Nat
  | [] => 0
  | d :: r => uptoBulk d + uptoBulkAll r
def uptoBulkEntries {H : Type} : List (Lit × DataW H) → Nat
  | [] => 0
  | x :: r => uptoBulkEntry x + uptoBulkEntries r
def uptoBulkEntry {H : Type} : Lit × DataW H → Nat
  | (.string bytes, d) => bytes.length + uptoBulk d + 1
  | (_, d) => uptoBulk d + 1
 end
def uptoSmall : (H : Type) → List (DataW H) → Bool := fun _ ds => decide (uptoBulkAll ds ≤ 1048576)
def OpenSpec.upto (s : _root_.Go.ChangeSpec) : _root_.Go.OpenSpec := { _root_.Go.OpenSpec.ofChange s with cond := some uptoSmall }

/-- 'hauberklaw10.OutcomeTells', WHERE WHAT IT READS IS OF BULK AT MOST 1048576: true; the input reads as it did. -/
def outcomeTellsUptoRow : OpenClaim := { program := "ytpfljdcahhhggaa", sum := "2d452df3eccc3d72a6f71cb62881d6a62df0927f949febef060faa330ee6cdd6", func := "hauberk/hauberklaw10.OutcomeTells", spec := "outcomeTells", apart := false, narrowed := true }
def OutcomeTellsUptoSaid : Prop := outcomeTellsUptoRow.holds Try.pinned (OpenSpec.upto outcomeTellsSpec)

/-- 'hauberklaw10.OutcomeSame', WHERE WHAT IT READS IS OF BULK AT MOST 1048576: true; the input reads as it did. -/
def outcomeSameUptoRow : OpenClaim := { program := "ytpfljdcahhhggaa", sum := "2d452df3eccc3d72a6f71cb62881d6a62df0927f949febef060faa330ee6cdd6", func := "hauberk/hauberklaw10.OutcomeSame", spec := "outcomeSame", apart := false, narrowed := true }
def OutcomeSameUptoSaid : Prop := outcomeSameUptoRow.holds Try.pinned (OpenSpec.upto outcomeSameSpec)

/-- 'hauberklaw10.OutcomeApart', WHERE WHAT IT READS IS OF BULK AT MOST 1048576: true; the input reads as it did. -/
def outcomeApartUptoRow : OpenClaim := { program := "ytpfljdcahhhggaa", sum := "2d452df3eccc3d72a6f71cb62881d6a62df0927f949febef060faa330ee6cdd6", func := "hauberk/hauberklaw10.OutcomeApart", spec := "outcomeApart", apart := false, narrowed := true }
def OutcomeApartUptoSaid : Prop := outcomeApartUptoRow.holds Try.pinned (OpenSpec.upto outcomeApartSpec)

end Rows
end Go.Proofs.Ytpfljdcahhhggaa
