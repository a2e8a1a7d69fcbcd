/-
  NARROWER THAN 'FOR EVERY INPUT', by the rows' own cells (each row's printed sentence says how): SyntaxParses: laid · ProseTells: laid · ProseExpr: laid · ProseBack: laid · ProseLines: laid · TypesCheck: laid · TypesChanged: laid · TypesOpen: laid · TypesAhead: laid.
  DERIVED. THE GIVEN ROWS OF THIS SEAT. 9 by the template 'for every input the law returns true; each argument reads behind the call as it read before'; 0 by the template 'total and deterministic' (their statements: YtjfdcnggnldgdaaGreatDoorTotals.lean).
  GIVEN WITH THE SEED: the statements are not yours to turn. If you find one false, say at which input.
  Laid BY PROGRAM, IN A SANDBOX (cutbox-rows.mjs): the forced cells as the released guide's own fill.sh prints them over the translation ce886af84316d84c… (all of the seat's roots in one cut). By AI agents, Wed Nov 11 2026. No macro, syntax, notation, axiom, sorry.
-/
import Derived.Test.YtjfdcnggnldgdaaGreatDoorChecked
import GoSem.PinnedTables
import GoSem.Claim
import GoSem.ClaimJoined
import GoSem.ClaimMapViews
import Derived.JoinedTies
import Derived.KernelRfl
namespace Go.Proofs.YtjfdcnggnldgdaaGreatDoor
/- THE CELL 'sum', in the pinned program and in every row, IS THE sha256 OF THE DUMP (.gsa) THAT YtjfdcnggnldgdaaGreatDoorProg.lean LOADS. Nothing in Lean hashes anything: it is a label: what it is worth is what the hold of that sum in a sandbox is worth. -/
noncomputable def Tryz.pinned : Pinned := { name := "ytjfdcnggnldgdaagreatdoor", sum := "ce886af84316d84c4f885117c772def228d654ca653fff8ee47496a13d712f77", checked := Tryz.checked }
namespace Rows
def none {H : Type} : Left H := { results := [], args := [] }

/- WHAT THE LISTED PACKAGE-LEVEL VARIABLES READ AS WHEN THE CALL BEGINS. Each datum BY PROGRAM (the guide's laid-datum.mjs) off the statement by which the dump's own 'gosem.cut.vars' lays the variable. In a bare row this is a premise. The card (YtjfdcnggnldgdaaGreatDoorCards.lean) ties it to the program's text. -/
def laid_unicode_utf8_acceptRanges {H : Type} : DataW H := .agg [.agg [.lit (.int .u8 128), .lit (.int .u8 191)], .agg [.lit (.int .u8 160), .lit (.int .u8 191)], .agg [.lit (.int .u8 128), .lit (.int .u8 159)], .agg [.lit (.int .u8 144), .lit (.int .u8 191)], .agg [.lit (.int .u8 128), .lit (.int .u8 143)], .agg [.lit (.int .u8 0), .lit (.int .u8 0)], .agg [.lit (.int .u8 0), .lit (.int .u8 0)], .agg [.lit (.int .u8 0), .lit (.int .u8 0)], .agg [.lit (.int .u8 0), .lit (.int .u8 0)], .agg [.lit (.int .u8 0), .lit (.int .u8 0)], .agg [.lit (.int .u8 0), .lit (.int .u8 0)], .agg [.lit (.int .u8 0), .lit (.int .u8 0)], .agg [.lit (.int .u8 0), .lit (.int .u8 0)], .agg [.lit (.int .u8 0), .lit (.int .u8 0)], .agg [.lit (.int .u8 0), .lit (.int .u8 0)], .agg [.lit (.int .u8 0), .lit (.int .u8 0)]]
def laid_hauberk_syntax_between {H : Type} : DataW H := .agg [.agg [.lit (.string [61, 61]), .lit (.int .i64 17), .lit (.int .i64 1)], .agg [.lit (.string [33, 61]), .lit (.int .i64 18), .lit (.int .i64 1)], .agg [.lit (.string [60]), .lit (.int .i64 19), .lit (.int .i64 1)], .agg [.lit (.string [60, 61]), .lit (.int .i64 20), .lit (.int .i64 1)], .agg [.lit (.string [62]), .lit (.int .i64 21), .lit (.int .i64 1)], .agg [.lit (.string [62, 61]), .lit (.int .i64 22), .lit (.int .i64 1)], .agg [.lit (.string [124]), .lit (.int .i64 12), .lit (.int .i64 2)], .agg [.lit (.string [94]), .lit (.int .i64 13), .lit (.int .i64 3)], .agg [.lit (.string [38]), .lit (.int .i64 11), .lit (.int .i64 4)], .agg [.lit (.string [60, 60]), .lit (.int .i64 14), .lit (.int .i64 5)], .agg [.lit (.string [62, 62]), .lit (.int .i64 15), .lit (.int .i64 5)], .agg [.lit (.string [43]), .lit (.int .i64 8), .lit (.int .i64 6)], .agg [.lit (.string [45]), .lit (.int .i64 9), .lit (.int .i64 6)], .agg [.lit (.string [42]), .lit (.int .i64 10), .lit (.int .i64 7)]]
/-- One of Go's own tables, pinned by name: the form's constant. -/
def laid_unicode_utf8_first : DataW Unit := Go.Pinned.utf8First
def laid_math_bits_deBruijn32tab {H : Type} : DataW H := .agg [.lit (.int .u8 0), .lit (.int .u8 1), .lit (.int .u8 28), .lit (.int .u8 2), .lit (.int .u8 29), .lit (.int .u8 14), .lit (.int .u8 24), .lit (.int .u8 3), .lit (.int .u8 30), .lit (.int .u8 22), .lit (.int .u8 20), .lit (.int .u8 15), .lit (.int .u8 25), .lit (.int .u8 17), .lit (.int .u8 4), .lit (.int .u8 8), .lit (.int .u8 31), .lit (.int .u8 27), .lit (.int .u8 13), .lit (.int .u8 23), .lit (.int .u8 21), .lit (.int .u8 19), .lit (.int .u8 16), .lit (.int .u8 7), .lit (.int .u8 26), .lit (.int .u8 12), .lit (.int .u8 18), .lit (.int .u8 6), .lit (.int .u8 11), .lit (.int .u8 5), .lit (.int .u8 10), .lit (.int .u8 9)]
def laid_math_bits_deBruijn64tab {H : Type} : DataW H := .agg [.lit (.int .u8 0), .lit (.int .u8 1), .lit (.int .u8 56), .lit (.int .u8 2), .lit (.int .u8 57), .lit (.int .u8 49), .lit (.int .u8 28), .lit (.int .u8 3), .lit (.int .u8 61), .lit (.int .u8 58), .lit (.int .u8 42), .lit (.int .u8 50), .lit (.int .u8 38), .lit (.int .u8 29), .lit (.int .u8 17), .lit (.int .u8 4), .lit (.int .u8 62), .lit (.int .u8 47), .lit (.int .u8 59), .lit (.int .u8 36), .lit (.int .u8 45), .lit (.int .u8 43), .lit (.int .u8 51), .lit (.int .u8 22), .lit (.int .u8 53), .lit (.int .u8 39), .lit (.int .u8 33), .lit (.int .u8 30), .lit (.int .u8 24), .lit (.int .u8 18), .lit (.int .u8 12), .lit (.int .u8 5), .lit (.int .u8 63), .lit (.int .u8 55), .lit (.int .u8 48), .lit (.int .u8 27), .lit (.int .u8 60), .lit (.int .u8 41), .lit (.int .u8 37), .lit (.int .u8 16), .lit (.int .u8 46), .lit (.int .u8 35), .lit (.int .u8 44), .lit (.int .u8 21), .lit (.int .u8 52), .lit (.int .u8 32), .lit (.int .u8 23), .lit (.int .u8 11), .lit (.int .u8 54), .lit (.int .u8 26), .lit (.int .u8 40), .lit (.int .u8 15), .lit (.int .u8 34), .lit (.int .u8 20), .lit (.int .u8 31), .lit (.int .u8 10), .lit (.int .u8 25), .lit (.int .u8 14), .lit (.int .u8 19), .lit (.int .u8 9), .lit (.int .u8 13), .lit (.int .u8 8), .lit (.int .u8 7), .lit (.int .u8 6)]
def laid_internal_strconv_uint64pow10 {H : Type} : DataW H := .agg [.lit (.int .u64 1), .lit (.int .u64 10), .lit (.int .u64 100), .lit (.int .u64 1000), .lit (.int .u64 10000), .lit (.int .u64 100000), .lit (.int .u64 1000000), .lit (.int .u64 10000000), .lit (.int .u64 100000000), .lit (.int .u64 1000000000), .lit (.int .u64 10000000000), .lit (.int .u64 100000000000), .lit (.int .u64 1000000000000), .lit (.int .u64 10000000000000), .lit (.int .u64 100000000000000), .lit (.int .u64 1000000000000000), .lit (.int .u64 10000000000000000), .lit (.int .u64 100000000000000000), .lit (.int .u64 1000000000000000000), .lit (.int .u64 10000000000000000000)]
def laid_hauberk_prose_signs {H : Type} : DataW H := .agg [.agg [.lit (.int .i64 17), .lit (.string [61, 61]), .lit (.int .i64 0)], .agg [.lit (.int .i64 18), .lit (.string [33, 61]), .lit (.int .i64 0)], .agg [.lit (.int .i64 19), .lit (.string [60]), .lit (.int .i64 0)], .agg [.lit (.int .i64 20), .lit (.string [60, 61]), .lit (.int .i64 0)], .agg [.lit (.int .i64 21), .lit (.string [62]), .lit (.int .i64 0)], .agg [.lit (.int .i64 22), .lit (.string [62, 61]), .lit (.int .i64 0)], .agg [.lit (.int .i64 12), .lit (.string [124]), .lit (.int .i64 1)], .agg [.lit (.int .i64 13), .lit (.string [94]), .lit (.int .i64 2)], .agg [.lit (.int .i64 11), .lit (.string [38]), .lit (.int .i64 3)], .agg [.lit (.int .i64 14), .lit (.string [60, 60]), .lit (.int .i64 4)], .agg [.lit (.int .i64 15), .lit (.string [62, 62]), .lit (.int .i64 4)], .agg [.lit (.int .i64 8), .lit (.string [43]), .lit (.int .i64 5)], .agg [.lit (.int .i64 9), .lit (.string [45]), .lit (.int .i64 5)], .agg [.lit (.int .i64 10), .lit (.string [42]), .lit (.int .i64 6)]]

/-- 'hauberklaw12.SyntaxParses': WHATEVER THE INPUT: true; the input reads as it did. -/
def syntaxParsesSpec : ChangeSpec := { name := "syntaxParses", fn := fun _ => fun
  | [d] => { results := [.lit (.bool true)], args := [d] }
  | _ => none }
def syntaxParsesRow : OpenClaim := { program := "ytjfdcnggnldgdaagreatdoor", sum := "ce886af84316d84c4f885117c772def228d654ca653fff8ee47496a13d712f77", func := "hauberk/hauberklaw12.SyntaxParses", spec := "syntaxParses", inPlace := ["internal/bytealg.IndexByteString", "internal/bytealg.IndexString"], unfollowed := true, recurses := true, named := ["unicode/utf8.first", "unicode/utf8.acceptRanges", "internal/bytealg.MaxLen", "hauberk/syntax.between"], apart := false, laid := [("unicode/utf8.acceptRanges", laid_unicode_utf8_acceptRanges), ("hauberk/syntax.between", laid_hauberk_syntax_between), ("unicode/utf8.first", laid_unicode_utf8_first)] }
def SyntaxParsesSaid : Prop := syntaxParsesRow.holds Tryz.pinned (OpenSpec.ofChange syntaxParsesSpec)

/-- ITS FALSE NEIGHBOUR: 'it returns false'. Refute it at one input. -/
def syntaxParsesWrong : ChangeSpec := { name := "syntaxParses", fn := fun _ => fun
  | [d] => { results := [.lit (.bool false)], args := [d] }
  | _ => none }
def SyntaxParsesWrongFalsely : Prop := syntaxParsesRow.holds Tryz.pinned (OpenSpec.ofChange syntaxParsesWrong)

/-- 'hauberklaw13.ProseTells': WHATEVER THE INPUT: true; the input reads as it did. -/
def proseTellsSpec : ChangeSpec := { name := "proseTells", fn := fun _ => fun
  | [d1, d2] => { results := [.lit (.bool true)], args := [d1, d2] }
  | _ => none }
def proseTellsRow : OpenClaim := { program := "ytjfdcnggnldgdaagreatdoor", sum := "ce886af84316d84c4f885117c772def228d654ca653fff8ee47496a13d712f77", func := "hauberk/hauberklaw13.ProseTells", spec := "proseTells", inPlace := ["internal/bytealg.IndexByteString", "internal/bytealg.IndexString", "internal/abi.NoEscape", "internal/bytealg.MakeNoZero"], unfollowed := true, recurses := true, named := ["unicode/utf8.first", "unicode/utf8.acceptRanges", "internal/bytealg.MaxLen", "hauberk/prose.signs", "internal/strconv.uint64pow10", "math/bits.deBruijn32tab", "math/bits.deBruijn64tab"], apart := false, laid := [("math/bits.deBruijn32tab", laid_math_bits_deBruijn32tab), ("math/bits.deBruijn64tab", laid_math_bits_deBruijn64tab), ("internal/strconv.uint64pow10", laid_internal_strconv_uint64pow10), ("unicode/utf8.acceptRanges", laid_unicode_utf8_acceptRanges), ("hauberk/prose.signs", laid_hauberk_prose_signs), ("unicode/utf8.first", laid_unicode_utf8_first)] }
def ProseTellsSaid : Prop := proseTellsRow.holds Tryz.pinned (OpenSpec.ofChange proseTellsSpec)

/-- ITS FALSE NEIGHBOUR: 'it returns false'. Refute it at one input. -/
def proseTellsWrong : ChangeSpec := { name := "proseTells", fn := fun _ => fun
  | [d1, d2] => { results := [.lit (.bool false)], args := [d1, d2] }
  | _ => none }
def ProseTellsWrongFalsely : Prop := proseTellsRow.holds Tryz.pinned (OpenSpec.ofChange proseTellsWrong)

/-- 'hauberklaw13.ProseExpr': WHATEVER THE INPUT: true; the input reads as it did. -/
def proseExprSpec : ChangeSpec := { name := "proseExpr", fn := fun _ => fun
  | [d1, d2] => { results := [.lit (.bool true)], args := [d1, d2] }
  | _ => none }
def proseExprRow : OpenClaim := { program := "ytjfdcnggnldgdaagreatdoor", sum := "ce886af84316d84c4f885117c772def228d654ca653fff8ee47496a13d712f77", func := "hauberk/hauberklaw13.ProseExpr", spec := "proseExpr", inPlace := ["internal/bytealg.IndexByteString", "internal/bytealg.IndexString", "internal/abi.NoEscape", "internal/bytealg.MakeNoZero"], unfollowed := true, recurses := true, named := ["unicode/utf8.first", "unicode/utf8.acceptRanges", "internal/bytealg.MaxLen", "hauberk/prose.signs", "internal/strconv.uint64pow10", "math/bits.deBruijn32tab", "math/bits.deBruijn64tab"], apart := false, laid := [("math/bits.deBruijn32tab", laid_math_bits_deBruijn32tab), ("math/bits.deBruijn64tab", laid_math_bits_deBruijn64tab), ("internal/strconv.uint64pow10", laid_internal_strconv_uint64pow10), ("unicode/utf8.acceptRanges", laid_unicode_utf8_acceptRanges), ("hauberk/prose.signs", laid_hauberk_prose_signs), ("unicode/utf8.first", laid_unicode_utf8_first)] }
def ProseExprSaid : Prop := proseExprRow.holds Tryz.pinned (OpenSpec.ofChange proseExprSpec)

/-- ITS FALSE NEIGHBOUR: 'it returns false'. Refute it at one input. -/
def proseExprWrong : ChangeSpec := { name := "proseExpr", fn := fun _ => fun
  | [d1, d2] => { results := [.lit (.bool false)], args := [d1, d2] }
  | _ => none }
def ProseExprWrongFalsely : Prop := proseExprRow.holds Tryz.pinned (OpenSpec.ofChange proseExprWrong)

/-- 'hauberklaw13.ProseBack': WHATEVER THE INPUT: true; the input reads as it did. -/
def proseBackSpec : ChangeSpec := { name := "proseBack", fn := fun _ => fun
  | [d] => { results := [.lit (.bool true)], args := [d] }
  | _ => none }
def proseBackRow : OpenClaim := { program := "ytjfdcnggnldgdaagreatdoor", sum := "ce886af84316d84c4f885117c772def228d654ca653fff8ee47496a13d712f77", func := "hauberk/hauberklaw13.ProseBack", spec := "proseBack", inPlace := ["internal/bytealg.IndexByteString", "internal/bytealg.IndexString", "internal/abi.NoEscape", "internal/bytealg.MakeNoZero"], unfollowed := true, recurses := true, named := ["unicode/utf8.first", "unicode/utf8.acceptRanges", "internal/bytealg.MaxLen", "hauberk/syntax.between", "hauberk/prose.signs", "internal/strconv.uint64pow10", "math/bits.deBruijn32tab", "math/bits.deBruijn64tab"], apart := false, laid := [("math/bits.deBruijn32tab", laid_math_bits_deBruijn32tab), ("math/bits.deBruijn64tab", laid_math_bits_deBruijn64tab), ("internal/strconv.uint64pow10", laid_internal_strconv_uint64pow10), ("unicode/utf8.acceptRanges", laid_unicode_utf8_acceptRanges), ("hauberk/prose.signs", laid_hauberk_prose_signs), ("hauberk/syntax.between", laid_hauberk_syntax_between), ("unicode/utf8.first", laid_unicode_utf8_first)] }
def ProseBackSaid : Prop := proseBackRow.holds Tryz.pinned (OpenSpec.ofChange proseBackSpec)

/-- ITS FALSE NEIGHBOUR: 'it returns false'. Refute it at one input. -/
def proseBackWrong : ChangeSpec := { name := "proseBack", fn := fun _ => fun
  | [d] => { results := [.lit (.bool false)], args := [d] }
  | _ => none }
def ProseBackWrongFalsely : Prop := proseBackRow.holds Tryz.pinned (OpenSpec.ofChange proseBackWrong)

/-- 'hauberklaw13.ProseLines': WHATEVER THE INPUT: true; the input reads as it did. -/
def proseLinesSpec : ChangeSpec := { name := "proseLines", fn := fun _ => fun
  | [d] => { results := [.lit (.bool true)], args := [d] }
  | _ => none }
def proseLinesRow : OpenClaim := { program := "ytjfdcnggnldgdaagreatdoor", sum := "ce886af84316d84c4f885117c772def228d654ca653fff8ee47496a13d712f77", func := "hauberk/hauberklaw13.ProseLines", spec := "proseLines", inPlace := ["internal/bytealg.IndexByteString", "internal/bytealg.IndexString", "internal/abi.NoEscape", "internal/bytealg.MakeNoZero"], unfollowed := true, recurses := true, named := ["unicode/utf8.first", "unicode/utf8.acceptRanges", "internal/bytealg.MaxLen", "hauberk/syntax.between", "hauberk/prose.signs", "internal/strconv.uint64pow10", "math/bits.deBruijn32tab", "math/bits.deBruijn64tab"], apart := false, laid := [("math/bits.deBruijn32tab", laid_math_bits_deBruijn32tab), ("math/bits.deBruijn64tab", laid_math_bits_deBruijn64tab), ("internal/strconv.uint64pow10", laid_internal_strconv_uint64pow10), ("unicode/utf8.acceptRanges", laid_unicode_utf8_acceptRanges), ("hauberk/prose.signs", laid_hauberk_prose_signs), ("hauberk/syntax.between", laid_hauberk_syntax_between), ("unicode/utf8.first", laid_unicode_utf8_first)] }
def ProseLinesSaid : Prop := proseLinesRow.holds Tryz.pinned (OpenSpec.ofChange proseLinesSpec)

/-- ITS FALSE NEIGHBOUR: 'it returns false'. Refute it at one input. -/
def proseLinesWrong : ChangeSpec := { name := "proseLines", fn := fun _ => fun
  | [d] => { results := [.lit (.bool false)], args := [d] }
  | _ => none }
def ProseLinesWrongFalsely : Prop := proseLinesRow.holds Tryz.pinned (OpenSpec.ofChange proseLinesWrong)

/-- 'hauberklaw14.TypesCheck': WHATEVER THE INPUT: true; the input reads as it did. -/
def typesCheckSpec : ChangeSpec := { name := "typesCheck", fn := fun _ => fun
  | [d] => { results := [.lit (.bool true)], args := [d] }
  | _ => none }
def typesCheckRow : OpenClaim := { program := "ytjfdcnggnldgdaagreatdoor", sum := "ce886af84316d84c4f885117c772def228d654ca653fff8ee47496a13d712f77", func := "hauberk/hauberklaw14.TypesCheck", spec := "typesCheck", inPlace := ["internal/bytealg.IndexByteString", "internal/bytealg.IndexString", "internal/abi.NoEscape", "internal/bytealg.MakeNoZero"], unfollowed := true, recurses := true, named := ["unicode/utf8.first", "unicode/utf8.acceptRanges", "internal/bytealg.MaxLen", "hauberk/prose.signs", "internal/strconv.uint64pow10", "math/bits.deBruijn32tab", "math/bits.deBruijn64tab"], apart := false, laid := [("math/bits.deBruijn32tab", laid_math_bits_deBruijn32tab), ("math/bits.deBruijn64tab", laid_math_bits_deBruijn64tab), ("internal/strconv.uint64pow10", laid_internal_strconv_uint64pow10), ("unicode/utf8.acceptRanges", laid_unicode_utf8_acceptRanges), ("hauberk/prose.signs", laid_hauberk_prose_signs), ("unicode/utf8.first", laid_unicode_utf8_first)] }
def TypesCheckSaid : Prop := typesCheckRow.holds Tryz.pinned (OpenSpec.ofChange typesCheckSpec)

/-- ITS FALSE NEIGHBOUR: 'it returns false'. Refute it at one input. -/
def typesCheckWrong : ChangeSpec := { name := "typesCheck", fn := fun _ => fun
  | [d] => { results := [.lit (.bool false)], args := [d] }
  | _ => none }
def TypesCheckWrongFalsely : Prop := typesCheckRow.holds Tryz.pinned (OpenSpec.ofChange typesCheckWrong)

/-- 'hauberklaw14.TypesChanged': WHATEVER THE INPUT: true; the input reads as it did. -/
def typesChangedSpec : ChangeSpec := { name := "typesChanged", fn := fun _ => fun
  | [d1, d2] => { results := [.lit (.bool true)], args := [d1, d2] }
  | _ => none }
def typesChangedRow : OpenClaim := { program := "ytjfdcnggnldgdaagreatdoor", sum := "ce886af84316d84c4f885117c772def228d654ca653fff8ee47496a13d712f77", func := "hauberk/hauberklaw14.TypesChanged", spec := "typesChanged", inPlace := ["internal/bytealg.IndexByteString", "internal/bytealg.IndexString", "internal/abi.NoEscape", "internal/bytealg.MakeNoZero"], unfollowed := true, recurses := true, named := ["unicode/utf8.first", "unicode/utf8.acceptRanges", "internal/bytealg.MaxLen", "hauberk/prose.signs", "internal/strconv.uint64pow10", "math/bits.deBruijn32tab", "math/bits.deBruijn64tab"], apart := false, laid := [("math/bits.deBruijn32tab", laid_math_bits_deBruijn32tab), ("math/bits.deBruijn64tab", laid_math_bits_deBruijn64tab), ("internal/strconv.uint64pow10", laid_internal_strconv_uint64pow10), ("unicode/utf8.acceptRanges", laid_unicode_utf8_acceptRanges), ("hauberk/prose.signs", laid_hauberk_prose_signs), ("unicode/utf8.first", laid_unicode_utf8_first)] }
def TypesChangedSaid : Prop := typesChangedRow.holds Tryz.pinned (OpenSpec.ofChange typesChangedSpec)

/-- ITS FALSE NEIGHBOUR: 'it returns false'. Refute it at one input. -/
def typesChangedWrong : ChangeSpec := { name := "typesChanged", fn := fun _ => fun
  | [d1, d2] => { results := [.lit (.bool false)], args := [d1, d2] }
  | _ => none }
def TypesChangedWrongFalsely : Prop := typesChangedRow.holds Tryz.pinned (OpenSpec.ofChange typesChangedWrong)

/-- 'hauberklaw14.TypesOpen': WHATEVER THE INPUT: true; the input reads as it did. -/
def typesOpenSpec : ChangeSpec := { name := "typesOpen", fn := fun _ => fun
  | [d] => { results := [.lit (.bool true)], args := [d] }
  | _ => none }
def typesOpenRow : OpenClaim := { program := "ytjfdcnggnldgdaagreatdoor", sum := "ce886af84316d84c4f885117c772def228d654ca653fff8ee47496a13d712f77", func := "hauberk/hauberklaw14.TypesOpen", spec := "typesOpen", inPlace := ["internal/bytealg.IndexByteString", "internal/bytealg.IndexString", "internal/abi.NoEscape", "internal/bytealg.MakeNoZero"], unfollowed := true, recurses := true, named := ["unicode/utf8.first", "unicode/utf8.acceptRanges", "internal/bytealg.MaxLen", "hauberk/syntax.between", "hauberk/prose.signs", "internal/strconv.uint64pow10", "math/bits.deBruijn32tab", "math/bits.deBruijn64tab"], apart := false, laid := [("math/bits.deBruijn32tab", laid_math_bits_deBruijn32tab), ("math/bits.deBruijn64tab", laid_math_bits_deBruijn64tab), ("internal/strconv.uint64pow10", laid_internal_strconv_uint64pow10), ("unicode/utf8.acceptRanges", laid_unicode_utf8_acceptRanges), ("hauberk/prose.signs", laid_hauberk_prose_signs), ("hauberk/syntax.between", laid_hauberk_syntax_between), ("unicode/utf8.first", laid_unicode_utf8_first)] }
def TypesOpenSaid : Prop := typesOpenRow.holds Tryz.pinned (OpenSpec.ofChange typesOpenSpec)

/-- ITS FALSE NEIGHBOUR: 'it returns false'. Refute it at one input. -/
def typesOpenWrong : ChangeSpec := { name := "typesOpen", fn := fun _ => fun
  | [d] => { results := [.lit (.bool false)], args := [d] }
  | _ => none }
def TypesOpenWrongFalsely : Prop := typesOpenRow.holds Tryz.pinned (OpenSpec.ofChange typesOpenWrong)

/-- 'hauberklaw14.TypesAhead': WHATEVER THE INPUT: true; the input reads as it did. -/
def typesAheadSpec : ChangeSpec := { name := "typesAhead", fn := fun _ => fun
  | [d] => { results := [.lit (.bool true)], args := [d] }
  | _ => none }
def typesAheadRow : OpenClaim := { program := "ytjfdcnggnldgdaagreatdoor", sum := "ce886af84316d84c4f885117c772def228d654ca653fff8ee47496a13d712f77", func := "hauberk/hauberklaw14.TypesAhead", spec := "typesAhead", inPlace := ["internal/bytealg.IndexByteString", "internal/bytealg.IndexString", "internal/abi.NoEscape", "internal/bytealg.MakeNoZero"], unfollowed := true, recurses := true, named := ["unicode/utf8.first", "unicode/utf8.acceptRanges", "internal/bytealg.MaxLen", "hauberk/prose.signs", "internal/strconv.uint64pow10", "math/bits.deBruijn32tab", "math/bits.deBruijn64tab", "hauberk/syntax.between"], apart := false, laid := [("math/bits.deBruijn32tab", laid_math_bits_deBruijn32tab), ("math/bits.deBruijn64tab", laid_math_bits_deBruijn64tab), ("internal/strconv.uint64pow10", laid_internal_strconv_uint64pow10), ("unicode/utf8.acceptRanges", laid_unicode_utf8_acceptRanges), ("hauberk/prose.signs", laid_hauberk_prose_signs), ("hauberk/syntax.between", laid_hauberk_syntax_between), ("unicode/utf8.first", laid_unicode_utf8_first)] }
def TypesAheadSaid : Prop := typesAheadRow.holds Tryz.pinned (OpenSpec.ofChange typesAheadSpec)

/-- ITS FALSE NEIGHBOUR: 'it returns false'. Refute it at one input. -/
def typesAheadWrong : ChangeSpec := { name := "typesAhead", fn := fun _ => fun
  | [d] => { results := [.lit (.bool false)], args := [d] }
  | _ => none }
def TypesAheadWrongFalsely : Prop := typesAheadRow.holds Tryz.pinned (OpenSpec.ofChange typesAheadWrong)

/- THE SECOND FORM. 'bulk': how many values and letters a reading holds, each counted each time it is reached (what is shared counts as often as it is met; a slice's spare places count too). A statement '..UptoSaid' is the law's where the arguments, and the package variables that the reading takes, are together of bulk at most 1048576: NARROWER than '..Said'. Prove '..Said' where nothing that the law and all that it calls make is longer than what came in: it says more and counts as full. Else prove '..UptoSaid'. A law counts once. -/
mutual
def uptoBulk {H : Type} : DataW H → Nat
  | .lit (.string bytes) => bytes.length + 1
  | .lit _ => 1
  | .nil => 1
  | .ptr d => uptoBulk d + 1
  | .slice elems spare => uptoBulkAll elems + uptoBulkAll spare + 1
  | .agg parts => uptoBulkAll parts + 1
  | .iface _ d => uptoBulk d + 1
  | .map entries => uptoBulkEntries entries + 1
  | .held _ => 1
def uptoBulkAll {H : Type} : List (DataW H) → Nat
  | [] => 0
  | d :: r => uptoBulk d + uptoBulkAll r
def uptoBulkEntries {H : Type} : List (Lit × DataW H) → Nat
  | [] => 0
  | x :: r => uptoBulkEntry x + uptoBulkEntries r
def uptoBulkEntry {H : Type} : Lit × DataW H → Nat
  | (.string bytes, d) => bytes.length + uptoBulk d + 1
  | (_, d) => uptoBulk d + 1
 end
def uptoSmall : (H : Type) → List (DataW H) → Bool := fun _ ds => decide (uptoBulkAll ds ≤ 1048576)
def OpenSpec.upto (s : _root_.Go.ChangeSpec) : _root_.Go.OpenSpec := { _root_.Go.OpenSpec.ofChange s with cond := some uptoSmall }

/-- 'hauberklaw12.SyntaxParses', WHERE WHAT IT READS IS OF BULK AT MOST 1048576: true; the input reads as it did. -/
def syntaxParsesUptoRow : OpenClaim := { program := "ytjfdcnggnldgdaagreatdoor", sum := "ce886af84316d84c4f885117c772def228d654ca653fff8ee47496a13d712f77", func := "hauberk/hauberklaw12.SyntaxParses", spec := "syntaxParses", inPlace := ["internal/bytealg.IndexByteString", "internal/bytealg.IndexString"], unfollowed := true, recurses := true, named := ["unicode/utf8.first", "unicode/utf8.acceptRanges", "internal/bytealg.MaxLen", "hauberk/syntax.between"], apart := false, laid := [("unicode/utf8.acceptRanges", laid_unicode_utf8_acceptRanges), ("hauberk/syntax.between", laid_hauberk_syntax_between), ("unicode/utf8.first", laid_unicode_utf8_first)], narrowed := true }
def SyntaxParsesUptoSaid : Prop := syntaxParsesUptoRow.holds Tryz.pinned (OpenSpec.upto syntaxParsesSpec)

/-- 'hauberklaw13.ProseTells', WHERE WHAT IT READS IS OF BULK AT MOST 1048576: true; the input reads as it did. -/
def proseTellsUptoRow : OpenClaim := { program := "ytjfdcnggnldgdaagreatdoor", sum := "ce886af84316d84c4f885117c772def228d654ca653fff8ee47496a13d712f77", func := "hauberk/hauberklaw13.ProseTells", spec := "proseTells", inPlace := ["internal/bytealg.IndexByteString", "internal/bytealg.IndexString", "internal/abi.NoEscape", "internal/bytealg.MakeNoZero"], unfollowed := true, recurses := true, named := ["unicode/utf8.first", "unicode/utf8.acceptRanges", "internal/bytealg.MaxLen", "hauberk/prose.signs", "internal/strconv.uint64pow10", "math/bits.deBruijn32tab", "math/bits.deBruijn64tab"], apart := false, laid := [("math/bits.deBruijn32tab", laid_math_bits_deBruijn32tab), ("math/bits.deBruijn64tab", laid_math_bits_deBruijn64tab), ("internal/strconv.uint64pow10", laid_internal_strconv_uint64pow10), ("unicode/utf8.acceptRanges", laid_unicode_utf8_acceptRanges), ("hauberk/prose.signs", laid_hauberk_prose_signs), ("unicode/utf8.first", laid_unicode_utf8_first)], narrowed := true }
def ProseTellsUptoSaid : Prop := proseTellsUptoRow.holds Tryz.pinned (OpenSpec.upto proseTellsSpec)

/-- 'hauberklaw13.ProseExpr', WHERE WHAT IT READS IS OF BULK AT MOST 1048576: true; the input reads as it did. -/
def proseExprUptoRow : OpenClaim := { program := "ytjfdcnggnldgdaagreatdoor", sum := "ce886af84316d84c4f885117c772def228d654ca653fff8ee47496a13d712f77", func := "hauberk/hauberklaw13.ProseExpr", spec := "proseExpr", inPlace := ["internal/bytealg.IndexByteString", "internal/bytealg.IndexString", "internal/abi.NoEscape", "internal/bytealg.MakeNoZero"], unfollowed := true, recurses := true, named := ["unicode/utf8.first", "unicode/utf8.acceptRanges", "internal/bytealg.MaxLen", "hauberk/prose.signs", "internal/strconv.uint64pow10", "math/bits.deBruijn32tab", "math/bits.deBruijn64tab"], apart := false, laid := [("math/bits.deBruijn32tab", laid_math_bits_deBruijn32tab), ("math/bits.deBruijn64tab", laid_math_bits_deBruijn64tab), ("internal/strconv.uint64pow10", laid_internal_strconv_uint64pow10), ("unicode/utf8.acceptRanges", laid_unicode_utf8_acceptRanges), ("hauberk/prose.signs", laid_hauberk_prose_signs), ("unicode/utf8.first", laid_unicode_utf8_first)], narrowed := true }
def ProseExprUptoSaid : Prop := proseExprUptoRow.holds Tryz.pinned (OpenSpec.upto proseExprSpec)

/-- 'hauberklaw13.ProseBack', WHERE WHAT IT READS IS OF BULK AT MOST 1048576: true; the input reads as it did. -/
def proseBackUptoRow : OpenClaim := { program := "ytjfdcnggnldgdaagreatdoor", sum := "ce886af84316d84c4f885117c772def228d654ca653fff8ee47496a13d712f77", func := "hauberk/hauberklaw13.ProseBack", spec := "proseBack", inPlace := ["internal/bytealg.IndexByteString", "internal/bytealg.IndexString", "internal/abi.NoEscape", "internal/bytealg.MakeNoZero"], unfollowed := true, recurses := true, named := ["unicode/utf8.first", "unicode/utf8.acceptRanges", "internal/bytealg.MaxLen", "hauberk/syntax.between", "hauberk/prose.signs", "internal/strconv.uint64pow10", "math/bits.deBruijn32tab", "math/bits.deBruijn64tab"], apart := false, laid := [("math/bits.deBruijn32tab", laid_math_bits_deBruijn32tab), ("math/bits.deBruijn64tab", laid_math_bits_deBruijn64tab), ("internal/strconv.uint64pow10", laid_internal_strconv_uint64pow10), ("unicode/utf8.acceptRanges", laid_unicode_utf8_acceptRanges), ("hauberk/prose.signs", laid_hauberk_prose_signs), ("hauberk/syntax.between", laid_hauberk_syntax_between), ("unicode/utf8.first", laid_unicode_utf8_first)], narrowed := true }
def ProseBackUptoSaid : Prop := proseBackUptoRow.holds Tryz.pinned (OpenSpec.upto proseBackSpec)

/-- 'hauberklaw13.ProseLines', WHERE WHAT IT READS IS OF BULK AT MOST 1048576: true; the input reads as it did. -/
def proseLinesUptoRow : OpenClaim := { program := "ytjfdcnggnldgdaagreatdoor", sum := "ce886af84316d84c4f885117c772def228d654ca653fff8ee47496a13d712f77", func := "hauberk/hauberklaw13.ProseLines", spec := "proseLines", inPlace := ["internal/bytealg.IndexByteString", "internal/bytealg.IndexString", "internal/abi.NoEscape", "internal/bytealg.MakeNoZero"], unfollowed := true, recurses := true, named := ["unicode/utf8.first", "unicode/utf8.acceptRanges", "internal/bytealg.MaxLen", "hauberk/syntax.between", "hauberk/prose.signs", "internal/strconv.uint64pow10", "math/bits.deBruijn32tab", "math/bits.deBruijn64tab"], apart := false, laid := [("math/bits.deBruijn32tab", laid_math_bits_deBruijn32tab), ("math/bits.deBruijn64tab", laid_math_bits_deBruijn64tab), ("internal/strconv.uint64pow10", laid_internal_strconv_uint64pow10), ("unicode/utf8.acceptRanges", laid_unicode_utf8_acceptRanges), ("hauberk/prose.signs", laid_hauberk_prose_signs), ("hauberk/syntax.between", laid_hauberk_syntax_between), ("unicode/utf8.first", laid_unicode_utf8_first)], narrowed := true }
def ProseLinesUptoSaid : Prop := proseLinesUptoRow.holds Tryz.pinned (OpenSpec.upto proseLinesSpec)

/-- 'hauberklaw14.TypesCheck', WHERE WHAT IT READS IS OF BULK AT MOST 1048576: true; the input reads as it did. -/
def typesCheckUptoRow : OpenClaim := { program := "ytjfdcnggnldgdaagreatdoor", sum := "ce886af84316d84c4f885117c772def228d654ca653fff8ee47496a13d712f77", func := "hauberk/hauberklaw14.TypesCheck", spec := "typesCheck", inPlace := ["internal/bytealg.IndexByteString", "internal/bytealg.IndexString", "internal/abi.NoEscape", "internal/bytealg.MakeNoZero"], unfollowed := true, recurses := true, named := ["unicode/utf8.first", "unicode/utf8.acceptRanges", "internal/bytealg.MaxLen", "hauberk/prose.signs", "internal/strconv.uint64pow10", "math/bits.deBruijn32tab", "math/bits.deBruijn64tab"], apart := false, laid := [("math/bits.deBruijn32tab", laid_math_bits_deBruijn32tab), ("math/bits.deBruijn64tab", laid_math_bits_deBruijn64tab), ("internal/strconv.uint64pow10", laid_internal_strconv_uint64pow10), ("unicode/utf8.acceptRanges", laid_unicode_utf8_acceptRanges), ("hauberk/prose.signs", laid_hauberk_prose_signs), ("unicode/utf8.first", laid_unicode_utf8_first)], narrowed := true }
def TypesCheckUptoSaid : Prop := typesCheckUptoRow.holds Tryz.pinned (OpenSpec.upto typesCheckSpec)

/-- 'hauberklaw14.TypesChanged', WHERE WHAT IT READS IS OF BULK AT MOST 1048576: true; the input reads as it did. -/
def typesChangedUptoRow : OpenClaim := { program := "ytjfdcnggnldgdaagreatdoor", sum := "ce886af84316d84c4f885117c772def228d654ca653fff8ee47496a13d712f77", func := "hauberk/hauberklaw14.TypesChanged", spec := "typesChanged", inPlace := ["internal/bytealg.IndexByteString", "internal/bytealg.IndexString", "internal/abi.NoEscape", "internal/bytealg.MakeNoZero"], unfollowed := true, recurses := true, named := ["unicode/utf8.first", "unicode/utf8.acceptRanges", "internal/bytealg.MaxLen", "hauberk/prose.signs", "internal/strconv.uint64pow10", "math/bits.deBruijn32tab", "math/bits.deBruijn64tab"], apart := false, laid := [("math/bits.deBruijn32tab", laid_math_bits_deBruijn32tab), ("math/bits.deBruijn64tab", laid_math_bits_deBruijn64tab), ("internal/strconv.uint64pow10", laid_internal_strconv_uint64pow10), ("unicode/utf8.acceptRanges", laid_unicode_utf8_acceptRanges), ("hauberk/prose.signs", laid_hauberk_prose_signs), ("unicode/utf8.first", laid_unicode_utf8_first)], narrowed := true }
def TypesChangedUptoSaid : Prop := typesChangedUptoRow.holds Tryz.pinned (OpenSpec.upto typesChangedSpec)

/-- 'hauberklaw14.TypesOpen', WHERE WHAT IT READS IS OF BULK AT MOST 1048576: true; the input reads as it did. -/
def typesOpenUptoRow : OpenClaim := { program := "ytjfdcnggnldgdaagreatdoor", sum := "ce886af84316d84c4f885117c772def228d654ca653fff8ee47496a13d712f77", func := "hauberk/hauberklaw14.TypesOpen", spec := "typesOpen", inPlace := ["internal/bytealg.IndexByteString", "internal/bytealg.IndexString", "internal/abi.NoEscape", "internal/bytealg.MakeNoZero"], unfollowed := true, recurses := true, named := ["unicode/utf8.first", "unicode/utf8.acceptRanges", "internal/bytealg.MaxLen", "hauberk/syntax.between", "hauberk/prose.signs", "internal/strconv.uint64pow10", "math/bits.deBruijn32tab", "math/bits.deBruijn64tab"], apart := false, laid := [("math/bits.deBruijn32tab", laid_math_bits_deBruijn32tab), ("math/bits.deBruijn64tab", laid_math_bits_deBruijn64tab), ("internal/strconv.uint64pow10", laid_internal_strconv_uint64pow10), ("unicode/utf8.acceptRanges", laid_unicode_utf8_acceptRanges), ("hauberk/prose.signs", laid_hauberk_prose_signs), ("hauberk/syntax.between", laid_hauberk_syntax_between), ("unicode/utf8.first", laid_unicode_utf8_first)], narrowed := true }
def TypesOpenUptoSaid : Prop := typesOpenUptoRow.holds Tryz.pinned (OpenSpec.upto typesOpenSpec)

/-- 'hauberklaw14.TypesAhead', WHERE WHAT IT READS IS OF BULK AT MOST 1048576: true; the input reads as it did. -/
def typesAheadUptoRow : OpenClaim := { program := "ytjfdcnggnldgdaagreatdoor", sum := "ce886af84316d84c4f885117c772def228d654ca653fff8ee47496a13d712f77", func := "hauberk/hauberklaw14.TypesAhead", spec := "typesAhead", inPlace := ["internal/bytealg.IndexByteString", "internal/bytealg.IndexString", "internal/abi.NoEscape", "internal/bytealg.MakeNoZero"], unfollowed := true, recurses := true, named := ["unicode/utf8.first", "unicode/utf8.acceptRanges", "internal/bytealg.MaxLen", "hauberk/prose.signs", "internal/strconv.uint64pow10", "math/bits.deBruijn32tab", "math/bits.deBruijn64tab", "hauberk/syntax.between"], apart := false, laid := [("math/bits.deBruijn32tab", laid_math_bits_deBruijn32tab), ("math/bits.deBruijn64tab", laid_math_bits_deBruijn64tab), ("internal/strconv.uint64pow10", laid_internal_strconv_uint64pow10), ("unicode/utf8.acceptRanges", laid_unicode_utf8_acceptRanges), ("hauberk/prose.signs", laid_hauberk_prose_signs), ("hauberk/syntax.between", laid_hauberk_syntax_between), ("unicode/utf8.first", laid_unicode_utf8_first)], narrowed := true }
def TypesAheadUptoSaid : Prop := typesAheadUptoRow.holds Tryz.pinned (OpenSpec.upto typesAheadSpec)

end Rows
end Go.Proofs.YtjfdcnggnldgdaaGreatDoor
