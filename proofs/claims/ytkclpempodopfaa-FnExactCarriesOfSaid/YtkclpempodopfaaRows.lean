/-
  No cell of these rows narrows 'for every input' (looked for: loops, veiled, ifaces, maps, wideKeys, modest, calm, conditions, laid).
  DERIVED. THE GIVEN ROWS OF THIS SEAT. 12 by the template 'for every input the law returns true; each argument reads behind the call as it read before'; 0 by the template 'total and deterministic' (their statements: YtkclpempodopfaaTotals.lean).
  GIVEN WITH THE SEED: the statements are not yours to turn. If you find one false, say at which input.
  Laid BY PROGRAM, IN A SANDBOX (cutbox-rows.mjs): the forced cells as the released guide's own fill.sh prints them over the translation a58a0233b42f0216… (all of the seat's roots in one cut). By AI agents, Wed Nov 11 2026. No macro, syntax, notation, axiom, sorry.
-/
import Derived.Test.YtkclpempodopfaaChecked
import GoSem.Claim
import GoSem.ClaimJoined
import GoSem.ClaimMapViews
import Derived.JoinedTies
import Derived.KernelRfl
namespace Go.Proofs.Ytkclpempodopfaa
/- THE CELL 'sum', in the pinned program and in every row, IS THE sha256 OF THE DUMP (.gsa) THAT YtkclpempodopfaaProg.lean LOADS. Nothing in Lean hashes anything: it is a label: what it is worth is what the hold of that sum in a sandbox is worth. -/
noncomputable def Try.pinned : Pinned := { name := "ytkclpempodopfaa", sum := "a58a0233b42f021617475d7cb0129941f0f740c2be9df429b23c5ba248533a13", checked := Try.checked }
namespace Rows
def none {H : Type} : Left H := { results := [], args := [] }

/-- 'laws.FnExactTakeDigit': WHATEVER THE INPUT: true; the input reads as it did. -/
def fnExactTakeDigitSpec : ChangeSpec := { name := "fnExactTakeDigit", fn := fun _ => fun
  | [d1, d2, d3] => { results := [.lit (.bool true)], args := [d1, d2, d3] }
  | _ => none }
def fnExactTakeDigitRow : OpenClaim := { program := "ytkclpempodopfaa", sum := "a58a0233b42f021617475d7cb0129941f0f740c2be9df429b23c5ba248533a13", func := "loop.example/g01006/laws.FnExactTakeDigit", spec := "fnExactTakeDigit", recurses := true, apart := false }
def FnExactTakeDigitSaid : Prop := fnExactTakeDigitRow.holds Try.pinned (OpenSpec.ofChange fnExactTakeDigitSpec)

/-- ITS FALSE NEIGHBOUR: 'it returns false'. Refute it at one input. -/
def fnExactTakeDigitWrong : ChangeSpec := { name := "fnExactTakeDigit", fn := fun _ => fun
  | [d1, d2, d3] => { results := [.lit (.bool false)], args := [d1, d2, d3] }
  | _ => none }
def FnExactTakeDigitWrongFalsely : Prop := fnExactTakeDigitRow.holds Try.pinned (OpenSpec.ofChange fnExactTakeDigitWrong)

/-- 'laws.FnExactTakeDigitMoves': WHATEVER THE INPUT: true; the input reads as it did. -/
def fnExactTakeDigitMovesSpec : ChangeSpec := { name := "fnExactTakeDigitMoves", fn := fun _ => fun
  | [d1, d2, d3] => { results := [.lit (.bool true)], args := [d1, d2, d3] }
  | _ => none }
def fnExactTakeDigitMovesRow : OpenClaim := { program := "ytkclpempodopfaa", sum := "a58a0233b42f021617475d7cb0129941f0f740c2be9df429b23c5ba248533a13", func := "loop.example/g01006/laws.FnExactTakeDigitMoves", spec := "fnExactTakeDigitMoves", recurses := true, apart := false }
def FnExactTakeDigitMovesSaid : Prop := fnExactTakeDigitMovesRow.holds Try.pinned (OpenSpec.ofChange fnExactTakeDigitMovesSpec)

/-- ITS FALSE NEIGHBOUR: 'it returns false'. Refute it at one input. -/
def fnExactTakeDigitMovesWrong : ChangeSpec := { name := "fnExactTakeDigitMoves", fn := fun _ => fun
  | [d1, d2, d3] => { results := [.lit (.bool false)], args := [d1, d2, d3] }
  | _ => none }
def FnExactTakeDigitMovesWrongFalsely : Prop := fnExactTakeDigitMovesRow.holds Try.pinned (OpenSpec.ofChange fnExactTakeDigitMovesWrong)

/-- 'laws.FnExactTakeNumber': WHATEVER THE INPUT: true; the input reads as it did. -/
def fnExactTakeNumberSpec : ChangeSpec := { name := "fnExactTakeNumber", fn := fun _ => fun
  | [d1, d2] => { results := [.lit (.bool true)], args := [d1, d2] }
  | _ => none }
def fnExactTakeNumberRow : OpenClaim := { program := "ytkclpempodopfaa", sum := "a58a0233b42f021617475d7cb0129941f0f740c2be9df429b23c5ba248533a13", func := "loop.example/g01006/laws.FnExactTakeNumber", spec := "fnExactTakeNumber", recurses := true, apart := false }
def FnExactTakeNumberSaid : Prop := fnExactTakeNumberRow.holds Try.pinned (OpenSpec.ofChange fnExactTakeNumberSpec)

/-- ITS FALSE NEIGHBOUR: 'it returns false'. Refute it at one input. -/
def fnExactTakeNumberWrong : ChangeSpec := { name := "fnExactTakeNumber", fn := fun _ => fun
  | [d1, d2] => { results := [.lit (.bool false)], args := [d1, d2] }
  | _ => none }
def FnExactTakeNumberWrongFalsely : Prop := fnExactTakeNumberRow.holds Try.pinned (OpenSpec.ofChange fnExactTakeNumberWrong)

/-- 'laws.FnExactTakeNumberMoves': WHATEVER THE INPUT: true; the input reads as it did. -/
def fnExactTakeNumberMovesSpec : ChangeSpec := { name := "fnExactTakeNumberMoves", fn := fun _ => fun
  | [d1, d2] => { results := [.lit (.bool true)], args := [d1, d2] }
  | _ => none }
def fnExactTakeNumberMovesRow : OpenClaim := { program := "ytkclpempodopfaa", sum := "a58a0233b42f021617475d7cb0129941f0f740c2be9df429b23c5ba248533a13", func := "loop.example/g01006/laws.FnExactTakeNumberMoves", spec := "fnExactTakeNumberMoves", recurses := true, apart := false }
def FnExactTakeNumberMovesSaid : Prop := fnExactTakeNumberMovesRow.holds Try.pinned (OpenSpec.ofChange fnExactTakeNumberMovesSpec)

/-- ITS FALSE NEIGHBOUR: 'it returns false'. Refute it at one input. -/
def fnExactTakeNumberMovesWrong : ChangeSpec := { name := "fnExactTakeNumberMoves", fn := fun _ => fun
  | [d1, d2] => { results := [.lit (.bool false)], args := [d1, d2] }
  | _ => none }
def FnExactTakeNumberMovesWrongFalsely : Prop := fnExactTakeNumberMovesRow.holds Try.pinned (OpenSpec.ofChange fnExactTakeNumberMovesWrong)

/-- 'laws.FnExactBorrowsOf': WHATEVER THE INPUT: true; the input reads as it did. -/
def fnExactBorrowsOfSpec : ChangeSpec := { name := "fnExactBorrowsOf", fn := fun _ => fun
  | [d1, d2] => { results := [.lit (.bool true)], args := [d1, d2] }
  | _ => none }
def fnExactBorrowsOfRow : OpenClaim := { program := "ytkclpempodopfaa", sum := "a58a0233b42f021617475d7cb0129941f0f740c2be9df429b23c5ba248533a13", func := "loop.example/g01006/laws.FnExactBorrowsOf", spec := "fnExactBorrowsOf", recurses := true, apart := false }
def FnExactBorrowsOfSaid : Prop := fnExactBorrowsOfRow.holds Try.pinned (OpenSpec.ofChange fnExactBorrowsOfSpec)

/-- ITS FALSE NEIGHBOUR: 'it returns false'. Refute it at one input. -/
def fnExactBorrowsOfWrong : ChangeSpec := { name := "fnExactBorrowsOf", fn := fun _ => fun
  | [d1, d2] => { results := [.lit (.bool false)], args := [d1, d2] }
  | _ => none }
def FnExactBorrowsOfWrongFalsely : Prop := fnExactBorrowsOfRow.holds Try.pinned (OpenSpec.ofChange fnExactBorrowsOfWrong)

/-- 'laws.FnExactHowOften': WHATEVER THE INPUT: true; the input reads as it did. -/
def fnExactHowOftenSpec : ChangeSpec := { name := "fnExactHowOften", fn := fun _ => fun
  | [d1, d2] => { results := [.lit (.bool true)], args := [d1, d2] }
  | _ => none }
def fnExactHowOftenRow : OpenClaim := { program := "ytkclpempodopfaa", sum := "a58a0233b42f021617475d7cb0129941f0f740c2be9df429b23c5ba248533a13", func := "loop.example/g01006/laws.FnExactHowOften", spec := "fnExactHowOften", apart := false }
def FnExactHowOftenSaid : Prop := fnExactHowOftenRow.holds Try.pinned (OpenSpec.ofChange fnExactHowOftenSpec)

/-- ITS FALSE NEIGHBOUR: 'it returns false'. Refute it at one input. -/
def fnExactHowOftenWrong : ChangeSpec := { name := "fnExactHowOften", fn := fun _ => fun
  | [d1, d2] => { results := [.lit (.bool false)], args := [d1, d2] }
  | _ => none }
def FnExactHowOftenWrongFalsely : Prop := fnExactHowOftenRow.holds Try.pinned (OpenSpec.ofChange fnExactHowOftenWrong)

/-- 'laws.FnExactCountDown': WHATEVER THE INPUT: true; the input reads as it did. -/
def fnExactCountDownSpec : ChangeSpec := { name := "fnExactCountDown", fn := fun _ => fun
  | [d1, d2] => { results := [.lit (.bool true)], args := [d1, d2] }
  | _ => none }
def fnExactCountDownRow : OpenClaim := { program := "ytkclpempodopfaa", sum := "a58a0233b42f021617475d7cb0129941f0f740c2be9df429b23c5ba248533a13", func := "loop.example/g01006/laws.FnExactCountDown", spec := "fnExactCountDown", apart := false }
def FnExactCountDownSaid : Prop := fnExactCountDownRow.holds Try.pinned (OpenSpec.ofChange fnExactCountDownSpec)

/-- ITS FALSE NEIGHBOUR: 'it returns false'. Refute it at one input. -/
def fnExactCountDownWrong : ChangeSpec := { name := "fnExactCountDown", fn := fun _ => fun
  | [d1, d2] => { results := [.lit (.bool false)], args := [d1, d2] }
  | _ => none }
def FnExactCountDownWrongFalsely : Prop := fnExactCountDownRow.holds Try.pinned (OpenSpec.ofChange fnExactCountDownWrong)

/-- 'laws.FnExactNearestBelow': WHATEVER THE INPUT: true; the input reads as it did. -/
def fnExactNearestBelowSpec : ChangeSpec := { name := "fnExactNearestBelow", fn := fun _ => fun
  | [d1, d2] => { results := [.lit (.bool true)], args := [d1, d2] }
  | _ => none }
def fnExactNearestBelowRow : OpenClaim := { program := "ytkclpempodopfaa", sum := "a58a0233b42f021617475d7cb0129941f0f740c2be9df429b23c5ba248533a13", func := "loop.example/g01006/laws.FnExactNearestBelow", spec := "fnExactNearestBelow", apart := false }
def FnExactNearestBelowSaid : Prop := fnExactNearestBelowRow.holds Try.pinned (OpenSpec.ofChange fnExactNearestBelowSpec)

/-- ITS FALSE NEIGHBOUR: 'it returns false'. Refute it at one input. -/
def fnExactNearestBelowWrong : ChangeSpec := { name := "fnExactNearestBelow", fn := fun _ => fun
  | [d1, d2] => { results := [.lit (.bool false)], args := [d1, d2] }
  | _ => none }
def FnExactNearestBelowWrongFalsely : Prop := fnExactNearestBelowRow.holds Try.pinned (OpenSpec.ofChange fnExactNearestBelowWrong)

/-- 'laws.FnExactAddDigit': WHATEVER THE INPUT: true; the input reads as it did. -/
def fnExactAddDigitSpec : ChangeSpec := { name := "fnExactAddDigit", fn := fun _ => fun
  | [d1, d2, d3] => { results := [.lit (.bool true)], args := [d1, d2, d3] }
  | _ => none }
def fnExactAddDigitRow : OpenClaim := { program := "ytkclpempodopfaa", sum := "a58a0233b42f021617475d7cb0129941f0f740c2be9df429b23c5ba248533a13", func := "loop.example/g01006/laws.FnExactAddDigit", spec := "fnExactAddDigit", apart := false }
def FnExactAddDigitSaid : Prop := fnExactAddDigitRow.holds Try.pinned (OpenSpec.ofChange fnExactAddDigitSpec)

/-- ITS FALSE NEIGHBOUR: 'it returns false'. Refute it at one input. -/
def fnExactAddDigitWrong : ChangeSpec := { name := "fnExactAddDigit", fn := fun _ => fun
  | [d1, d2, d3] => { results := [.lit (.bool false)], args := [d1, d2, d3] }
  | _ => none }
def FnExactAddDigitWrongFalsely : Prop := fnExactAddDigitRow.holds Try.pinned (OpenSpec.ofChange fnExactAddDigitWrong)

/-- 'laws.FnExactAddDigitMoves': WHATEVER THE INPUT: true; the input reads as it did. -/
def fnExactAddDigitMovesSpec : ChangeSpec := { name := "fnExactAddDigitMoves", fn := fun _ => fun
  | [d1, d2, d3] => { results := [.lit (.bool true)], args := [d1, d2, d3] }
  | _ => none }
def fnExactAddDigitMovesRow : OpenClaim := { program := "ytkclpempodopfaa", sum := "a58a0233b42f021617475d7cb0129941f0f740c2be9df429b23c5ba248533a13", func := "loop.example/g01006/laws.FnExactAddDigitMoves", spec := "fnExactAddDigitMoves", apart := false }
def FnExactAddDigitMovesSaid : Prop := fnExactAddDigitMovesRow.holds Try.pinned (OpenSpec.ofChange fnExactAddDigitMovesSpec)

/-- ITS FALSE NEIGHBOUR: 'it returns false'. Refute it at one input. -/
def fnExactAddDigitMovesWrong : ChangeSpec := { name := "fnExactAddDigitMoves", fn := fun _ => fun
  | [d1, d2, d3] => { results := [.lit (.bool false)], args := [d1, d2, d3] }
  | _ => none }
def FnExactAddDigitMovesWrongFalsely : Prop := fnExactAddDigitMovesRow.holds Try.pinned (OpenSpec.ofChange fnExactAddDigitMovesWrong)

/-- 'laws.FnExactCarriesOf': WHATEVER THE INPUT: true; the input reads as it did. -/
def fnExactCarriesOfSpec : ChangeSpec := { name := "fnExactCarriesOf", fn := fun _ => fun
  | [d1, d2] => { results := [.lit (.bool true)], args := [d1, d2] }
  | _ => none }
def fnExactCarriesOfRow : OpenClaim := { program := "ytkclpempodopfaa", sum := "a58a0233b42f021617475d7cb0129941f0f740c2be9df429b23c5ba248533a13", func := "loop.example/g01006/laws.FnExactCarriesOf", spec := "fnExactCarriesOf", apart := false }
def FnExactCarriesOfSaid : Prop := fnExactCarriesOfRow.holds Try.pinned (OpenSpec.ofChange fnExactCarriesOfSpec)

/-- ITS FALSE NEIGHBOUR: 'it returns false'. Refute it at one input. -/
def fnExactCarriesOfWrong : ChangeSpec := { name := "fnExactCarriesOf", fn := fun _ => fun
  | [d1, d2] => { results := [.lit (.bool false)], args := [d1, d2] }
  | _ => none }
def FnExactCarriesOfWrongFalsely : Prop := fnExactCarriesOfRow.holds Try.pinned (OpenSpec.ofChange fnExactCarriesOfWrong)

/-- 'laws.FnExactLongestCarry': WHATEVER THE INPUT: true; the input reads as it did. -/
def fnExactLongestCarrySpec : ChangeSpec := { name := "fnExactLongestCarry", fn := fun _ => fun
  | [d1, d2] => { results := [.lit (.bool true)], args := [d1, d2] }
  | _ => none }
def fnExactLongestCarryRow : OpenClaim := { program := "ytkclpempodopfaa", sum := "a58a0233b42f021617475d7cb0129941f0f740c2be9df429b23c5ba248533a13", func := "loop.example/g01006/laws.FnExactLongestCarry", spec := "fnExactLongestCarry", apart := false }
def FnExactLongestCarrySaid : Prop := fnExactLongestCarryRow.holds Try.pinned (OpenSpec.ofChange fnExactLongestCarrySpec)

/-- ITS FALSE NEIGHBOUR: 'it returns false'. Refute it at one input. -/
def fnExactLongestCarryWrong : ChangeSpec := { name := "fnExactLongestCarry", fn := fun _ => fun
  | [d1, d2] => { results := [.lit (.bool false)], args := [d1, d2] }
  | _ => none }
def FnExactLongestCarryWrongFalsely : Prop := fnExactLongestCarryRow.holds Try.pinned (OpenSpec.ofChange fnExactLongestCarryWrong)

/- THE SECOND FORM. 'bulk': how many values and letters a reading holds, each counted each time it is reached (what is shared counts as often as it is met; a slice's spare places count too). A statement '..UptoSaid' is the law's where the arguments, and the package variables that the reading takes, are together of bulk at most 1048576: NARROWER than '..Said'. Prove '..Said' where nothing that the law and all that it calls make is longer than what came in: it says more and counts as full. Else prove '..UptoSaid'. A law counts once. -/
mutual
def uptoBulk {H : Type} : DataW H → Nat
  | .lit (.string bytes) => bytes.length + 1
  | .lit _ => 1
  | .nil => 1
  | .ptr d => uptoBulk d + 1
  | .slice elems spare => uptoBulkAll elems + uptoBulkAll spare + 1
  | .agg parts => uptoBulkAll parts + 1
  | .iface _ d => uptoBulk d + 1
  | .map entries => uptoBulkEntries entries + 1
  | .held _ => 1
def uptoBulkAll {H : Type} : List (DataW H) → Nat
  | [] => 0
  | d :: r => uptoBulk d + uptoBulkAll r
def uptoBulkEntries {H : Type} : List (Lit × DataW H) → Nat
  | [] => 0
  | x :: r => uptoBulkEntry x + uptoBulkEntries r
def uptoBulkEntry {H : Type} : Lit × DataW H → Nat
  | (.string bytes, d) => bytes.length + uptoBulk d + 1
  | (_, d) => uptoBulk d + 1
 end
def uptoSmall : (H : Type) → List (DataW H) → Bool := fun _ ds => decide (uptoBulkAll ds ≤ 1048576)
def OpenSpec.upto (s : _root_.Go.ChangeSpec) : _root_.Go.OpenSpec := { _root_.Go.OpenSpec.ofChange s with cond := some uptoSmall }

/-- 'laws.FnExactTakeDigit', WHERE WHAT IT READS IS OF BULK AT MOST 1048576: true; the input reads as it did. -/
def fnExactTakeDigitUptoRow : OpenClaim := { program := "ytkclpempodopfaa", sum := "a58a0233b42f021617475d7cb0129941f0f740c2be9df429b23c5ba248533a13", func := "loop.example/g01006/laws.FnExactTakeDigit", spec := "fnExactTakeDigit", recurses := true, apart := false, narrowed := true }
def FnExactTakeDigitUptoSaid : Prop := fnExactTakeDigitUptoRow.holds Try.pinned (OpenSpec.upto fnExactTakeDigitSpec)

/-- 'laws.FnExactTakeDigitMoves', WHERE WHAT IT READS IS OF BULK AT MOST 1048576: true; the input reads as it did. -/
def fnExactTakeDigitMovesUptoRow : OpenClaim := { program := "ytkclpempodopfaa", sum := "a58a0233b42f021617475d7cb0129941f0f740c2be9df429b23c5ba248533a13", func := "loop.example/g01006/laws.FnExactTakeDigitMoves", spec := "fnExactTakeDigitMoves", recurses := true, apart := false, narrowed := true }
def FnExactTakeDigitMovesUptoSaid : Prop := fnExactTakeDigitMovesUptoRow.holds Try.pinned (OpenSpec.upto fnExactTakeDigitMovesSpec)

/-- 'laws.FnExactTakeNumber', WHERE WHAT IT READS IS OF BULK AT MOST 1048576: true; the input reads as it did. -/
def fnExactTakeNumberUptoRow : OpenClaim := { program := "ytkclpempodopfaa", sum := "a58a0233b42f021617475d7cb0129941f0f740c2be9df429b23c5ba248533a13", func := "loop.example/g01006/laws.FnExactTakeNumber", spec := "fnExactTakeNumber", recurses := true, apart := false, narrowed := true }
def FnExactTakeNumberUptoSaid : Prop := fnExactTakeNumberUptoRow.holds Try.pinned (OpenSpec.upto fnExactTakeNumberSpec)

/-- 'laws.FnExactTakeNumberMoves', WHERE WHAT IT READS IS OF BULK AT MOST 1048576: true; the input reads as it did. -/
def fnExactTakeNumberMovesUptoRow : OpenClaim := { program := "ytkclpempodopfaa", sum := "a58a0233b42f021617475d7cb0129941f0f740c2be9df429b23c5ba248533a13", func := "loop.example/g01006/laws.FnExactTakeNumberMoves", spec := "fnExactTakeNumberMoves", recurses := true, apart := false, narrowed := true }
def FnExactTakeNumberMovesUptoSaid : Prop := fnExactTakeNumberMovesUptoRow.holds Try.pinned (OpenSpec.upto fnExactTakeNumberMovesSpec)

/-- 'laws.FnExactBorrowsOf', WHERE WHAT IT READS IS OF BULK AT MOST 1048576: true; the input reads as it did. -/
def fnExactBorrowsOfUptoRow : OpenClaim := { program := "ytkclpempodopfaa", sum := "a58a0233b42f021617475d7cb0129941f0f740c2be9df429b23c5ba248533a13", func := "loop.example/g01006/laws.FnExactBorrowsOf", spec := "fnExactBorrowsOf", recurses := true, apart := false, narrowed := true }
def FnExactBorrowsOfUptoSaid : Prop := fnExactBorrowsOfUptoRow.holds Try.pinned (OpenSpec.upto fnExactBorrowsOfSpec)

/-- 'laws.FnExactHowOften', WHERE WHAT IT READS IS OF BULK AT MOST 1048576: true; the input reads as it did. -/
def fnExactHowOftenUptoRow : OpenClaim := { program := "ytkclpempodopfaa", sum := "a58a0233b42f021617475d7cb0129941f0f740c2be9df429b23c5ba248533a13", func := "loop.example/g01006/laws.FnExactHowOften", spec := "fnExactHowOften", apart := false, narrowed := true }
def FnExactHowOftenUptoSaid : Prop := fnExactHowOftenUptoRow.holds Try.pinned (OpenSpec.upto fnExactHowOftenSpec)

/-- 'laws.FnExactCountDown', WHERE WHAT IT READS IS OF BULK AT MOST 1048576: true; the input reads as it did. -/
def fnExactCountDownUptoRow : OpenClaim := { program := "ytkclpempodopfaa", sum := "a58a0233b42f021617475d7cb0129941f0f740c2be9df429b23c5ba248533a13", func := "loop.example/g01006/laws.FnExactCountDown", spec := "fnExactCountDown", apart := false, narrowed := true }
def FnExactCountDownUptoSaid : Prop := fnExactCountDownUptoRow.holds Try.pinned (OpenSpec.upto fnExactCountDownSpec)

/-- 'laws.FnExactNearestBelow', WHERE WHAT IT READS IS OF BULK AT MOST 1048576: true; the input reads as it did. -/
def fnExactNearestBelowUptoRow : OpenClaim := { program := "ytkclpempodopfaa", sum := "a58a0233b42f021617475d7cb0129941f0f740c2be9df429b23c5ba248533a13", func := "loop.example/g01006/laws.FnExactNearestBelow", spec := "fnExactNearestBelow", apart := false, narrowed := true }
def FnExactNearestBelowUptoSaid : Prop := fnExactNearestBelowUptoRow.holds Try.pinned (OpenSpec.upto fnExactNearestBelowSpec)

/-- 'laws.FnExactAddDigit', WHERE WHAT IT READS IS OF BULK AT MOST 1048576: true; the input reads as it did. -/
def fnExactAddDigitUptoRow : OpenClaim := { program := "ytkclpempodopfaa", sum := "a58a0233b42f021617475d7cb0129941f0f740c2be9df429b23c5ba248533a13", func := "loop.example/g01006/laws.FnExactAddDigit", spec := "fnExactAddDigit", apart := false, narrowed := true }
def FnExactAddDigitUptoSaid : Prop := fnExactAddDigitUptoRow.holds Try.pinned (OpenSpec.upto fnExactAddDigitSpec)

/-- 'laws.FnExactAddDigitMoves', WHERE WHAT IT READS IS OF BULK AT MOST 1048576: true; the input reads as it did. -/
def fnExactAddDigitMovesUptoRow : OpenClaim := { program := "ytkclpempodopfaa", sum := "a58a0233b42f021617475d7cb0129941f0f740c2be9df429b23c5ba248533a13", func := "loop.example/g01006/laws.FnExactAddDigitMoves", spec := "fnExactAddDigitMoves", apart := false, narrowed := true }
def FnExactAddDigitMovesUptoSaid : Prop := fnExactAddDigitMovesUptoRow.holds Try.pinned (OpenSpec.upto fnExactAddDigitMovesSpec)

/-- 'laws.FnExactCarriesOf', WHERE WHAT IT READS IS OF BULK AT MOST 1048576: true; the input reads as it did. -/
def fnExactCarriesOfUptoRow : OpenClaim := { program := "ytkclpempodopfaa", sum := "a58a0233b42f021617475d7cb0129941f0f740c2be9df429b23c5ba248533a13", func := "loop.example/g01006/laws.FnExactCarriesOf", spec := "fnExactCarriesOf", apart := false, narrowed := true }
def FnExactCarriesOfUptoSaid : Prop := fnExactCarriesOfUptoRow.holds Try.pinned (OpenSpec.upto fnExactCarriesOfSpec)

/-- 'laws.FnExactLongestCarry', WHERE WHAT IT READS IS OF BULK AT MOST 1048576: true; the input reads as it did. -/
def fnExactLongestCarryUptoRow : OpenClaim := { program := "ytkclpempodopfaa", sum := "a58a0233b42f021617475d7cb0129941f0f740c2be9df429b23c5ba248533a13", func := "loop.example/g01006/laws.FnExactLongestCarry", spec := "fnExactLongestCarry", apart := false, narrowed := true }
def FnExactLongestCarryUptoSaid : Prop := fnExactLongestCarryUptoRow.holds Try.pinned (OpenSpec.upto fnExactLongestCarrySpec)

end Rows
end Go.Proofs.Ytkclpempodopfaa
