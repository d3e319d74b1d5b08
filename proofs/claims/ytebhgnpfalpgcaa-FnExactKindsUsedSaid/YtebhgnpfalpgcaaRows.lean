/-
  No cell of these rows narrows 'for every input' (looked for: loops, veiled, ifaces, maps, wideKeys, modest, calm, conditions, laid).
  DERIVED. THE GIVEN ROWS OF THIS SEAT. 8 by the template 'for every input the law returns true; each argument reads behind the call as it read before'; 0 by the template 'total and deterministic' (their statements: YtebhgnpfalpgcaaTotals.lean).
  GIVEN WITH THE SEED: the statements are not yours to turn. If you find one false, say at which input.
  Laid BY PROGRAM, IN A SANDBOX (cutbox-rows.mjs): the forced cells as the released guide's own fill.sh prints them over the translation c2331e78700b58fa… (all of the seat's roots in one cut). By AI agents, Wed Nov 11 2026. No macro, syntax, notation, axiom, sorry.
-/
import Derived.Test.YtebhgnpfalpgcaaChecked
import GoSem.Claim
import GoSem.ClaimJoined
import GoSem.ClaimMapViews
import Derived.JoinedTies
import Derived.KernelRfl
namespace Go.Proofs.Ytebhgnpfalpgcaa
/- THE CELL 'sum', in the pinned program and in every row, IS THE sha256 OF THE DUMP (.gsa) THAT YtebhgnpfalpgcaaProg.lean LOADS. Nothing in Lean hashes anything: it is a label: what it is worth is what the hold of that sum in a sandbox is worth. -/
noncomputable def Try.pinned : Pinned := { name := "ytebhgnpfalpgcaa", sum := "c2331e78700b58fa45f0f908c90da819573f111c2f5b0e79b1d4e3e0562c9271", checked := Try.checked }
namespace Rows
def none {H : Type} : Left H := { results := [], args := [] }

/-- 'laws.FnExactAddDigit': WHATEVER THE INPUT: true; the input reads as it did. -/
def fnExactAddDigitSpec : ChangeSpec := { name := "fnExactAddDigit", fn := fun _ => fun
  | [d1, d2, d3] => { results := [.lit (.bool true)], args := [d1, d2, d3] }
  | _ => none }
def fnExactAddDigitRow : OpenClaim := { program := "ytebhgnpfalpgcaa", sum := "c2331e78700b58fa45f0f908c90da819573f111c2f5b0e79b1d4e3e0562c9271", func := "loop.example/g01006/laws.FnExactAddDigit", spec := "fnExactAddDigit", apart := false }
def FnExactAddDigitSaid : Prop := fnExactAddDigitRow.holds Try.pinned (OpenSpec.ofChange fnExactAddDigitSpec)

/-- ITS FALSE NEIGHBOUR: 'it returns false'. Refute it at one input. -/
def fnExactAddDigitWrong : ChangeSpec := { name := "fnExactAddDigit", fn := fun _ => fun
  | [d1, d2, d3] => { results := [.lit (.bool false)], args := [d1, d2, d3] }
  | _ => none }
def FnExactAddDigitWrongFalsely : Prop := fnExactAddDigitRow.holds Try.pinned (OpenSpec.ofChange fnExactAddDigitWrong)

/-- 'laws.FnExactAddDigitMoves': WHATEVER THE INPUT: true; the input reads as it did. -/
def fnExactAddDigitMovesSpec : ChangeSpec := { name := "fnExactAddDigitMoves", fn := fun _ => fun
  | [d1, d2, d3] => { results := [.lit (.bool true)], args := [d1, d2, d3] }
  | _ => none }
def fnExactAddDigitMovesRow : OpenClaim := { program := "ytebhgnpfalpgcaa", sum := "c2331e78700b58fa45f0f908c90da819573f111c2f5b0e79b1d4e3e0562c9271", func := "loop.example/g01006/laws.FnExactAddDigitMoves", spec := "fnExactAddDigitMoves", apart := false }
def FnExactAddDigitMovesSaid : Prop := fnExactAddDigitMovesRow.holds Try.pinned (OpenSpec.ofChange fnExactAddDigitMovesSpec)

/-- ITS FALSE NEIGHBOUR: 'it returns false'. Refute it at one input. -/
def fnExactAddDigitMovesWrong : ChangeSpec := { name := "fnExactAddDigitMoves", fn := fun _ => fun
  | [d1, d2, d3] => { results := [.lit (.bool false)], args := [d1, d2, d3] }
  | _ => none }
def FnExactAddDigitMovesWrongFalsely : Prop := fnExactAddDigitMovesRow.holds Try.pinned (OpenSpec.ofChange fnExactAddDigitMovesWrong)

/-- 'laws.FnExactAddNumber': WHATEVER THE INPUT: true; the input reads as it did. -/
def fnExactAddNumberSpec : ChangeSpec := { name := "fnExactAddNumber", fn := fun _ => fun
  | [d1, d2] => { results := [.lit (.bool true)], args := [d1, d2] }
  | _ => none }
def fnExactAddNumberRow : OpenClaim := { program := "ytebhgnpfalpgcaa", sum := "c2331e78700b58fa45f0f908c90da819573f111c2f5b0e79b1d4e3e0562c9271", func := "loop.example/g01006/laws.FnExactAddNumber", spec := "fnExactAddNumber", apart := false }
def FnExactAddNumberSaid : Prop := fnExactAddNumberRow.holds Try.pinned (OpenSpec.ofChange fnExactAddNumberSpec)

/-- ITS FALSE NEIGHBOUR: 'it returns false'. Refute it at one input. -/
def fnExactAddNumberWrong : ChangeSpec := { name := "fnExactAddNumber", fn := fun _ => fun
  | [d1, d2] => { results := [.lit (.bool false)], args := [d1, d2] }
  | _ => none }
def FnExactAddNumberWrongFalsely : Prop := fnExactAddNumberRow.holds Try.pinned (OpenSpec.ofChange fnExactAddNumberWrong)

/-- 'laws.FnExactAddNumberMoves': WHATEVER THE INPUT: true; the input reads as it did. -/
def fnExactAddNumberMovesSpec : ChangeSpec := { name := "fnExactAddNumberMoves", fn := fun _ => fun
  | [d1, d2] => { results := [.lit (.bool true)], args := [d1, d2] }
  | _ => none }
def fnExactAddNumberMovesRow : OpenClaim := { program := "ytebhgnpfalpgcaa", sum := "c2331e78700b58fa45f0f908c90da819573f111c2f5b0e79b1d4e3e0562c9271", func := "loop.example/g01006/laws.FnExactAddNumberMoves", spec := "fnExactAddNumberMoves", apart := false }
def FnExactAddNumberMovesSaid : Prop := fnExactAddNumberMovesRow.holds Try.pinned (OpenSpec.ofChange fnExactAddNumberMovesSpec)

/-- ITS FALSE NEIGHBOUR: 'it returns false'. Refute it at one input. -/
def fnExactAddNumberMovesWrong : ChangeSpec := { name := "fnExactAddNumberMoves", fn := fun _ => fun
  | [d1, d2] => { results := [.lit (.bool false)], args := [d1, d2] }
  | _ => none }
def FnExactAddNumberMovesWrongFalsely : Prop := fnExactAddNumberMovesRow.holds Try.pinned (OpenSpec.ofChange fnExactAddNumberMovesWrong)

/-- 'laws.FnExactCarriesOf': WHATEVER THE INPUT: true; the input reads as it did. -/
def fnExactCarriesOfSpec : ChangeSpec := { name := "fnExactCarriesOf", fn := fun _ => fun
  | [d1, d2] => { results := [.lit (.bool true)], args := [d1, d2] }
  | _ => none }
def fnExactCarriesOfRow : OpenClaim := { program := "ytebhgnpfalpgcaa", sum := "c2331e78700b58fa45f0f908c90da819573f111c2f5b0e79b1d4e3e0562c9271", func := "loop.example/g01006/laws.FnExactCarriesOf", spec := "fnExactCarriesOf", apart := false }
def FnExactCarriesOfSaid : Prop := fnExactCarriesOfRow.holds Try.pinned (OpenSpec.ofChange fnExactCarriesOfSpec)

/-- ITS FALSE NEIGHBOUR: 'it returns false'. Refute it at one input. -/
def fnExactCarriesOfWrong : ChangeSpec := { name := "fnExactCarriesOf", fn := fun _ => fun
  | [d1, d2] => { results := [.lit (.bool false)], args := [d1, d2] }
  | _ => none }
def FnExactCarriesOfWrongFalsely : Prop := fnExactCarriesOfRow.holds Try.pinned (OpenSpec.ofChange fnExactCarriesOfWrong)

/-- 'laws.FnExactKindsUsed': WHATEVER THE INPUT: true; the input reads as it did. -/
def fnExactKindsUsedSpec : ChangeSpec := { name := "fnExactKindsUsed", fn := fun _ => fun
  | [d1, d2] => { results := [.lit (.bool true)], args := [d1, d2] }
  | _ => none }
def fnExactKindsUsedRow : OpenClaim := { program := "ytebhgnpfalpgcaa", sum := "c2331e78700b58fa45f0f908c90da819573f111c2f5b0e79b1d4e3e0562c9271", func := "loop.example/g01006/laws.FnExactKindsUsed", spec := "fnExactKindsUsed", apart := false }
def FnExactKindsUsedSaid : Prop := fnExactKindsUsedRow.holds Try.pinned (OpenSpec.ofChange fnExactKindsUsedSpec)

/-- ITS FALSE NEIGHBOUR: 'it returns false'. Refute it at one input. -/
def fnExactKindsUsedWrong : ChangeSpec := { name := "fnExactKindsUsed", fn := fun _ => fun
  | [d1, d2] => { results := [.lit (.bool false)], args := [d1, d2] }
  | _ => none }
def FnExactKindsUsedWrongFalsely : Prop := fnExactKindsUsedRow.holds Try.pinned (OpenSpec.ofChange fnExactKindsUsedWrong)

/-- 'laws.FnExactLongestCarry': WHATEVER THE INPUT: true; the input reads as it did. -/
def fnExactLongestCarrySpec : ChangeSpec := { name := "fnExactLongestCarry", fn := fun _ => fun
  | [d1, d2] => { results := [.lit (.bool true)], args := [d1, d2] }
  | _ => none }
def fnExactLongestCarryRow : OpenClaim := { program := "ytebhgnpfalpgcaa", sum := "c2331e78700b58fa45f0f908c90da819573f111c2f5b0e79b1d4e3e0562c9271", func := "loop.example/g01006/laws.FnExactLongestCarry", spec := "fnExactLongestCarry", apart := false }
def FnExactLongestCarrySaid : Prop := fnExactLongestCarryRow.holds Try.pinned (OpenSpec.ofChange fnExactLongestCarrySpec)

/-- ITS FALSE NEIGHBOUR: 'it returns false'. Refute it at one input. -/
def fnExactLongestCarryWrong : ChangeSpec := { name := "fnExactLongestCarry", fn := fun _ => fun
  | [d1, d2] => { results := [.lit (.bool false)], args := [d1, d2] }
  | _ => none }
def FnExactLongestCarryWrongFalsely : Prop := fnExactLongestCarryRow.holds Try.pinned (OpenSpec.ofChange fnExactLongestCarryWrong)

/-- 'laws.FnAdding': WHATEVER THE INPUT: true; the input reads as it did. -/
def fnAddingSpec : ChangeSpec := { name := "fnAdding", fn := fun _ => fun
  | [d] => { results := [.lit (.bool true)], args := [d] }
  | _ => none }
def fnAddingRow : OpenClaim := { program := "ytebhgnpfalpgcaa", sum := "c2331e78700b58fa45f0f908c90da819573f111c2f5b0e79b1d4e3e0562c9271", func := "loop.example/g01006/laws.FnAdding", spec := "fnAdding", apart := false }
def FnAddingSaid : Prop := fnAddingRow.holds Try.pinned (OpenSpec.ofChange fnAddingSpec)

/-- ITS FALSE NEIGHBOUR: 'it returns false'. Refute it at one input. -/
def fnAddingWrong : ChangeSpec := { name := "fnAdding", fn := fun _ => fun
  | [d] => { results := [.lit (.bool false)], args := [d] }
  | _ => none }
def FnAddingWrongFalsely : Prop := fnAddingRow.holds Try.pinned (OpenSpec.ofChange fnAddingWrong)

/- THE SECOND FORM. 'bulk': how many values and letters a reading holds, each counted each time it is reached (what is shared counts as often as it is met; a slice's spare places count too). A statement '..UptoSaid' is the law's where the arguments, and the package variables that the reading takes, are together of bulk at most 1048576: NARROWER than '..Said'. Prove '..Said' where nothing that the law and all that it calls make is longer than what came in: it says more and counts as full. Else prove '..UptoSaid'. A law counts once. -/
mutual
def uptoBulk {H : Type} : DataW H → Nat
  | .lit (.string bytes) => bytes.length + 1
  | .lit _ => 1
  | .nil => 1
  | .ptr d => uptoBulk d + 1
  | .slice elems spare => uptoBulkAll elems + uptoBulkAll spare + 1
  | .agg parts => uptoBulkAll parts + 1
  | .iface _ d => uptoBulk d + 1
  | .map entries => uptoBulkEntries entries + 1
  | .held _ => 1
def uptoBulkAll {H : Type} : List (DataW H) → Nat
  | [] => 0
  | d :: r => uptoBulk d + uptoBulkAll r
def uptoBulkEntries {H : Type} : List (Lit × DataW H) → Nat
  | [] => 0
  | x :: r => uptoBulkEntry x + uptoBulkEntries r
def uptoBulkEntry {H : Type} : Lit × DataW H → Nat
  | (.string bytes, d) => bytes.length + uptoBulk d + 1
  | (_, d) => uptoBulk d + 1
 end
def uptoSmall : (H : Type) → List (DataW H) → Bool := fun _ ds => decide (uptoBulkAll ds ≤ 1048576)
def OpenSpec.upto (s : _root_.Go.ChangeSpec) : _root_.Go.OpenSpec := { _root_.Go.OpenSpec.ofChange s with cond := some uptoSmall }

/-- 'laws.FnExactAddDigit', WHERE WHAT IT READS IS OF BULK AT MOST 1048576: true; the input reads as it did. -/
def fnExactAddDigitUptoRow : OpenClaim := { program := "ytebhgnpfalpgcaa", sum := "c2331e78700b58fa45f0f908c90da819573f111c2f5b0e79b1d4e3e0562c9271", func := "loop.example/g01006/laws.FnExactAddDigit", spec := "fnExactAddDigit", apart := false, narrowed := true }
def FnExactAddDigitUptoSaid : Prop := fnExactAddDigitUptoRow.holds Try.pinned (OpenSpec.upto fnExactAddDigitSpec)

/-- 'laws.FnExactAddDigitMoves', WHERE WHAT IT READS IS OF BULK AT MOST 1048576: true; the input reads as it did. -/
def fnExactAddDigitMovesUptoRow : OpenClaim := { program := "ytebhgnpfalpgcaa", sum := "c2331e78700b58fa45f0f908c90da819573f111c2f5b0e79b1d4e3e0562c9271", func := "loop.example/g01006/laws.FnExactAddDigitMoves", spec := "fnExactAddDigitMoves", apart := false, narrowed := true }
def FnExactAddDigitMovesUptoSaid : Prop := fnExactAddDigitMovesUptoRow.holds Try.pinned (OpenSpec.upto fnExactAddDigitMovesSpec)

/-- 'laws.FnExactAddNumber', WHERE WHAT IT READS IS OF BULK AT MOST 1048576: true; the input reads as it did. -/
def fnExactAddNumberUptoRow : OpenClaim := { program := "ytebhgnpfalpgcaa", sum := "c2331e78700b58fa45f0f908c90da819573f111c2f5b0e79b1d4e3e0562c9271", func := "loop.example/g01006/laws.FnExactAddNumber", spec := "fnExactAddNumber", apart := false, narrowed := true }
def FnExactAddNumberUptoSaid : Prop := fnExactAddNumberUptoRow.holds Try.pinned (OpenSpec.upto fnExactAddNumberSpec)

/-- 'laws.FnExactAddNumberMoves', WHERE WHAT IT READS IS OF BULK AT MOST 1048576: true; the input reads as it did. -/
def fnExactAddNumberMovesUptoRow : OpenClaim := { program := "ytebhgnpfalpgcaa", sum := "c2331e78700b58fa45f0f908c90da819573f111c2f5b0e79b1d4e3e0562c9271", func := "loop.example/g01006/laws.FnExactAddNumberMoves", spec := "fnExactAddNumberMoves", apart := false, narrowed := true }
def FnExactAddNumberMovesUptoSaid : Prop := fnExactAddNumberMovesUptoRow.holds Try.pinned (OpenSpec.upto fnExactAddNumberMovesSpec)

/-- 'laws.FnExactCarriesOf', WHERE WHAT IT READS IS OF BULK AT MOST 1048576: true; the input reads as it did. -/
def fnExactCarriesOfUptoRow : OpenClaim := { program := "ytebhgnpfalpgcaa", sum := "c2331e78700b58fa45f0f908c90da819573f111c2f5b0e79b1d4e3e0562c9271", func := "loop.example/g01006/laws.FnExactCarriesOf", spec := "fnExactCarriesOf", apart := false, narrowed := true }
def FnExactCarriesOfUptoSaid : Prop := fnExactCarriesOfUptoRow.holds Try.pinned (OpenSpec.upto fnExactCarriesOfSpec)

/-- 'laws.FnExactKindsUsed', WHERE WHAT IT READS IS OF BULK AT MOST 1048576: true; the input reads as it did. -/
def fnExactKindsUsedUptoRow : OpenClaim := { program := "ytebhgnpfalpgcaa", sum := "c2331e78700b58fa45f0f908c90da819573f111c2f5b0e79b1d4e3e0562c9271", func := "loop.example/g01006/laws.FnExactKindsUsed", spec := "fnExactKindsUsed", apart := false, narrowed := true }
def FnExactKindsUsedUptoSaid : Prop := fnExactKindsUsedUptoRow.holds Try.pinned (OpenSpec.upto fnExactKindsUsedSpec)

/-- 'laws.FnExactLongestCarry', WHERE WHAT IT READS IS OF BULK AT MOST 1048576: true; the input reads as it did. -/
def fnExactLongestCarryUptoRow : OpenClaim := { program := "ytebhgnpfalpgcaa", sum := "c2331e78700b58fa45f0f908c90da819573f111c2f5b0e79b1d4e3e0562c9271", func := "loop.example/g01006/laws.FnExactLongestCarry", spec := "fnExactLongestCarry", apart := false, narrowed := true }
def FnExactLongestCarryUptoSaid : Prop := fnExactLongestCarryUptoRow.holds Try.pinned (OpenSpec.upto fnExactLongestCarrySpec)

/-- 'laws.FnAdding', WHERE WHAT IT READS IS OF BULK AT MOST 1048576: true; the input reads as it did. -/
def fnAddingUptoRow : OpenClaim := { program := "ytebhgnpfalpgcaa", sum := "c2331e78700b58fa45f0f908c90da819573f111c2f5b0e79b1d4e3e0562c9271", func := "loop.example/g01006/laws.FnAdding", spec := "fnAdding", apart := false, narrowed := true }
def FnAddingUptoSaid : Prop := fnAddingUptoRow.holds Try.pinned (OpenSpec.upto fnAddingSpec)

end Rows
end Go.Proofs.Ytebhgnpfalpgcaa
