/-
  No cell of these rows narrows 'for every input' (looked for: loops, veiled, ifaces, maps, wideKeys, modest, calm, conditions, laid).
  DERIVED. THE GIVEN ROWS OF THIS SEAT. 6 by the template 'for every input the law returns true; each argument reads behind the call as it read before'; 0 by the template 'total and deterministic' (their statements: YtjkjaadcdolbhaaTotals.lean).
  GIVEN WITH THE SEED: the statements are not yours to turn. If you find one false, say at which input.
  Laid BY PROGRAM, IN A SANDBOX (cutbox-rows.mjs): the forced cells as the released guide's own fill.sh prints them over the translation fe0139c6817d7e5b… (all of the seat's roots in one cut). By AI agents, Wed Nov 11 2026. No macro, syntax, notation, axiom, sorry.
-/
import Derived.Test.YtjkjaadcdolbhaaChecked
import GoSem.Claim
import GoSem.ClaimJoined
import GoSem.ClaimMapViews
import Derived.JoinedTies
import Derived.KernelRfl
namespace Go.Proofs.Ytjkjaadcdolbhaa
/- THE CELL 'sum', in the pinned program and in every row, IS THE sha256 OF THE DUMP (.gsa) THAT YtjkjaadcdolbhaaProg.lean LOADS. Nothing in Lean hashes anything: it is a label: what it is worth is what the hold of that sum in a sandbox is worth. -/
noncomputable def Try.pinned : Pinned := { name := "ytjkjaadcdolbhaa", sum := "fe0139c6817d7e5b8de37905a9c20008bcfc7b8aff81b06afbbd561349712e56", checked := Try.checked }
namespace Rows
def none {H : Type} : Left H := { results := [], args := [] }

/-- 'laws.FnTaking': WHATEVER THE INPUT: true; the input reads as it did. -/
def fnTakingSpec : ChangeSpec := { name := "fnTaking", fn := fun _ => fun
  | [d] => { results := [.lit (.bool true)], args := [d] }
  | _ => none }
def fnTakingRow : OpenClaim := { program := "ytjkjaadcdolbhaa", sum := "fe0139c6817d7e5b8de37905a9c20008bcfc7b8aff81b06afbbd561349712e56", func := "loop.example/g01006/laws.FnTaking", spec := "fnTaking", recurses := true, apart := false }
def FnTakingSaid : Prop := fnTakingRow.holds Try.pinned (OpenSpec.ofChange fnTakingSpec)

/-- ITS FALSE NEIGHBOUR: 'it returns false'. Refute it at one input. -/
def fnTakingWrong : ChangeSpec := { name := "fnTaking", fn := fun _ => fun
  | [d] => { results := [.lit (.bool false)], args := [d] }
  | _ => none }
def FnTakingWrongFalsely : Prop := fnTakingRow.holds Try.pinned (OpenSpec.ofChange fnTakingWrong)

/-- 'laws.FnCountingDown': WHATEVER THE INPUT: true; the input reads as it did. -/
def fnCountingDownSpec : ChangeSpec := { name := "fnCountingDown", fn := fun _ => fun
  | [d] => { results := [.lit (.bool true)], args := [d] }
  | _ => none }
def fnCountingDownRow : OpenClaim := { program := "ytjkjaadcdolbhaa", sum := "fe0139c6817d7e5b8de37905a9c20008bcfc7b8aff81b06afbbd561349712e56", func := "loop.example/g01006/laws.FnCountingDown", spec := "fnCountingDown", apart := false }
def FnCountingDownSaid : Prop := fnCountingDownRow.holds Try.pinned (OpenSpec.ofChange fnCountingDownSpec)

/-- ITS FALSE NEIGHBOUR: 'it returns false'. Refute it at one input. -/
def fnCountingDownWrong : ChangeSpec := { name := "fnCountingDown", fn := fun _ => fun
  | [d] => { results := [.lit (.bool false)], args := [d] }
  | _ => none }
def FnCountingDownWrongFalsely : Prop := fnCountingDownRow.holds Try.pinned (OpenSpec.ofChange fnCountingDownWrong)

/-- 'laws.FnAdding': WHATEVER THE INPUT: true; the input reads as it did. -/
def fnAddingSpec : ChangeSpec := { name := "fnAdding", fn := fun _ => fun
  | [d] => { results := [.lit (.bool true)], args := [d] }
  | _ => none }
def fnAddingRow : OpenClaim := { program := "ytjkjaadcdolbhaa", sum := "fe0139c6817d7e5b8de37905a9c20008bcfc7b8aff81b06afbbd561349712e56", func := "loop.example/g01006/laws.FnAdding", spec := "fnAdding", apart := false }
def FnAddingSaid : Prop := fnAddingRow.holds Try.pinned (OpenSpec.ofChange fnAddingSpec)

/-- ITS FALSE NEIGHBOUR: 'it returns false'. Refute it at one input. -/
def fnAddingWrong : ChangeSpec := { name := "fnAdding", fn := fun _ => fun
  | [d] => { results := [.lit (.bool false)], args := [d] }
  | _ => none }
def FnAddingWrongFalsely : Prop := fnAddingRow.holds Try.pinned (OpenSpec.ofChange fnAddingWrong)

/-- 'laws.FnExactAddNumber': WHATEVER THE INPUT: true; the input reads as it did. -/
def fnExactAddNumberSpec : ChangeSpec := { name := "fnExactAddNumber", fn := fun _ => fun
  | [d1, d2] => { results := [.lit (.bool true)], args := [d1, d2] }
  | _ => none }
def fnExactAddNumberRow : OpenClaim := { program := "ytjkjaadcdolbhaa", sum := "fe0139c6817d7e5b8de37905a9c20008bcfc7b8aff81b06afbbd561349712e56", func := "loop.example/g01006/laws.FnExactAddNumber", spec := "fnExactAddNumber", apart := false }
def FnExactAddNumberSaid : Prop := fnExactAddNumberRow.holds Try.pinned (OpenSpec.ofChange fnExactAddNumberSpec)

/-- ITS FALSE NEIGHBOUR: 'it returns false'. Refute it at one input. -/
def fnExactAddNumberWrong : ChangeSpec := { name := "fnExactAddNumber", fn := fun _ => fun
  | [d1, d2] => { results := [.lit (.bool false)], args := [d1, d2] }
  | _ => none }
def FnExactAddNumberWrongFalsely : Prop := fnExactAddNumberRow.holds Try.pinned (OpenSpec.ofChange fnExactAddNumberWrong)

/-- 'laws.FnExactAddNumberMoves': WHATEVER THE INPUT: true; the input reads as it did. -/
def fnExactAddNumberMovesSpec : ChangeSpec := { name := "fnExactAddNumberMoves", fn := fun _ => fun
  | [d1, d2] => { results := [.lit (.bool true)], args := [d1, d2] }
  | _ => none }
def fnExactAddNumberMovesRow : OpenClaim := { program := "ytjkjaadcdolbhaa", sum := "fe0139c6817d7e5b8de37905a9c20008bcfc7b8aff81b06afbbd561349712e56", func := "loop.example/g01006/laws.FnExactAddNumberMoves", spec := "fnExactAddNumberMoves", apart := false }
def FnExactAddNumberMovesSaid : Prop := fnExactAddNumberMovesRow.holds Try.pinned (OpenSpec.ofChange fnExactAddNumberMovesSpec)

/-- ITS FALSE NEIGHBOUR: 'it returns false'. Refute it at one input. -/
def fnExactAddNumberMovesWrong : ChangeSpec := { name := "fnExactAddNumberMoves", fn := fun _ => fun
  | [d1, d2] => { results := [.lit (.bool false)], args := [d1, d2] }
  | _ => none }
def FnExactAddNumberMovesWrongFalsely : Prop := fnExactAddNumberMovesRow.holds Try.pinned (OpenSpec.ofChange fnExactAddNumberMovesWrong)

/-- 'laws.FnExactKindsUsed': WHATEVER THE INPUT: true; the input reads as it did. -/
def fnExactKindsUsedSpec : ChangeSpec := { name := "fnExactKindsUsed", fn := fun _ => fun
  | [d1, d2] => { results := [.lit (.bool true)], args := [d1, d2] }
  | _ => none }
def fnExactKindsUsedRow : OpenClaim := { program := "ytjkjaadcdolbhaa", sum := "fe0139c6817d7e5b8de37905a9c20008bcfc7b8aff81b06afbbd561349712e56", func := "loop.example/g01006/laws.FnExactKindsUsed", spec := "fnExactKindsUsed", apart := false }
def FnExactKindsUsedSaid : Prop := fnExactKindsUsedRow.holds Try.pinned (OpenSpec.ofChange fnExactKindsUsedSpec)

/-- ITS FALSE NEIGHBOUR: 'it returns false'. Refute it at one input. -/
def fnExactKindsUsedWrong : ChangeSpec := { name := "fnExactKindsUsed", fn := fun _ => fun
  | [d1, d2] => { results := [.lit (.bool false)], args := [d1, d2] }
  | _ => none }
def FnExactKindsUsedWrongFalsely : Prop := fnExactKindsUsedRow.holds Try.pinned (OpenSpec.ofChange fnExactKindsUsedWrong)

/- THE SECOND FORM. 'bulk': how many values and letters a reading holds, each counted each time it is reached (what is shared counts as often as it is met; a slice's spare places count too). A statement '..UptoSaid' is the law's where the arguments, and the package variables that the reading takes, are together of bulk at most 1048576: NARROWER than '..Said'. Prove '..Said' where nothing that the law and all that it calls make is longer than what came in: it says more and counts as full. Else prove '..UptoSaid'. A law counts once. -/
mutual
def uptoBulk {H : Type} : DataW H → Nat
  | .lit (.string bytes) => bytes.length + 1
  | .lit _ => 1
  | .nil => 1
  | .ptr d => uptoBulk d + 1
  | .slice elems spare => uptoBulkAll elems + uptoBulkAll spare + 1
  | .agg parts => uptoBulkAll parts + 1
  | .iface _ d => uptoBulk d + 1
  | .map entries => uptoBulkEntries entries + 1
  | .held _ => 1
def uptoBulkAll {H : Type} : List (DataW H) → Nat
  | [] => 0
  | d :: r => uptoBulk d + uptoBulkAll r
def uptoBulkEntries {H : Type} : List (Lit × DataW H) → Nat
  | [] => 0
  | x :: r => uptoBulkEntry x + uptoBulkEntries r
def uptoBulkEntry {H : Type} : Lit × DataW H → Nat
  | (.string bytes, d) => bytes.length + uptoBulk d + 1
  | (_, d) => uptoBulk d + 1
 end
def uptoSmall : (H : Type) → List (DataW H) → Bool := fun _ ds => decide (uptoBulkAll ds ≤ 1048576)
def OpenSpec.upto (s : _root_.Go.ChangeSpec) : _root_.Go.OpenSpec := { _root_.Go.OpenSpec.ofChange s with cond := some uptoSmall }

/-- 'laws.FnTaking', WHERE WHAT IT READS IS OF BULK AT MOST 1048576: true; the input reads as it did. -/
def fnTakingUptoRow : OpenClaim := { program := "ytjkjaadcdolbhaa", sum := "fe0139c6817d7e5b8de37905a9c20008bcfc7b8aff81b06afbbd561349712e56", func := "loop.example/g01006/laws.FnTaking", spec := "fnTaking", recurses := true, apart := false, narrowed := true }
def FnTakingUptoSaid : Prop := fnTakingUptoRow.holds Try.pinned (OpenSpec.upto fnTakingSpec)

/-- 'laws.FnCountingDown', WHERE WHAT IT READS IS OF BULK AT MOST 1048576: true; the input reads as it did. -/
def fnCountingDownUptoRow : OpenClaim := { program := "ytjkjaadcdolbhaa", sum := "fe0139c6817d7e5b8de37905a9c20008bcfc7b8aff81b06afbbd561349712e56", func := "loop.example/g01006/laws.FnCountingDown", spec := "fnCountingDown", apart := false, narrowed := true }
def FnCountingDownUptoSaid : Prop := fnCountingDownUptoRow.holds Try.pinned (OpenSpec.upto fnCountingDownSpec)

/-- 'laws.FnAdding', WHERE WHAT IT READS IS OF BULK AT MOST 1048576: true; the input reads as it did. -/
def fnAddingUptoRow : OpenClaim := { program := "ytjkjaadcdolbhaa", sum := "fe0139c6817d7e5b8de37905a9c20008bcfc7b8aff81b06afbbd561349712e56", func := "loop.example/g01006/laws.FnAdding", spec := "fnAdding", apart := false, narrowed := true }
def FnAddingUptoSaid : Prop := fnAddingUptoRow.holds Try.pinned (OpenSpec.upto fnAddingSpec)

/-- 'laws.FnExactAddNumber', WHERE WHAT IT READS IS OF BULK AT MOST 1048576: true; the input reads as it did. -/
def fnExactAddNumberUptoRow : OpenClaim := { program := "ytjkjaadcdolbhaa", sum := "fe0139c6817d7e5b8de37905a9c20008bcfc7b8aff81b06afbbd561349712e56", func := "loop.example/g01006/laws.FnExactAddNumber", spec := "fnExactAddNumber", apart := false, narrowed := true }
def FnExactAddNumberUptoSaid : Prop := fnExactAddNumberUptoRow.holds Try.pinned (OpenSpec.upto fnExactAddNumberSpec)

/-- 'laws.FnExactAddNumberMoves', WHERE WHAT IT READS IS OF BULK AT MOST 1048576: true; the input reads as it did. -/
def fnExactAddNumberMovesUptoRow : OpenClaim := { program := "ytjkjaadcdolbhaa", sum := "fe0139c6817d7e5b8de37905a9c20008bcfc7b8aff81b06afbbd561349712e56", func := "loop.example/g01006/laws.FnExactAddNumberMoves", spec := "fnExactAddNumberMoves", apart := false, narrowed := true }
def FnExactAddNumberMovesUptoSaid : Prop := fnExactAddNumberMovesUptoRow.holds Try.pinned (OpenSpec.upto fnExactAddNumberMovesSpec)

/-- 'laws.FnExactKindsUsed', WHERE WHAT IT READS IS OF BULK AT MOST 1048576: true; the input reads as it did. -/
def fnExactKindsUsedUptoRow : OpenClaim := { program := "ytjkjaadcdolbhaa", sum := "fe0139c6817d7e5b8de37905a9c20008bcfc7b8aff81b06afbbd561349712e56", func := "loop.example/g01006/laws.FnExactKindsUsed", spec := "fnExactKindsUsed", apart := false, narrowed := true }
def FnExactKindsUsedUptoSaid : Prop := fnExactKindsUsedUptoRow.holds Try.pinned (OpenSpec.upto fnExactKindsUsedSpec)

end Rows
end Go.Proofs.Ytjkjaadcdolbhaa
