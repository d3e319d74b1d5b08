/-
  No cell of these rows narrows 'for every input' (looked for: loops, veiled, ifaces, maps, wideKeys, modest, calm, conditions, laid).
  DERIVED. THE GIVEN ROWS OF THIS SEAT. 12 by the template 'for every input the law returns true; each argument reads behind the call as it read before'; 0 by the template 'total and deterministic' (their statements: YtpdckmhhmgkaaaaTotals.lean).
  GIVEN WITH THE SEED: the statements are not yours to turn. If you find one false, say at which input.
  Laid BY PROGRAM, IN A SANDBOX (cutbox-rows.mjs): the forced cells as the released guide's own fill.sh prints them over the translation 2a84012a0b83aaf6… (all of the seat's roots in one cut). By AI agents, Wed Nov 11 2026. No macro, syntax, notation, axiom, sorry.
-/
import Derived.Test.YtpdckmhhmgkaaaaChecked
import GoSem.Claim
import GoSem.ClaimJoined
import GoSem.ClaimMapViews
import Derived.JoinedTies
import Derived.KernelRfl
namespace Go.Proofs.Ytpdckmhhmgkaaaa
/- THE CELL 'sum', in the pinned program and in every row, IS THE sha256 OF THE DUMP (.gsa) THAT YtpdckmhhmgkaaaaProg.lean LOADS. Nothing in Lean hashes anything: it is a label: what it is worth is what the hold of that sum in a sandbox is worth. -/
noncomputable def Try.pinned : Pinned := { name := "ytpdckmhhmgkaaaa", sum := "2a84012a0b83aaf6f34ebc7a50f16dc21dcc986fb27dfc9aa78c42f40ed378bf", checked := Try.checked }
namespace Rows
def none {H : Type} : Left H := { results := [], args := [] }

/-- 'laws.FnExactNumberOn': WHATEVER THE INPUT: true; the input reads as it did. -/
def fnExactNumberOnSpec : ChangeSpec := { name := "fnExactNumberOn", fn := fun _ => fun
  | [d] => { results := [.lit (.bool true)], args := [d] }
  | _ => none }
def fnExactNumberOnRow : OpenClaim := { program := "ytpdckmhhmgkaaaa", sum := "2a84012a0b83aaf6f34ebc7a50f16dc21dcc986fb27dfc9aa78c42f40ed378bf", func := "loop.example/g01006/laws.FnExactNumberOn", spec := "fnExactNumberOn", apart := false }
def FnExactNumberOnSaid : Prop := fnExactNumberOnRow.holds Try.pinned (OpenSpec.ofChange fnExactNumberOnSpec)

/-- ITS FALSE NEIGHBOUR: 'it returns false'. Refute it at one input. -/
def fnExactNumberOnWrong : ChangeSpec := { name := "fnExactNumberOn", fn := fun _ => fun
  | [d] => { results := [.lit (.bool false)], args := [d] }
  | _ => none }
def FnExactNumberOnWrongFalsely : Prop := fnExactNumberOnRow.holds Try.pinned (OpenSpec.ofChange fnExactNumberOnWrong)

/-- 'laws.FnExactMadeStandard': WHATEVER THE INPUT: true; the input reads as it did. -/
def fnExactMadeStandardSpec : ChangeSpec := { name := "fnExactMadeStandard", fn := fun _ => fun
  | [d] => { results := [.lit (.bool true)], args := [d] }
  | _ => none }
def fnExactMadeStandardRow : OpenClaim := { program := "ytpdckmhhmgkaaaa", sum := "2a84012a0b83aaf6f34ebc7a50f16dc21dcc986fb27dfc9aa78c42f40ed378bf", func := "loop.example/g01006/laws.FnExactMadeStandard", spec := "fnExactMadeStandard", apart := false }
def FnExactMadeStandardSaid : Prop := fnExactMadeStandardRow.holds Try.pinned (OpenSpec.ofChange fnExactMadeStandardSpec)

/-- ITS FALSE NEIGHBOUR: 'it returns false'. Refute it at one input. -/
def fnExactMadeStandardWrong : ChangeSpec := { name := "fnExactMadeStandard", fn := fun _ => fun
  | [d] => { results := [.lit (.bool false)], args := [d] }
  | _ => none }
def FnExactMadeStandardWrongFalsely : Prop := fnExactMadeStandardRow.holds Try.pinned (OpenSpec.ofChange fnExactMadeStandardWrong)

/-- 'laws.FnExactIsBeadMove': WHATEVER THE INPUT: true; the input reads as it did. -/
def fnExactIsBeadMoveSpec : ChangeSpec := { name := "fnExactIsBeadMove", fn := fun _ => fun
  | [d] => { results := [.lit (.bool true)], args := [d] }
  | _ => none }
def fnExactIsBeadMoveRow : OpenClaim := { program := "ytpdckmhhmgkaaaa", sum := "2a84012a0b83aaf6f34ebc7a50f16dc21dcc986fb27dfc9aa78c42f40ed378bf", func := "loop.example/g01006/laws.FnExactIsBeadMove", spec := "fnExactIsBeadMove", apart := false }
def FnExactIsBeadMoveSaid : Prop := fnExactIsBeadMoveRow.holds Try.pinned (OpenSpec.ofChange fnExactIsBeadMoveSpec)

/-- ITS FALSE NEIGHBOUR: 'it returns false'. Refute it at one input. -/
def fnExactIsBeadMoveWrong : ChangeSpec := { name := "fnExactIsBeadMove", fn := fun _ => fun
  | [d] => { results := [.lit (.bool false)], args := [d] }
  | _ => none }
def FnExactIsBeadMoveWrongFalsely : Prop := fnExactIsBeadMoveRow.holds Try.pinned (OpenSpec.ofChange fnExactIsBeadMoveWrong)

/-- 'laws.FnExactMoveBeads': WHATEVER THE INPUT: true; the input reads as it did. -/
def fnExactMoveBeadsSpec : ChangeSpec := { name := "fnExactMoveBeads", fn := fun _ => fun
  | [d1, d2] => { results := [.lit (.bool true)], args := [d1, d2] }
  | _ => none }
def fnExactMoveBeadsRow : OpenClaim := { program := "ytpdckmhhmgkaaaa", sum := "2a84012a0b83aaf6f34ebc7a50f16dc21dcc986fb27dfc9aa78c42f40ed378bf", func := "loop.example/g01006/laws.FnExactMoveBeads", spec := "fnExactMoveBeads", apart := false }
def FnExactMoveBeadsSaid : Prop := fnExactMoveBeadsRow.holds Try.pinned (OpenSpec.ofChange fnExactMoveBeadsSpec)

/-- ITS FALSE NEIGHBOUR: 'it returns false'. Refute it at one input. -/
def fnExactMoveBeadsWrong : ChangeSpec := { name := "fnExactMoveBeads", fn := fun _ => fun
  | [d1, d2] => { results := [.lit (.bool false)], args := [d1, d2] }
  | _ => none }
def FnExactMoveBeadsWrongFalsely : Prop := fnExactMoveBeadsRow.holds Try.pinned (OpenSpec.ofChange fnExactMoveBeadsWrong)

/-- 'laws.FnExactPlayMoves': WHATEVER THE INPUT: true; the input reads as it did. -/
def fnExactPlayMovesSpec : ChangeSpec := { name := "fnExactPlayMoves", fn := fun _ => fun
  | [d1, d2] => { results := [.lit (.bool true)], args := [d1, d2] }
  | _ => none }
def fnExactPlayMovesRow : OpenClaim := { program := "ytpdckmhhmgkaaaa", sum := "2a84012a0b83aaf6f34ebc7a50f16dc21dcc986fb27dfc9aa78c42f40ed378bf", func := "loop.example/g01006/laws.FnExactPlayMoves", spec := "fnExactPlayMoves", apart := false }
def FnExactPlayMovesSaid : Prop := fnExactPlayMovesRow.holds Try.pinned (OpenSpec.ofChange fnExactPlayMovesSpec)

/-- ITS FALSE NEIGHBOUR: 'it returns false'. Refute it at one input. -/
def fnExactPlayMovesWrong : ChangeSpec := { name := "fnExactPlayMoves", fn := fun _ => fun
  | [d1, d2] => { results := [.lit (.bool false)], args := [d1, d2] }
  | _ => none }
def FnExactPlayMovesWrongFalsely : Prop := fnExactPlayMovesRow.holds Try.pinned (OpenSpec.ofChange fnExactPlayMovesWrong)

/-- 'laws.FnExactUndoMoves': WHATEVER THE INPUT: true; the input reads as it did. -/
def fnExactUndoMovesSpec : ChangeSpec := { name := "fnExactUndoMoves", fn := fun _ => fun
  | [d] => { results := [.lit (.bool true)], args := [d] }
  | _ => none }
def fnExactUndoMovesRow : OpenClaim := { program := "ytpdckmhhmgkaaaa", sum := "2a84012a0b83aaf6f34ebc7a50f16dc21dcc986fb27dfc9aa78c42f40ed378bf", func := "loop.example/g01006/laws.FnExactUndoMoves", spec := "fnExactUndoMoves", apart := false }
def FnExactUndoMovesSaid : Prop := fnExactUndoMovesRow.holds Try.pinned (OpenSpec.ofChange fnExactUndoMovesSpec)

/-- ITS FALSE NEIGHBOUR: 'it returns false'. Refute it at one input. -/
def fnExactUndoMovesWrong : ChangeSpec := { name := "fnExactUndoMoves", fn := fun _ => fun
  | [d] => { results := [.lit (.bool false)], args := [d] }
  | _ => none }
def FnExactUndoMovesWrongFalsely : Prop := fnExactUndoMovesRow.holds Try.pinned (OpenSpec.ofChange fnExactUndoMovesWrong)

/-- 'laws.FnExactMovesBetween': WHATEVER THE INPUT: true; the input reads as it did. -/
def fnExactMovesBetweenSpec : ChangeSpec := { name := "fnExactMovesBetween", fn := fun _ => fun
  | [d1, d2] => { results := [.lit (.bool true)], args := [d1, d2] }
  | _ => none }
def fnExactMovesBetweenRow : OpenClaim := { program := "ytpdckmhhmgkaaaa", sum := "2a84012a0b83aaf6f34ebc7a50f16dc21dcc986fb27dfc9aa78c42f40ed378bf", func := "loop.example/g01006/laws.FnExactMovesBetween", spec := "fnExactMovesBetween", apart := false }
def FnExactMovesBetweenSaid : Prop := fnExactMovesBetweenRow.holds Try.pinned (OpenSpec.ofChange fnExactMovesBetweenSpec)

/-- ITS FALSE NEIGHBOUR: 'it returns false'. Refute it at one input. -/
def fnExactMovesBetweenWrong : ChangeSpec := { name := "fnExactMovesBetween", fn := fun _ => fun
  | [d1, d2] => { results := [.lit (.bool false)], args := [d1, d2] }
  | _ => none }
def FnExactMovesBetweenWrongFalsely : Prop := fnExactMovesBetweenRow.holds Try.pinned (OpenSpec.ofChange fnExactMovesBetweenWrong)

/-- 'laws.FnExactBeadsOf': WHATEVER THE INPUT: true; the input reads as it did. -/
def fnExactBeadsOfSpec : ChangeSpec := { name := "fnExactBeadsOf", fn := fun _ => fun
  | [d] => { results := [.lit (.bool true)], args := [d] }
  | _ => none }
def fnExactBeadsOfRow : OpenClaim := { program := "ytpdckmhhmgkaaaa", sum := "2a84012a0b83aaf6f34ebc7a50f16dc21dcc986fb27dfc9aa78c42f40ed378bf", func := "loop.example/g01006/laws.FnExactBeadsOf", spec := "fnExactBeadsOf", apart := false }
def FnExactBeadsOfSaid : Prop := fnExactBeadsOfRow.holds Try.pinned (OpenSpec.ofChange fnExactBeadsOfSpec)

/-- ITS FALSE NEIGHBOUR: 'it returns false'. Refute it at one input. -/
def fnExactBeadsOfWrong : ChangeSpec := { name := "fnExactBeadsOf", fn := fun _ => fun
  | [d] => { results := [.lit (.bool false)], args := [d] }
  | _ => none }
def FnExactBeadsOfWrongFalsely : Prop := fnExactBeadsOfRow.holds Try.pinned (OpenSpec.ofChange fnExactBeadsOfWrong)

/-- 'laws.FnExactChangeOf': WHATEVER THE INPUT: true; the input reads as it did. -/
def fnExactChangeOfSpec : ChangeSpec := { name := "fnExactChangeOf", fn := fun _ => fun
  | [d1, d2] => { results := [.lit (.bool true)], args := [d1, d2] }
  | _ => none }
def fnExactChangeOfRow : OpenClaim := { program := "ytpdckmhhmgkaaaa", sum := "2a84012a0b83aaf6f34ebc7a50f16dc21dcc986fb27dfc9aa78c42f40ed378bf", func := "loop.example/g01006/laws.FnExactChangeOf", spec := "fnExactChangeOf", apart := false }
def FnExactChangeOfSaid : Prop := fnExactChangeOfRow.holds Try.pinned (OpenSpec.ofChange fnExactChangeOfSpec)

/-- ITS FALSE NEIGHBOUR: 'it returns false'. Refute it at one input. -/
def fnExactChangeOfWrong : ChangeSpec := { name := "fnExactChangeOf", fn := fun _ => fun
  | [d1, d2] => { results := [.lit (.bool false)], args := [d1, d2] }
  | _ => none }
def FnExactChangeOfWrongFalsely : Prop := fnExactChangeOfRow.holds Try.pinned (OpenSpec.ofChange fnExactChangeOfWrong)

/-- 'laws.FnExactMergedMoves': WHATEVER THE INPUT: true; the input reads as it did. -/
def fnExactMergedMovesSpec : ChangeSpec := { name := "fnExactMergedMoves", fn := fun _ => fun
  | [d] => { results := [.lit (.bool true)], args := [d] }
  | _ => none }
def fnExactMergedMovesRow : OpenClaim := { program := "ytpdckmhhmgkaaaa", sum := "2a84012a0b83aaf6f34ebc7a50f16dc21dcc986fb27dfc9aa78c42f40ed378bf", func := "loop.example/g01006/laws.FnExactMergedMoves", spec := "fnExactMergedMoves", apart := false }
def FnExactMergedMovesSaid : Prop := fnExactMergedMovesRow.holds Try.pinned (OpenSpec.ofChange fnExactMergedMovesSpec)

/-- ITS FALSE NEIGHBOUR: 'it returns false'. Refute it at one input. -/
def fnExactMergedMovesWrong : ChangeSpec := { name := "fnExactMergedMoves", fn := fun _ => fun
  | [d] => { results := [.lit (.bool false)], args := [d] }
  | _ => none }
def FnExactMergedMovesWrongFalsely : Prop := fnExactMergedMovesRow.holds Try.pinned (OpenSpec.ofChange fnExactMergedMovesWrong)

/-- 'laws.FnExactMovesText': WHATEVER THE INPUT: true; the input reads as it did. -/
def fnExactMovesTextSpec : ChangeSpec := { name := "fnExactMovesText", fn := fun _ => fun
  | [d] => { results := [.lit (.bool true)], args := [d] }
  | _ => none }
def fnExactMovesTextRow : OpenClaim := { program := "ytpdckmhhmgkaaaa", sum := "2a84012a0b83aaf6f34ebc7a50f16dc21dcc986fb27dfc9aa78c42f40ed378bf", func := "loop.example/g01006/laws.FnExactMovesText", spec := "fnExactMovesText", recurses := true, apart := false }
def FnExactMovesTextSaid : Prop := fnExactMovesTextRow.holds Try.pinned (OpenSpec.ofChange fnExactMovesTextSpec)

/-- ITS FALSE NEIGHBOUR: 'it returns false'. Refute it at one input. -/
def fnExactMovesTextWrong : ChangeSpec := { name := "fnExactMovesText", fn := fun _ => fun
  | [d] => { results := [.lit (.bool false)], args := [d] }
  | _ => none }
def FnExactMovesTextWrongFalsely : Prop := fnExactMovesTextRow.holds Try.pinned (OpenSpec.ofChange fnExactMovesTextWrong)

/-- 'laws.FnExactParseMoves': WHATEVER THE INPUT: true; the input reads as it did. -/
def fnExactParseMovesSpec : ChangeSpec := { name := "fnExactParseMoves", fn := fun _ => fun
  | [d] => { results := [.lit (.bool true)], args := [d] }
  | _ => none }
def fnExactParseMovesRow : OpenClaim := { program := "ytpdckmhhmgkaaaa", sum := "2a84012a0b83aaf6f34ebc7a50f16dc21dcc986fb27dfc9aa78c42f40ed378bf", func := "loop.example/g01006/laws.FnExactParseMoves", spec := "fnExactParseMoves", inPlace := ["internal/bytealg.IndexByteString"], recurses := true, apart := false }
def FnExactParseMovesSaid : Prop := fnExactParseMovesRow.holds Try.pinned (OpenSpec.ofChange fnExactParseMovesSpec)

/-- ITS FALSE NEIGHBOUR: 'it returns false'. Refute it at one input. -/
def fnExactParseMovesWrong : ChangeSpec := { name := "fnExactParseMoves", fn := fun _ => fun
  | [d] => { results := [.lit (.bool false)], args := [d] }
  | _ => none }
def FnExactParseMovesWrongFalsely : Prop := fnExactParseMovesRow.holds Try.pinned (OpenSpec.ofChange fnExactParseMovesWrong)

/- THE SECOND FORM. 'bulk': how many values and letters a reading holds, each counted each time it is reached (what is shared counts as often as it is met; a slice's spare places count too). A statement '..UptoSaid' is the law's where the arguments, and the package variables that the reading takes, are together of bulk at most 1048576: NARROWER than '..Said'. Prove '..Said' where nothing that the law and all that it calls make is longer than what came in: it says more and counts as full. Else prove '..UptoSaid'. A law counts once. -/
mutual
def uptoBulk {H : Type} : DataW H → Nat
  | .lit (.string bytes) => bytes.length + 1
  | .lit _ => 1
  | .nil => 1
  | .ptr d => uptoBulk d + 1
  | .slice elems spare => uptoBulkAll elems + uptoBulkAll spare + 1
  | .agg parts => uptoBulkAll parts + 1
  | .iface _ d => uptoBulk d + 1
  | .map entries => uptoBulkEntries entries + 1
  | .held _ => 1
def uptoBulkAll {H : Type} : List (DataW H) → Nat
  | [] => 0
  | d :: r => uptoBulk d + uptoBulkAll r
def uptoBulkEntries {H : Type} : List (Lit × DataW H) → Nat
  | [] => 0
  | x :: r => uptoBulkEntry x + uptoBulkEntries r
def uptoBulkEntry {H : Type} : Lit × DataW H → Nat
  | (.string bytes, d) => bytes.length + uptoBulk d + 1
  | (_, d) => uptoBulk d + 1
 end
def uptoSmall : (H : Type) → List (DataW H) → Bool := fun _ ds => decide (uptoBulkAll ds ≤ 1048576)
def OpenSpec.upto (s : _root_.Go.ChangeSpec) : _root_.Go.OpenSpec := { _root_.Go.OpenSpec.ofChange s with cond := some uptoSmall }

/-- 'laws.FnExactNumberOn', WHERE WHAT IT READS IS OF BULK AT MOST 1048576: true; the input reads as it did. -/
def fnExactNumberOnUptoRow : OpenClaim := { program := "ytpdckmhhmgkaaaa", sum := "2a84012a0b83aaf6f34ebc7a50f16dc21dcc986fb27dfc9aa78c42f40ed378bf", func := "loop.example/g01006/laws.FnExactNumberOn", spec := "fnExactNumberOn", apart := false, narrowed := true }
def FnExactNumberOnUptoSaid : Prop := fnExactNumberOnUptoRow.holds Try.pinned (OpenSpec.upto fnExactNumberOnSpec)

/-- 'laws.FnExactMadeStandard', WHERE WHAT IT READS IS OF BULK AT MOST 1048576: true; the input reads as it did. -/
def fnExactMadeStandardUptoRow : OpenClaim := { program := "ytpdckmhhmgkaaaa", sum := "2a84012a0b83aaf6f34ebc7a50f16dc21dcc986fb27dfc9aa78c42f40ed378bf", func := "loop.example/g01006/laws.FnExactMadeStandard", spec := "fnExactMadeStandard", apart := false, narrowed := true }
def FnExactMadeStandardUptoSaid : Prop := fnExactMadeStandardUptoRow.holds Try.pinned (OpenSpec.upto fnExactMadeStandardSpec)

/-- 'laws.FnExactIsBeadMove', WHERE WHAT IT READS IS OF BULK AT MOST 1048576: true; the input reads as it did. -/
def fnExactIsBeadMoveUptoRow : OpenClaim := { program := "ytpdckmhhmgkaaaa", sum := "2a84012a0b83aaf6f34ebc7a50f16dc21dcc986fb27dfc9aa78c42f40ed378bf", func := "loop.example/g01006/laws.FnExactIsBeadMove", spec := "fnExactIsBeadMove", apart := false, narrowed := true }
def FnExactIsBeadMoveUptoSaid : Prop := fnExactIsBeadMoveUptoRow.holds Try.pinned (OpenSpec.upto fnExactIsBeadMoveSpec)

/-- 'laws.FnExactMoveBeads', WHERE WHAT IT READS IS OF BULK AT MOST 1048576: true; the input reads as it did. -/
def fnExactMoveBeadsUptoRow : OpenClaim := { program := "ytpdckmhhmgkaaaa", sum := "2a84012a0b83aaf6f34ebc7a50f16dc21dcc986fb27dfc9aa78c42f40ed378bf", func := "loop.example/g01006/laws.FnExactMoveBeads", spec := "fnExactMoveBeads", apart := false, narrowed := true }
def FnExactMoveBeadsUptoSaid : Prop := fnExactMoveBeadsUptoRow.holds Try.pinned (OpenSpec.upto fnExactMoveBeadsSpec)

/-- 'laws.FnExactPlayMoves', WHERE WHAT IT READS IS OF BULK AT MOST 1048576: true; the input reads as it did. -/
def fnExactPlayMovesUptoRow : OpenClaim := { program := "ytpdckmhhmgkaaaa", sum := "2a84012a0b83aaf6f34ebc7a50f16dc21dcc986fb27dfc9aa78c42f40ed378bf", func := "loop.example/g01006/laws.FnExactPlayMoves", spec := "fnExactPlayMoves", apart := false, narrowed := true }
def FnExactPlayMovesUptoSaid : Prop := fnExactPlayMovesUptoRow.holds Try.pinned (OpenSpec.upto fnExactPlayMovesSpec)

/-- 'laws.FnExactUndoMoves', WHERE WHAT IT READS IS OF BULK AT MOST 1048576: true; the input reads as it did. -/
def fnExactUndoMovesUptoRow : OpenClaim := { program := "ytpdckmhhmgkaaaa", sum := "2a84012a0b83aaf6f34ebc7a50f16dc21dcc986fb27dfc9aa78c42f40ed378bf", func := "loop.example/g01006/laws.FnExactUndoMoves", spec := "fnExactUndoMoves", apart := false, narrowed := true }
def FnExactUndoMovesUptoSaid : Prop := fnExactUndoMovesUptoRow.holds Try.pinned (OpenSpec.upto fnExactUndoMovesSpec)

/-- 'laws.FnExactMovesBetween', WHERE WHAT IT READS IS OF BULK AT MOST 1048576: true; the input reads as it did. -/
def fnExactMovesBetweenUptoRow : OpenClaim := { program := "ytpdckmhhmgkaaaa", sum := "2a84012a0b83aaf6f34ebc7a50f16dc21dcc986fb27dfc9aa78c42f40ed378bf", func := "loop.example/g01006/laws.FnExactMovesBetween", spec := "fnExactMovesBetween", apart := false, narrowed := true }
def FnExactMovesBetweenUptoSaid : Prop := fnExactMovesBetweenUptoRow.holds Try.pinned (OpenSpec.upto fnExactMovesBetweenSpec)

/-- 'laws.FnExactBeadsOf', WHERE WHAT IT READS IS OF BULK AT MOST 1048576: true; the input reads as it did. -/
def fnExactBeadsOfUptoRow : OpenClaim := { program := "ytpdckmhhmgkaaaa", sum := "2a84012a0b83aaf6f34ebc7a50f16dc21dcc986fb27dfc9aa78c42f40ed378bf", func := "loop.example/g01006/laws.FnExactBeadsOf", spec := "fnExactBeadsOf", apart := false, narrowed := true }
def FnExactBeadsOfUptoSaid : Prop := fnExactBeadsOfUptoRow.holds Try.pinned (OpenSpec.upto fnExactBeadsOfSpec)

/-- 'laws.FnExactChangeOf', WHERE WHAT IT READS IS OF BULK AT MOST 1048576: true; the input reads as it did. -/
def fnExactChangeOfUptoRow : OpenClaim := { program := "ytpdckmhhmgkaaaa", sum := "2a84012a0b83aaf6f34ebc7a50f16dc21dcc986fb27dfc9aa78c42f40ed378bf", func := "loop.example/g01006/laws.FnExactChangeOf", spec := "fnExactChangeOf", apart := false, narrowed := true }
def FnExactChangeOfUptoSaid : Prop := fnExactChangeOfUptoRow.holds Try.pinned (OpenSpec.upto fnExactChangeOfSpec)

/-- 'laws.FnExactMergedMoves', WHERE WHAT IT READS IS OF BULK AT MOST 1048576: true; the input reads as it did. -/
def fnExactMergedMovesUptoRow : OpenClaim := { program := "ytpdckmhhmgkaaaa", sum := "2a84012a0b83aaf6f34ebc7a50f16dc21dcc986fb27dfc9aa78c42f40ed378bf", func := "loop.example/g01006/laws.FnExactMergedMoves", spec := "fnExactMergedMoves", apart := false, narrowed := true }
def FnExactMergedMovesUptoSaid : Prop := fnExactMergedMovesUptoRow.holds Try.pinned (OpenSpec.upto fnExactMergedMovesSpec)

/-- 'laws.FnExactMovesText', WHERE WHAT IT READS IS OF BULK AT MOST 1048576: true; the input reads as it did. -/
def fnExactMovesTextUptoRow : OpenClaim := { program := "ytpdckmhhmgkaaaa", sum := "2a84012a0b83aaf6f34ebc7a50f16dc21dcc986fb27dfc9aa78c42f40ed378bf", func := "loop.example/g01006/laws.FnExactMovesText", spec := "fnExactMovesText", recurses := true, apart := false, narrowed := true }
def FnExactMovesTextUptoSaid : Prop := fnExactMovesTextUptoRow.holds Try.pinned (OpenSpec.upto fnExactMovesTextSpec)

/-- 'laws.FnExactParseMoves', WHERE WHAT IT READS IS OF BULK AT MOST 1048576: true; the input reads as it did. -/
def fnExactParseMovesUptoRow : OpenClaim := { program := "ytpdckmhhmgkaaaa", sum := "2a84012a0b83aaf6f34ebc7a50f16dc21dcc986fb27dfc9aa78c42f40ed378bf", func := "loop.example/g01006/laws.FnExactParseMoves", spec := "fnExactParseMoves", inPlace := ["internal/bytealg.IndexByteString"], recurses := true, apart := false, narrowed := true }
def FnExactParseMovesUptoSaid : Prop := fnExactParseMovesUptoRow.holds Try.pinned (OpenSpec.upto fnExactParseMovesSpec)

end Rows
end Go.Proofs.Ytpdckmhhmgkaaaa
