/-
  No cell of these rows narrows 'for every input' (looked for: loops, veiled, ifaces, maps, wideKeys, modest, calm, conditions, laid).
  DERIVED. THE GIVEN ROWS OF THIS SEAT. 12 by the template 'for every input the law returns true; each argument reads behind the call as it read before'; 0 by the template 'total and deterministic' (their statements: YtbnfbpbfbdbiaaaTotals.lean).
  GIVEN WITH THE SEED: the statements are not yours to turn. If you find one false, say at which input.
  Laid BY PROGRAM, IN A SANDBOX (cutbox-rows.mjs): the forced cells as the released guide's own fill.sh prints them over the translation bfaec654122767b7… (all of the seat's roots in one cut). By AI agents, Wed Nov 11 2026. No macro, syntax, notation, axiom, sorry.
-/
import Derived.Test.YtbnfbpbfbdbiaaaChecked
import GoSem.Claim
import GoSem.ClaimJoined
import GoSem.ClaimMapViews
import Derived.JoinedTies
import Derived.KernelRfl
namespace Go.Proofs.Ytbnfbpbfbdbiaaa
/- THE CELL 'sum', in the pinned program and in every row, IS THE sha256 OF THE DUMP (.gsa) THAT YtbnfbpbfbdbiaaaProg.lean LOADS. Nothing in Lean hashes anything: it is a label: what it is worth is what the hold of that sum in a sandbox is worth. -/
noncomputable def Try.pinned : Pinned := { name := "ytbnfbpbfbdbiaaa", sum := "bfaec654122767b7efbc6dfb9384aa6a0c7f13787089977be41b4001c2c06123", checked := Try.checked }
namespace Rows
def none {H : Type} : Left H := { results := [], args := [] }

/-- 'laws.FnNumbers': WHATEVER THE INPUT: true; the input reads as it did. -/
def fnNumbersSpec : ChangeSpec := { name := "fnNumbers", fn := fun _ => fun
  | [d] => { results := [.lit (.bool true)], args := [d] }
  | _ => none }
def fnNumbersRow : OpenClaim := { program := "ytbnfbpbfbdbiaaa", sum := "bfaec654122767b7efbc6dfb9384aa6a0c7f13787089977be41b4001c2c06123", func := "loop.example/g01006/laws.FnNumbers", spec := "fnNumbers", apart := false }
def FnNumbersSaid : Prop := fnNumbersRow.holds Try.pinned (OpenSpec.ofChange fnNumbersSpec)

/-- ITS FALSE NEIGHBOUR: 'it returns false'. Refute it at one input. -/
def fnNumbersWrong : ChangeSpec := { name := "fnNumbers", fn := fun _ => fun
  | [d] => { results := [.lit (.bool false)], args := [d] }
  | _ => none }
def FnNumbersWrongFalsely : Prop := fnNumbersRow.holds Try.pinned (OpenSpec.ofChange fnNumbersWrong)

/-- 'laws.FnExactSplitString': WHATEVER THE INPUT: true; the input reads as it did. -/
def fnExactSplitStringSpec : ChangeSpec := { name := "fnExactSplitString", fn := fun _ => fun
  | [d1, d2] => { results := [.lit (.bool true)], args := [d1, d2] }
  | _ => none }
def fnExactSplitStringRow : OpenClaim := { program := "ytbnfbpbfbdbiaaa", sum := "bfaec654122767b7efbc6dfb9384aa6a0c7f13787089977be41b4001c2c06123", func := "loop.example/g01006/laws.FnExactSplitString", spec := "fnExactSplitString", unfollowed := true, recurses := true, apart := false }
def FnExactSplitStringSaid : Prop := fnExactSplitStringRow.holds Try.pinned (OpenSpec.ofChange fnExactSplitStringSpec)

/-- ITS FALSE NEIGHBOUR: 'it returns false'. Refute it at one input. -/
def fnExactSplitStringWrong : ChangeSpec := { name := "fnExactSplitString", fn := fun _ => fun
  | [d1, d2] => { results := [.lit (.bool false)], args := [d1, d2] }
  | _ => none }
def FnExactSplitStringWrongFalsely : Prop := fnExactSplitStringRow.holds Try.pinned (OpenSpec.ofChange fnExactSplitStringWrong)

/-- 'laws.FnExactIsFrame': WHATEVER THE INPUT: true; the input reads as it did. -/
def fnExactIsFrameSpec : ChangeSpec := { name := "fnExactIsFrame", fn := fun _ => fun
  | [d] => { results := [.lit (.bool true)], args := [d] }
  | _ => none }
def fnExactIsFrameRow : OpenClaim := { program := "ytbnfbpbfbdbiaaa", sum := "bfaec654122767b7efbc6dfb9384aa6a0c7f13787089977be41b4001c2c06123", func := "loop.example/g01006/laws.FnExactIsFrame", spec := "fnExactIsFrame", apart := false }
def FnExactIsFrameSaid : Prop := fnExactIsFrameRow.holds Try.pinned (OpenSpec.ofChange fnExactIsFrameSpec)

/-- ITS FALSE NEIGHBOUR: 'it returns false'. Refute it at one input. -/
def fnExactIsFrameWrong : ChangeSpec := { name := "fnExactIsFrame", fn := fun _ => fun
  | [d] => { results := [.lit (.bool false)], args := [d] }
  | _ => none }
def FnExactIsFrameWrongFalsely : Prop := fnExactIsFrameRow.holds Try.pinned (OpenSpec.ofChange fnExactIsFrameWrong)

/-- 'laws.FnExactNumberOn': WHATEVER THE INPUT: true; the input reads as it did. -/
def fnExactNumberOnSpec : ChangeSpec := { name := "fnExactNumberOn", fn := fun _ => fun
  | [d] => { results := [.lit (.bool true)], args := [d] }
  | _ => none }
def fnExactNumberOnRow : OpenClaim := { program := "ytbnfbpbfbdbiaaa", sum := "bfaec654122767b7efbc6dfb9384aa6a0c7f13787089977be41b4001c2c06123", func := "loop.example/g01006/laws.FnExactNumberOn", spec := "fnExactNumberOn", apart := false }
def FnExactNumberOnSaid : Prop := fnExactNumberOnRow.holds Try.pinned (OpenSpec.ofChange fnExactNumberOnSpec)

/-- ITS FALSE NEIGHBOUR: 'it returns false'. Refute it at one input. -/
def fnExactNumberOnWrong : ChangeSpec := { name := "fnExactNumberOn", fn := fun _ => fun
  | [d] => { results := [.lit (.bool false)], args := [d] }
  | _ => none }
def FnExactNumberOnWrongFalsely : Prop := fnExactNumberOnRow.holds Try.pinned (OpenSpec.ofChange fnExactNumberOnWrong)

/-- 'laws.FnExactRodValue': WHATEVER THE INPUT: true; the input reads as it did. -/
def fnExactRodValueSpec : ChangeSpec := { name := "fnExactRodValue", fn := fun _ => fun
  | [d1, d2] => { results := [.lit (.bool true)], args := [d1, d2] }
  | _ => none }
def fnExactRodValueRow : OpenClaim := { program := "ytbnfbpbfbdbiaaa", sum := "bfaec654122767b7efbc6dfb9384aa6a0c7f13787089977be41b4001c2c06123", func := "loop.example/g01006/laws.FnExactRodValue", spec := "fnExactRodValue", apart := false }
def FnExactRodValueSaid : Prop := fnExactRodValueRow.holds Try.pinned (OpenSpec.ofChange fnExactRodValueSpec)

/-- ITS FALSE NEIGHBOUR: 'it returns false'. Refute it at one input. -/
def fnExactRodValueWrong : ChangeSpec := { name := "fnExactRodValue", fn := fun _ => fun
  | [d1, d2] => { results := [.lit (.bool false)], args := [d1, d2] }
  | _ => none }
def FnExactRodValueWrongFalsely : Prop := fnExactRodValueRow.holds Try.pinned (OpenSpec.ofChange fnExactRodValueWrong)

/-- 'laws.FnExactIsStandard': WHATEVER THE INPUT: true; the input reads as it did. -/
def fnExactIsStandardSpec : ChangeSpec := { name := "fnExactIsStandard", fn := fun _ => fun
  | [d] => { results := [.lit (.bool true)], args := [d] }
  | _ => none }
def fnExactIsStandardRow : OpenClaim := { program := "ytbnfbpbfbdbiaaa", sum := "bfaec654122767b7efbc6dfb9384aa6a0c7f13787089977be41b4001c2c06123", func := "loop.example/g01006/laws.FnExactIsStandard", spec := "fnExactIsStandard", apart := false }
def FnExactIsStandardSaid : Prop := fnExactIsStandardRow.holds Try.pinned (OpenSpec.ofChange fnExactIsStandardSpec)

/-- ITS FALSE NEIGHBOUR: 'it returns false'. Refute it at one input. -/
def fnExactIsStandardWrong : ChangeSpec := { name := "fnExactIsStandard", fn := fun _ => fun
  | [d] => { results := [.lit (.bool false)], args := [d] }
  | _ => none }
def FnExactIsStandardWrongFalsely : Prop := fnExactIsStandardRow.holds Try.pinned (OpenSpec.ofChange fnExactIsStandardWrong)

/-- 'laws.FnExactFrameFor': WHATEVER THE INPUT: true; the input reads as it did. -/
def fnExactFrameForSpec : ChangeSpec := { name := "fnExactFrameFor", fn := fun _ => fun
  | [d1, d2, d3, d4] => { results := [.lit (.bool true)], args := [d1, d2, d3, d4] }
  | _ => none }
def fnExactFrameForRow : OpenClaim := { program := "ytbnfbpbfbdbiaaa", sum := "bfaec654122767b7efbc6dfb9384aa6a0c7f13787089977be41b4001c2c06123", func := "loop.example/g01006/laws.FnExactFrameFor", spec := "fnExactFrameFor", apart := false }
def FnExactFrameForSaid : Prop := fnExactFrameForRow.holds Try.pinned (OpenSpec.ofChange fnExactFrameForSpec)

/-- ITS FALSE NEIGHBOUR: 'it returns false'. Refute it at one input. -/
def fnExactFrameForWrong : ChangeSpec := { name := "fnExactFrameFor", fn := fun _ => fun
  | [d1, d2, d3, d4] => { results := [.lit (.bool false)], args := [d1, d2, d3, d4] }
  | _ => none }
def FnExactFrameForWrongFalsely : Prop := fnExactFrameForRow.holds Try.pinned (OpenSpec.ofChange fnExactFrameForWrong)

/-- 'laws.FnExactSetRod': WHATEVER THE INPUT: true; the input reads as it did. -/
def fnExactSetRodSpec : ChangeSpec := { name := "fnExactSetRod", fn := fun _ => fun
  | [d1, d2, d3] => { results := [.lit (.bool true)], args := [d1, d2, d3] }
  | _ => none }
def fnExactSetRodRow : OpenClaim := { program := "ytbnfbpbfbdbiaaa", sum := "bfaec654122767b7efbc6dfb9384aa6a0c7f13787089977be41b4001c2c06123", func := "loop.example/g01006/laws.FnExactSetRod", spec := "fnExactSetRod", apart := false }
def FnExactSetRodSaid : Prop := fnExactSetRodRow.holds Try.pinned (OpenSpec.ofChange fnExactSetRodSpec)

/-- ITS FALSE NEIGHBOUR: 'it returns false'. Refute it at one input. -/
def fnExactSetRodWrong : ChangeSpec := { name := "fnExactSetRod", fn := fun _ => fun
  | [d1, d2, d3] => { results := [.lit (.bool false)], args := [d1, d2, d3] }
  | _ => none }
def FnExactSetRodWrongFalsely : Prop := fnExactSetRodRow.holds Try.pinned (OpenSpec.ofChange fnExactSetRodWrong)

/-- 'laws.FnExactCleared': WHATEVER THE INPUT: true; the input reads as it did. -/
def fnExactClearedSpec : ChangeSpec := { name := "fnExactCleared", fn := fun _ => fun
  | [d] => { results := [.lit (.bool true)], args := [d] }
  | _ => none }
def fnExactClearedRow : OpenClaim := { program := "ytbnfbpbfbdbiaaa", sum := "bfaec654122767b7efbc6dfb9384aa6a0c7f13787089977be41b4001c2c06123", func := "loop.example/g01006/laws.FnExactCleared", spec := "fnExactCleared", apart := false }
def FnExactClearedSaid : Prop := fnExactClearedRow.holds Try.pinned (OpenSpec.ofChange fnExactClearedSpec)

/-- ITS FALSE NEIGHBOUR: 'it returns false'. Refute it at one input. -/
def fnExactClearedWrong : ChangeSpec := { name := "fnExactCleared", fn := fun _ => fun
  | [d] => { results := [.lit (.bool false)], args := [d] }
  | _ => none }
def FnExactClearedWrongFalsely : Prop := fnExactClearedRow.holds Try.pinned (OpenSpec.ofChange fnExactClearedWrong)

/-- 'laws.FnExactMadeStandard': WHATEVER THE INPUT: true; the input reads as it did. -/
def fnExactMadeStandardSpec : ChangeSpec := { name := "fnExactMadeStandard", fn := fun _ => fun
  | [d] => { results := [.lit (.bool true)], args := [d] }
  | _ => none }
def fnExactMadeStandardRow : OpenClaim := { program := "ytbnfbpbfbdbiaaa", sum := "bfaec654122767b7efbc6dfb9384aa6a0c7f13787089977be41b4001c2c06123", func := "loop.example/g01006/laws.FnExactMadeStandard", spec := "fnExactMadeStandard", apart := false }
def FnExactMadeStandardSaid : Prop := fnExactMadeStandardRow.holds Try.pinned (OpenSpec.ofChange fnExactMadeStandardSpec)

/-- ITS FALSE NEIGHBOUR: 'it returns false'. Refute it at one input. -/
def fnExactMadeStandardWrong : ChangeSpec := { name := "fnExactMadeStandard", fn := fun _ => fun
  | [d] => { results := [.lit (.bool false)], args := [d] }
  | _ => none }
def FnExactMadeStandardWrongFalsely : Prop := fnExactMadeStandardRow.holds Try.pinned (OpenSpec.ofChange fnExactMadeStandardWrong)

/-- 'laws.FnExactFrameText': WHATEVER THE INPUT: true; the input reads as it did. -/
def fnExactFrameTextSpec : ChangeSpec := { name := "fnExactFrameText", fn := fun _ => fun
  | [d] => { results := [.lit (.bool true)], args := [d] }
  | _ => none }
def fnExactFrameTextRow : OpenClaim := { program := "ytbnfbpbfbdbiaaa", sum := "bfaec654122767b7efbc6dfb9384aa6a0c7f13787089977be41b4001c2c06123", func := "loop.example/g01006/laws.FnExactFrameText", spec := "fnExactFrameText", recurses := true, apart := false }
def FnExactFrameTextSaid : Prop := fnExactFrameTextRow.holds Try.pinned (OpenSpec.ofChange fnExactFrameTextSpec)

/-- ITS FALSE NEIGHBOUR: 'it returns false'. Refute it at one input. -/
def fnExactFrameTextWrong : ChangeSpec := { name := "fnExactFrameText", fn := fun _ => fun
  | [d] => { results := [.lit (.bool false)], args := [d] }
  | _ => none }
def FnExactFrameTextWrongFalsely : Prop := fnExactFrameTextRow.holds Try.pinned (OpenSpec.ofChange fnExactFrameTextWrong)

/-- 'laws.FnExactParseFrame': WHATEVER THE INPUT: true; the input reads as it did. -/
def fnExactParseFrameSpec : ChangeSpec := { name := "fnExactParseFrame", fn := fun _ => fun
  | [d] => { results := [.lit (.bool true)], args := [d] }
  | _ => none }
def fnExactParseFrameRow : OpenClaim := { program := "ytbnfbpbfbdbiaaa", sum := "bfaec654122767b7efbc6dfb9384aa6a0c7f13787089977be41b4001c2c06123", func := "loop.example/g01006/laws.FnExactParseFrame", spec := "fnExactParseFrame", recurses := true, apart := false }
def FnExactParseFrameSaid : Prop := fnExactParseFrameRow.holds Try.pinned (OpenSpec.ofChange fnExactParseFrameSpec)

/-- ITS FALSE NEIGHBOUR: 'it returns false'. Refute it at one input. -/
def fnExactParseFrameWrong : ChangeSpec := { name := "fnExactParseFrame", fn := fun _ => fun
  | [d] => { results := [.lit (.bool false)], args := [d] }
  | _ => none }
def FnExactParseFrameWrongFalsely : Prop := fnExactParseFrameRow.holds Try.pinned (OpenSpec.ofChange fnExactParseFrameWrong)

/- THE SECOND FORM. 'bulk': how many values and letters a reading holds, each counted each time it is reached (what is shared counts as often as it is met; a slice's spare places count too). A statement '..UptoSaid' is the law's where the arguments, and the package variables that the reading takes, are together of bulk at most 1048576: NARROWER than '..Said'. Prove '..Said' where nothing that the law and all that it calls make is longer than what came in: it says more and counts as full. Else prove '..UptoSaid'. A law counts once. -/
mutual
def uptoBulk {H : Type} : DataW H → Nat
  | .lit (.string bytes) => bytes.length + 1
  | .lit _ => 1
  | .nil => 1
  | .ptr d => uptoBulk d + 1
  | .slice elems spare => uptoBulkAll elems + uptoBulkAll spare + 1
  | .agg parts => uptoBulkAll parts + 1
  | .iface _ d => uptoBulk d + 1
  | .map entries => uptoBulkEntries entries + 1
  | .held _ => 1
def uptoBulkAll {H : Type} : List (DataW H) → Nat
  | [] => 0
  | d :: r => uptoBulk d + uptoBulkAll r
def uptoBulkEntries {H : Type} : List (Lit × DataW H) → Nat
  | [] => 0
  | x :: r => uptoBulkEntry x + uptoBulkEntries r
def uptoBulkEntry {H : Type} : Lit × DataW H → Nat
  | (.string bytes, d) => bytes.length + uptoBulk d + 1
  | (_, d) => uptoBulk d + 1
 end
def uptoSmall : (H : Type) → List (DataW H) → Bool := fun _ ds => decide (uptoBulkAll ds ≤ 1048576)
def OpenSpec.upto (s : _root_.Go.ChangeSpec) : _root_.Go.OpenSpec := { _root_.Go.OpenSpec.ofChange s with cond := some uptoSmall }

/-- 'laws.FnNumbers', WHERE WHAT IT READS IS OF BULK AT MOST 1048576: true; the input reads as it did. -/
def fnNumbersUptoRow : OpenClaim := { program := "ytbnfbpbfbdbiaaa", sum := "bfaec654122767b7efbc6dfb9384aa6a0c7f13787089977be41b4001c2c06123", func := "loop.example/g01006/laws.FnNumbers", spec := "fnNumbers", apart := false, narrowed := true }
def FnNumbersUptoSaid : Prop := fnNumbersUptoRow.holds Try.pinned (OpenSpec.upto fnNumbersSpec)

/-- 'laws.FnExactSplitString', WHERE WHAT IT READS IS OF BULK AT MOST 1048576: true; the input reads as it did. -/
def fnExactSplitStringUptoRow : OpenClaim := { program := "ytbnfbpbfbdbiaaa", sum := "bfaec654122767b7efbc6dfb9384aa6a0c7f13787089977be41b4001c2c06123", func := "loop.example/g01006/laws.FnExactSplitString", spec := "fnExactSplitString", unfollowed := true, recurses := true, apart := false, narrowed := true }
def FnExactSplitStringUptoSaid : Prop := fnExactSplitStringUptoRow.holds Try.pinned (OpenSpec.upto fnExactSplitStringSpec)

/-- 'laws.FnExactIsFrame', WHERE WHAT IT READS IS OF BULK AT MOST 1048576: true; the input reads as it did. -/
def fnExactIsFrameUptoRow : OpenClaim := { program := "ytbnfbpbfbdbiaaa", sum := "bfaec654122767b7efbc6dfb9384aa6a0c7f13787089977be41b4001c2c06123", func := "loop.example/g01006/laws.FnExactIsFrame", spec := "fnExactIsFrame", apart := false, narrowed := true }
def FnExactIsFrameUptoSaid : Prop := fnExactIsFrameUptoRow.holds Try.pinned (OpenSpec.upto fnExactIsFrameSpec)

/-- 'laws.FnExactNumberOn', WHERE WHAT IT READS IS OF BULK AT MOST 1048576: true; the input reads as it did. -/
def fnExactNumberOnUptoRow : OpenClaim := { program := "ytbnfbpbfbdbiaaa", sum := "bfaec654122767b7efbc6dfb9384aa6a0c7f13787089977be41b4001c2c06123", func := "loop.example/g01006/laws.FnExactNumberOn", spec := "fnExactNumberOn", apart := false, narrowed := true }
def FnExactNumberOnUptoSaid : Prop := fnExactNumberOnUptoRow.holds Try.pinned (OpenSpec.upto fnExactNumberOnSpec)

/-- 'laws.FnExactRodValue', WHERE WHAT IT READS IS OF BULK AT MOST 1048576: true; the input reads as it did. -/
def fnExactRodValueUptoRow : OpenClaim := { program := "ytbnfbpbfbdbiaaa", sum := "bfaec654122767b7efbc6dfb9384aa6a0c7f13787089977be41b4001c2c06123", func := "loop.example/g01006/laws.FnExactRodValue", spec := "fnExactRodValue", apart := false, narrowed := true }
def FnExactRodValueUptoSaid : Prop := fnExactRodValueUptoRow.holds Try.pinned (OpenSpec.upto fnExactRodValueSpec)

/-- 'laws.FnExactIsStandard', WHERE WHAT IT READS IS OF BULK AT MOST 1048576: true; the input reads as it did. -/
def fnExactIsStandardUptoRow : OpenClaim := { program := "ytbnfbpbfbdbiaaa", sum := "bfaec654122767b7efbc6dfb9384aa6a0c7f13787089977be41b4001c2c06123", func := "loop.example/g01006/laws.FnExactIsStandard", spec := "fnExactIsStandard", apart := false, narrowed := true }
def FnExactIsStandardUptoSaid : Prop := fnExactIsStandardUptoRow.holds Try.pinned (OpenSpec.upto fnExactIsStandardSpec)

/-- 'laws.FnExactFrameFor', WHERE WHAT IT READS IS OF BULK AT MOST 1048576: true; the input reads as it did. -/
def fnExactFrameForUptoRow : OpenClaim := { program := "ytbnfbpbfbdbiaaa", sum := "bfaec654122767b7efbc6dfb9384aa6a0c7f13787089977be41b4001c2c06123", func := "loop.example/g01006/laws.FnExactFrameFor", spec := "fnExactFrameFor", apart := false, narrowed := true }
def FnExactFrameForUptoSaid : Prop := fnExactFrameForUptoRow.holds Try.pinned (OpenSpec.upto fnExactFrameForSpec)

/-- 'laws.FnExactSetRod', WHERE WHAT IT READS IS OF BULK AT MOST 1048576: true; the input reads as it did. -/
def fnExactSetRodUptoRow : OpenClaim := { program := "ytbnfbpbfbdbiaaa", sum := "bfaec654122767b7efbc6dfb9384aa6a0c7f13787089977be41b4001c2c06123", func := "loop.example/g01006/laws.FnExactSetRod", spec := "fnExactSetRod", apart := false, narrowed := true }
def FnExactSetRodUptoSaid : Prop := fnExactSetRodUptoRow.holds Try.pinned (OpenSpec.upto fnExactSetRodSpec)

/-- 'laws.FnExactCleared', WHERE WHAT IT READS IS OF BULK AT MOST 1048576: true; the input reads as it did. -/
def fnExactClearedUptoRow : OpenClaim := { program := "ytbnfbpbfbdbiaaa", sum := "bfaec654122767b7efbc6dfb9384aa6a0c7f13787089977be41b4001c2c06123", func := "loop.example/g01006/laws.FnExactCleared", spec := "fnExactCleared", apart := false, narrowed := true }
def FnExactClearedUptoSaid : Prop := fnExactClearedUptoRow.holds Try.pinned (OpenSpec.upto fnExactClearedSpec)

/-- 'laws.FnExactMadeStandard', WHERE WHAT IT READS IS OF BULK AT MOST 1048576: true; the input reads as it did. -/
def fnExactMadeStandardUptoRow : OpenClaim := { program := "ytbnfbpbfbdbiaaa", sum := "bfaec654122767b7efbc6dfb9384aa6a0c7f13787089977be41b4001c2c06123", func := "loop.example/g01006/laws.FnExactMadeStandard", spec := "fnExactMadeStandard", apart := false, narrowed := true }
def FnExactMadeStandardUptoSaid : Prop := fnExactMadeStandardUptoRow.holds Try.pinned (OpenSpec.upto fnExactMadeStandardSpec)

/-- 'laws.FnExactFrameText', WHERE WHAT IT READS IS OF BULK AT MOST 1048576: true; the input reads as it did. -/
def fnExactFrameTextUptoRow : OpenClaim := { program := "ytbnfbpbfbdbiaaa", sum := "bfaec654122767b7efbc6dfb9384aa6a0c7f13787089977be41b4001c2c06123", func := "loop.example/g01006/laws.FnExactFrameText", spec := "fnExactFrameText", recurses := true, apart := false, narrowed := true }
def FnExactFrameTextUptoSaid : Prop := fnExactFrameTextUptoRow.holds Try.pinned (OpenSpec.upto fnExactFrameTextSpec)

/-- 'laws.FnExactParseFrame', WHERE WHAT IT READS IS OF BULK AT MOST 1048576: true; the input reads as it did. -/
def fnExactParseFrameUptoRow : OpenClaim := { program := "ytbnfbpbfbdbiaaa", sum := "bfaec654122767b7efbc6dfb9384aa6a0c7f13787089977be41b4001c2c06123", func := "loop.example/g01006/laws.FnExactParseFrame", spec := "fnExactParseFrame", recurses := true, apart := false, narrowed := true }
def FnExactParseFrameUptoSaid : Prop := fnExactParseFrameUptoRow.holds Try.pinned (OpenSpec.upto fnExactParseFrameSpec)

end Rows
end Go.Proofs.Ytbnfbpbfbdbiaaa
