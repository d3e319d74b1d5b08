/-
  No cell of these rows narrows 'for every input' (looked for: loops, veiled, ifaces, maps, wideKeys, modest, calm, conditions, laid).
  DERIVED. THE GIVEN ROWS OF THIS SEAT. 12 by the template 'for every input the law returns true; each argument reads behind the call as it read before'; 0 by the template 'total and deterministic' (their statements: YtocaiddpeoimhaaTotals.lean).
  GIVEN WITH THE SEED: the statements are not yours to turn. If you find one false, say at which input.
  Laid BY PROGRAM, IN A SANDBOX (cutbox-rows.mjs): the forced cells as the released guide's own fill.sh prints them over the translation f9ff721a81c6b640… (all of the seat's roots in one cut). By AI agents, Wed Nov 11 2026. No macro, syntax, notation, axiom, sorry.
-/
import Derived.Test.YtocaiddpeoimhaaChecked
import GoSem.Claim
import GoSem.ClaimJoined
import GoSem.ClaimMapViews
import Derived.JoinedTies
import Derived.KernelRfl
namespace Go.Proofs.Ytocaiddpeoimhaa
/- THE CELL 'sum', in the pinned program and in every row, IS THE sha256 OF THE DUMP (.gsa) THAT YtocaiddpeoimhaaProg.lean LOADS. Nothing in Lean hashes anything: it is a label: what it is worth is what the hold of that sum in a sandbox is worth. -/
noncomputable def Try.pinned : Pinned := { name := "ytocaiddpeoimhaa", sum := "f9ff721a81c6b6401044fee728d5389d98b33c7715ddc3662ed9cb197b79069e", checked := Try.checked }
namespace Rows
def none {H : Type} : Left H := { results := [], args := [] }

/-- 'laws.FnDividing': WHATEVER THE INPUT: true; the input reads as it did. -/
def fnDividingSpec : ChangeSpec := { name := "fnDividing", fn := fun _ => fun
  | [d] => { results := [.lit (.bool true)], args := [d] }
  | _ => none }
def fnDividingRow : OpenClaim := { program := "ytocaiddpeoimhaa", sum := "f9ff721a81c6b6401044fee728d5389d98b33c7715ddc3662ed9cb197b79069e", func := "loop.example/g01006/laws.FnDividing", spec := "fnDividing", apart := false }
def FnDividingSaid : Prop := fnDividingRow.holds Try.pinned (OpenSpec.ofChange fnDividingSpec)

/-- ITS FALSE NEIGHBOUR: 'it returns false'. Refute it at one input. -/
def fnDividingWrong : ChangeSpec := { name := "fnDividing", fn := fun _ => fun
  | [d] => { results := [.lit (.bool false)], args := [d] }
  | _ => none }
def FnDividingWrongFalsely : Prop := fnDividingRow.holds Try.pinned (OpenSpec.ofChange fnDividingWrong)

/-- 'laws.FnDecimals': WHATEVER THE INPUT: true; the input reads as it did. -/
def fnDecimalsSpec : ChangeSpec := { name := "fnDecimals", fn := fun _ => fun
  | [d] => { results := [.lit (.bool true)], args := [d] }
  | _ => none }
def fnDecimalsRow : OpenClaim := { program := "ytocaiddpeoimhaa", sum := "f9ff721a81c6b6401044fee728d5389d98b33c7715ddc3662ed9cb197b79069e", func := "loop.example/g01006/laws.FnDecimals", spec := "fnDecimals", apart := false }
def FnDecimalsSaid : Prop := fnDecimalsRow.holds Try.pinned (OpenSpec.ofChange fnDecimalsSpec)

/-- ITS FALSE NEIGHBOUR: 'it returns false'. Refute it at one input. -/
def fnDecimalsWrong : ChangeSpec := { name := "fnDecimals", fn := fun _ => fun
  | [d] => { results := [.lit (.bool false)], args := [d] }
  | _ => none }
def FnDecimalsWrongFalsely : Prop := fnDecimalsRow.holds Try.pinned (OpenSpec.ofChange fnDecimalsWrong)

/-- 'laws.FnTrialNeverLess': WHATEVER THE INPUT: true; the input reads as it did. -/
def fnTrialNeverLessSpec : ChangeSpec := { name := "fnTrialNeverLess", fn := fun _ => fun
  | [d1, d2] => { results := [.lit (.bool true)], args := [d1, d2] }
  | _ => none }
def fnTrialNeverLessRow : OpenClaim := { program := "ytocaiddpeoimhaa", sum := "f9ff721a81c6b6401044fee728d5389d98b33c7715ddc3662ed9cb197b79069e", func := "loop.example/g01006/laws.FnTrialNeverLess", spec := "fnTrialNeverLess", apart := false }
def FnTrialNeverLessSaid : Prop := fnTrialNeverLessRow.holds Try.pinned (OpenSpec.ofChange fnTrialNeverLessSpec)

/-- ITS FALSE NEIGHBOUR: 'it returns false'. Refute it at one input. -/
def fnTrialNeverLessWrong : ChangeSpec := { name := "fnTrialNeverLess", fn := fun _ => fun
  | [d1, d2] => { results := [.lit (.bool false)], args := [d1, d2] }
  | _ => none }
def FnTrialNeverLessWrongFalsely : Prop := fnTrialNeverLessRow.holds Try.pinned (OpenSpec.ofChange fnTrialNeverLessWrong)

/-- 'laws.FnExactDivisionSteps': WHATEVER THE INPUT: true; the input reads as it did. -/
def fnExactDivisionStepsSpec : ChangeSpec := { name := "fnExactDivisionSteps", fn := fun _ => fun
  | [d1, d2] => { results := [.lit (.bool true)], args := [d1, d2] }
  | _ => none }
def fnExactDivisionStepsRow : OpenClaim := { program := "ytocaiddpeoimhaa", sum := "f9ff721a81c6b6401044fee728d5389d98b33c7715ddc3662ed9cb197b79069e", func := "loop.example/g01006/laws.FnExactDivisionSteps", spec := "fnExactDivisionSteps", apart := false }
def FnExactDivisionStepsSaid : Prop := fnExactDivisionStepsRow.holds Try.pinned (OpenSpec.ofChange fnExactDivisionStepsSpec)

/-- ITS FALSE NEIGHBOUR: 'it returns false'. Refute it at one input. -/
def fnExactDivisionStepsWrong : ChangeSpec := { name := "fnExactDivisionSteps", fn := fun _ => fun
  | [d1, d2] => { results := [.lit (.bool false)], args := [d1, d2] }
  | _ => none }
def FnExactDivisionStepsWrongFalsely : Prop := fnExactDivisionStepsRow.holds Try.pinned (OpenSpec.ofChange fnExactDivisionStepsWrong)

/-- 'laws.FnExactQuotientOf': WHATEVER THE INPUT: true; the input reads as it did. -/
def fnExactQuotientOfSpec : ChangeSpec := { name := "fnExactQuotientOf", fn := fun _ => fun
  | [d1, d2] => { results := [.lit (.bool true)], args := [d1, d2] }
  | _ => none }
def fnExactQuotientOfRow : OpenClaim := { program := "ytocaiddpeoimhaa", sum := "f9ff721a81c6b6401044fee728d5389d98b33c7715ddc3662ed9cb197b79069e", func := "loop.example/g01006/laws.FnExactQuotientOf", spec := "fnExactQuotientOf", apart := false }
def FnExactQuotientOfSaid : Prop := fnExactQuotientOfRow.holds Try.pinned (OpenSpec.ofChange fnExactQuotientOfSpec)

/-- ITS FALSE NEIGHBOUR: 'it returns false'. Refute it at one input. -/
def fnExactQuotientOfWrong : ChangeSpec := { name := "fnExactQuotientOf", fn := fun _ => fun
  | [d1, d2] => { results := [.lit (.bool false)], args := [d1, d2] }
  | _ => none }
def FnExactQuotientOfWrongFalsely : Prop := fnExactQuotientOfRow.holds Try.pinned (OpenSpec.ofChange fnExactQuotientOfWrong)

/-- 'laws.FnExactTrialDigits': WHATEVER THE INPUT: true; the input reads as it did. -/
def fnExactTrialDigitsSpec : ChangeSpec := { name := "fnExactTrialDigits", fn := fun _ => fun
  | [d1, d2] => { results := [.lit (.bool true)], args := [d1, d2] }
  | _ => none }
def fnExactTrialDigitsRow : OpenClaim := { program := "ytocaiddpeoimhaa", sum := "f9ff721a81c6b6401044fee728d5389d98b33c7715ddc3662ed9cb197b79069e", func := "loop.example/g01006/laws.FnExactTrialDigits", spec := "fnExactTrialDigits", apart := false }
def FnExactTrialDigitsSaid : Prop := fnExactTrialDigitsRow.holds Try.pinned (OpenSpec.ofChange fnExactTrialDigitsSpec)

/-- ITS FALSE NEIGHBOUR: 'it returns false'. Refute it at one input. -/
def fnExactTrialDigitsWrong : ChangeSpec := { name := "fnExactTrialDigits", fn := fun _ => fun
  | [d1, d2] => { results := [.lit (.bool false)], args := [d1, d2] }
  | _ => none }
def FnExactTrialDigitsWrongFalsely : Prop := fnExactTrialDigitsRow.holds Try.pinned (OpenSpec.ofChange fnExactTrialDigitsWrong)

/-- 'laws.FnExactCorrections': WHATEVER THE INPUT: true; the input reads as it did. -/
def fnExactCorrectionsSpec : ChangeSpec := { name := "fnExactCorrections", fn := fun _ => fun
  | [d1, d2] => { results := [.lit (.bool true)], args := [d1, d2] }
  | _ => none }
def fnExactCorrectionsRow : OpenClaim := { program := "ytocaiddpeoimhaa", sum := "f9ff721a81c6b6401044fee728d5389d98b33c7715ddc3662ed9cb197b79069e", func := "loop.example/g01006/laws.FnExactCorrections", spec := "fnExactCorrections", apart := false }
def FnExactCorrectionsSaid : Prop := fnExactCorrectionsRow.holds Try.pinned (OpenSpec.ofChange fnExactCorrectionsSpec)

/-- ITS FALSE NEIGHBOUR: 'it returns false'. Refute it at one input. -/
def fnExactCorrectionsWrong : ChangeSpec := { name := "fnExactCorrections", fn := fun _ => fun
  | [d1, d2] => { results := [.lit (.bool false)], args := [d1, d2] }
  | _ => none }
def FnExactCorrectionsWrongFalsely : Prop := fnExactCorrectionsRow.holds Try.pinned (OpenSpec.ofChange fnExactCorrectionsWrong)

/-- 'laws.FnExactDecimalsOf': WHATEVER THE INPUT: true; the input reads as it did. -/
def fnExactDecimalsOfSpec : ChangeSpec := { name := "fnExactDecimalsOf", fn := fun _ => fun
  | [d1, d2, d3] => { results := [.lit (.bool true)], args := [d1, d2, d3] }
  | _ => none }
def fnExactDecimalsOfRow : OpenClaim := { program := "ytocaiddpeoimhaa", sum := "f9ff721a81c6b6401044fee728d5389d98b33c7715ddc3662ed9cb197b79069e", func := "loop.example/g01006/laws.FnExactDecimalsOf", spec := "fnExactDecimalsOf", apart := false }
def FnExactDecimalsOfSaid : Prop := fnExactDecimalsOfRow.holds Try.pinned (OpenSpec.ofChange fnExactDecimalsOfSpec)

/-- ITS FALSE NEIGHBOUR: 'it returns false'. Refute it at one input. -/
def fnExactDecimalsOfWrong : ChangeSpec := { name := "fnExactDecimalsOf", fn := fun _ => fun
  | [d1, d2, d3] => { results := [.lit (.bool false)], args := [d1, d2, d3] }
  | _ => none }
def FnExactDecimalsOfWrongFalsely : Prop := fnExactDecimalsOfRow.holds Try.pinned (OpenSpec.ofChange fnExactDecimalsOfWrong)

/-- 'laws.FnExactPeriodOf': WHATEVER THE INPUT: true; the input reads as it did. -/
def fnExactPeriodOfSpec : ChangeSpec := { name := "fnExactPeriodOf", fn := fun _ => fun
  | [d1, d2] => { results := [.lit (.bool true)], args := [d1, d2] }
  | _ => none }
def fnExactPeriodOfRow : OpenClaim := { program := "ytocaiddpeoimhaa", sum := "f9ff721a81c6b6401044fee728d5389d98b33c7715ddc3662ed9cb197b79069e", func := "loop.example/g01006/laws.FnExactPeriodOf", spec := "fnExactPeriodOf", apart := false }
def FnExactPeriodOfSaid : Prop := fnExactPeriodOfRow.holds Try.pinned (OpenSpec.ofChange fnExactPeriodOfSpec)

/-- ITS FALSE NEIGHBOUR: 'it returns false'. Refute it at one input. -/
def fnExactPeriodOfWrong : ChangeSpec := { name := "fnExactPeriodOf", fn := fun _ => fun
  | [d1, d2] => { results := [.lit (.bool false)], args := [d1, d2] }
  | _ => none }
def FnExactPeriodOfWrongFalsely : Prop := fnExactPeriodOfRow.holds Try.pinned (OpenSpec.ofChange fnExactPeriodOfWrong)

/-- 'laws.FnExactQuotientOn': WHATEVER THE INPUT: true; the input reads as it did. -/
def fnExactQuotientOnSpec : ChangeSpec := { name := "fnExactQuotientOn", fn := fun _ => fun
  | [d1, d2] => { results := [.lit (.bool true)], args := [d1, d2] }
  | _ => none }
def fnExactQuotientOnRow : OpenClaim := { program := "ytocaiddpeoimhaa", sum := "f9ff721a81c6b6401044fee728d5389d98b33c7715ddc3662ed9cb197b79069e", func := "loop.example/g01006/laws.FnExactQuotientOn", spec := "fnExactQuotientOn", apart := false }
def FnExactQuotientOnSaid : Prop := fnExactQuotientOnRow.holds Try.pinned (OpenSpec.ofChange fnExactQuotientOnSpec)

/-- ITS FALSE NEIGHBOUR: 'it returns false'. Refute it at one input. -/
def fnExactQuotientOnWrong : ChangeSpec := { name := "fnExactQuotientOn", fn := fun _ => fun
  | [d1, d2] => { results := [.lit (.bool false)], args := [d1, d2] }
  | _ => none }
def FnExactQuotientOnWrongFalsely : Prop := fnExactQuotientOnRow.holds Try.pinned (OpenSpec.ofChange fnExactQuotientOnWrong)

/-- 'laws.FnExactCheckDivision': WHATEVER THE INPUT: true; the input reads as it did. -/
def fnExactCheckDivisionSpec : ChangeSpec := { name := "fnExactCheckDivision", fn := fun _ => fun
  | [d1, d2, d3, d4] => { results := [.lit (.bool true)], args := [d1, d2, d3, d4] }
  | _ => none }
def fnExactCheckDivisionRow : OpenClaim := { program := "ytocaiddpeoimhaa", sum := "f9ff721a81c6b6401044fee728d5389d98b33c7715ddc3662ed9cb197b79069e", func := "loop.example/g01006/laws.FnExactCheckDivision", spec := "fnExactCheckDivision", apart := false }
def FnExactCheckDivisionSaid : Prop := fnExactCheckDivisionRow.holds Try.pinned (OpenSpec.ofChange fnExactCheckDivisionSpec)

/-- ITS FALSE NEIGHBOUR: 'it returns false'. Refute it at one input. -/
def fnExactCheckDivisionWrong : ChangeSpec := { name := "fnExactCheckDivision", fn := fun _ => fun
  | [d1, d2, d3, d4] => { results := [.lit (.bool false)], args := [d1, d2, d3, d4] }
  | _ => none }
def FnExactCheckDivisionWrongFalsely : Prop := fnExactCheckDivisionRow.holds Try.pinned (OpenSpec.ofChange fnExactCheckDivisionWrong)

/-- 'laws.FnExactDivisorsOf': WHATEVER THE INPUT: true; the input reads as it did. -/
def fnExactDivisorsOfSpec : ChangeSpec := { name := "fnExactDivisorsOf", fn := fun _ => fun
  | [d] => { results := [.lit (.bool true)], args := [d] }
  | _ => none }
def fnExactDivisorsOfRow : OpenClaim := { program := "ytocaiddpeoimhaa", sum := "f9ff721a81c6b6401044fee728d5389d98b33c7715ddc3662ed9cb197b79069e", func := "loop.example/g01006/laws.FnExactDivisorsOf", spec := "fnExactDivisorsOf", apart := false }
def FnExactDivisorsOfSaid : Prop := fnExactDivisorsOfRow.holds Try.pinned (OpenSpec.ofChange fnExactDivisorsOfSpec)

/-- ITS FALSE NEIGHBOUR: 'it returns false'. Refute it at one input. -/
def fnExactDivisorsOfWrong : ChangeSpec := { name := "fnExactDivisorsOf", fn := fun _ => fun
  | [d] => { results := [.lit (.bool false)], args := [d] }
  | _ => none }
def FnExactDivisorsOfWrongFalsely : Prop := fnExactDivisorsOfRow.holds Try.pinned (OpenSpec.ofChange fnExactDivisorsOfWrong)

/- THE SECOND FORM. 'bulk': how many values and letters a reading holds, each counted each time it is reached (what is shared counts as often as it is met; a slice's spare places count too). A statement '..UptoSaid' is the law's where the arguments, and the package variables that the reading takes, are together of bulk at most 1048576: NARROWER than '..Said'. Prove '..Said' where nothing that the law and all that it calls make is longer than what came in: it says more and counts as full. Else prove '..UptoSaid'. A law counts once. -/
mutual
def uptoBulk {H : Type} : DataW H → Nat
  | .lit (.string bytes) => bytes.length + 1
  | .lit _ => 1
  | .nil => 1
  | .ptr d => uptoBulk d + 1
  | .slice elems spare => uptoBulkAll elems + uptoBulkAll spare + 1
  | .agg parts => uptoBulkAll parts + 1
  | .iface _ d => uptoBulk d + 1
  | .map entries => uptoBulkEntries entries + 1
  | .held _ => 1
def uptoBulkAll {H : Type} : List (DataW H) → Nat
  | [] => 0
  | d :: r => uptoBulk d + uptoBulkAll r
def uptoBulkEntries {H : Type} : List (Lit × DataW H) → Nat
  | [] => 0
  | x :: r => uptoBulkEntry x + uptoBulkEntries r
def uptoBulkEntry {H : Type} : Lit × DataW H → Nat
  | (.string bytes, d) => bytes.length + uptoBulk d + 1
  | (_, d) => uptoBulk d + 1
 end
def uptoSmall : (H : Type) → List (DataW H) → Bool := fun _ ds => decide (uptoBulkAll ds ≤ 1048576)
def OpenSpec.upto (s : _root_.Go.ChangeSpec) : _root_.Go.OpenSpec := { _root_.Go.OpenSpec.ofChange s with cond := some uptoSmall }

/-- 'laws.FnDividing', WHERE WHAT IT READS IS OF BULK AT MOST 1048576: true; the input reads as it did. -/
def fnDividingUptoRow : OpenClaim := { program := "ytocaiddpeoimhaa", sum := "f9ff721a81c6b6401044fee728d5389d98b33c7715ddc3662ed9cb197b79069e", func := "loop.example/g01006/laws.FnDividing", spec := "fnDividing", apart := false, narrowed := true }
def FnDividingUptoSaid : Prop := fnDividingUptoRow.holds Try.pinned (OpenSpec.upto fnDividingSpec)

/-- 'laws.FnDecimals', WHERE WHAT IT READS IS OF BULK AT MOST 1048576: true; the input reads as it did. -/
def fnDecimalsUptoRow : OpenClaim := { program := "ytocaiddpeoimhaa", sum := "f9ff721a81c6b6401044fee728d5389d98b33c7715ddc3662ed9cb197b79069e", func := "loop.example/g01006/laws.FnDecimals", spec := "fnDecimals", apart := false, narrowed := true }
def FnDecimalsUptoSaid : Prop := fnDecimalsUptoRow.holds Try.pinned (OpenSpec.upto fnDecimalsSpec)

/-- 'laws.FnTrialNeverLess', WHERE WHAT IT READS IS OF BULK AT MOST 1048576: true; the input reads as it did. -/
def fnTrialNeverLessUptoRow : OpenClaim := { program := "ytocaiddpeoimhaa", sum := "f9ff721a81c6b6401044fee728d5389d98b33c7715ddc3662ed9cb197b79069e", func := "loop.example/g01006/laws.FnTrialNeverLess", spec := "fnTrialNeverLess", apart := false, narrowed := true }
def FnTrialNeverLessUptoSaid : Prop := fnTrialNeverLessUptoRow.holds Try.pinned (OpenSpec.upto fnTrialNeverLessSpec)

/-- 'laws.FnExactDivisionSteps', WHERE WHAT IT READS IS OF BULK AT MOST 1048576: true; the input reads as it did. -/
def fnExactDivisionStepsUptoRow : OpenClaim := { program := "ytocaiddpeoimhaa", sum := "f9ff721a81c6b6401044fee728d5389d98b33c7715ddc3662ed9cb197b79069e", func := "loop.example/g01006/laws.FnExactDivisionSteps", spec := "fnExactDivisionSteps", apart := false, narrowed := true }
def FnExactDivisionStepsUptoSaid : Prop := fnExactDivisionStepsUptoRow.holds Try.pinned (OpenSpec.upto fnExactDivisionStepsSpec)

/-- 'laws.FnExactQuotientOf', WHERE WHAT IT READS IS OF BULK AT MOST 1048576: true; the input reads as it did. -/
def fnExactQuotientOfUptoRow : OpenClaim := { program := "ytocaiddpeoimhaa", sum := "f9ff721a81c6b6401044fee728d5389d98b33c7715ddc3662ed9cb197b79069e", func := "loop.example/g01006/laws.FnExactQuotientOf", spec := "fnExactQuotientOf", apart := false, narrowed := true }
def FnExactQuotientOfUptoSaid : Prop := fnExactQuotientOfUptoRow.holds Try.pinned (OpenSpec.upto fnExactQuotientOfSpec)

/-- 'laws.FnExactTrialDigits', WHERE WHAT IT READS IS OF BULK AT MOST 1048576: true; the input reads as it did. -/
def fnExactTrialDigitsUptoRow : OpenClaim := { program := "ytocaiddpeoimhaa", sum := "f9ff721a81c6b6401044fee728d5389d98b33c7715ddc3662ed9cb197b79069e", func := "loop.example/g01006/laws.FnExactTrialDigits", spec := "fnExactTrialDigits", apart := false, narrowed := true }
def FnExactTrialDigitsUptoSaid : Prop := fnExactTrialDigitsUptoRow.holds Try.pinned (OpenSpec.upto fnExactTrialDigitsSpec)

/-- 'laws.FnExactCorrections', WHERE WHAT IT READS IS OF BULK AT MOST 1048576: true; the input reads as it did. -/
def fnExactCorrectionsUptoRow : OpenClaim := { program := "ytocaiddpeoimhaa", sum := "f9ff721a81c6b6401044fee728d5389d98b33c7715ddc3662ed9cb197b79069e", func := "loop.example/g01006/laws.FnExactCorrections", spec := "fnExactCorrections", apart := false, narrowed := true }
def FnExactCorrectionsUptoSaid : Prop := fnExactCorrectionsUptoRow.holds Try.pinned (OpenSpec.upto fnExactCorrectionsSpec)

/-- 'laws.FnExactDecimalsOf', WHERE WHAT IT READS IS OF BULK AT MOST 1048576: true; the input reads as it did. -/
def fnExactDecimalsOfUptoRow : OpenClaim := { program := "ytocaiddpeoimhaa", sum := "f9ff721a81c6b6401044fee728d5389d98b33c7715ddc3662ed9cb197b79069e", func := "loop.example/g01006/laws.FnExactDecimalsOf", spec := "fnExactDecimalsOf", apart := false, narrowed := true }
def FnExactDecimalsOfUptoSaid : Prop := fnExactDecimalsOfUptoRow.holds Try.pinned (OpenSpec.upto fnExactDecimalsOfSpec)

/-- 'laws.FnExactPeriodOf', WHERE WHAT IT READS IS OF BULK AT MOST 1048576: true; the input reads as it did. -/
def fnExactPeriodOfUptoRow : OpenClaim := { program := "ytocaiddpeoimhaa", sum := "f9ff721a81c6b6401044fee728d5389d98b33c7715ddc3662ed9cb197b79069e", func := "loop.example/g01006/laws.FnExactPeriodOf", spec := "fnExactPeriodOf", apart := false, narrowed := true }
def FnExactPeriodOfUptoSaid : Prop := fnExactPeriodOfUptoRow.holds Try.pinned (OpenSpec.upto fnExactPeriodOfSpec)

/-- 'laws.FnExactQuotientOn', WHERE WHAT IT READS IS OF BULK AT MOST 1048576: true; the input reads as it did. -/
def fnExactQuotientOnUptoRow : OpenClaim := { program := "ytocaiddpeoimhaa", sum := "f9ff721a81c6b6401044fee728d5389d98b33c7715ddc3662ed9cb197b79069e", func := "loop.example/g01006/laws.FnExactQuotientOn", spec := "fnExactQuotientOn", apart := false, narrowed := true }
def FnExactQuotientOnUptoSaid : Prop := fnExactQuotientOnUptoRow.holds Try.pinned (OpenSpec.upto fnExactQuotientOnSpec)

/-- 'laws.FnExactCheckDivision', WHERE WHAT IT READS IS OF BULK AT MOST 1048576: true; the input reads as it did. -/
def fnExactCheckDivisionUptoRow : OpenClaim := { program := "ytocaiddpeoimhaa", sum := "f9ff721a81c6b6401044fee728d5389d98b33c7715ddc3662ed9cb197b79069e", func := "loop.example/g01006/laws.FnExactCheckDivision", spec := "fnExactCheckDivision", apart := false, narrowed := true }
def FnExactCheckDivisionUptoSaid : Prop := fnExactCheckDivisionUptoRow.holds Try.pinned (OpenSpec.upto fnExactCheckDivisionSpec)

/-- 'laws.FnExactDivisorsOf', WHERE WHAT IT READS IS OF BULK AT MOST 1048576: true; the input reads as it did. -/
def fnExactDivisorsOfUptoRow : OpenClaim := { program := "ytocaiddpeoimhaa", sum := "f9ff721a81c6b6401044fee728d5389d98b33c7715ddc3662ed9cb197b79069e", func := "loop.example/g01006/laws.FnExactDivisorsOf", spec := "fnExactDivisorsOf", apart := false, narrowed := true }
def FnExactDivisorsOfUptoSaid : Prop := fnExactDivisorsOfUptoRow.holds Try.pinned (OpenSpec.upto fnExactDivisorsOfSpec)

end Rows
end Go.Proofs.Ytocaiddpeoimhaa
