/-
  No cell of these rows narrows 'for every input' (looked for: loops, veiled, ifaces, maps, wideKeys, modest, calm, conditions, laid).
  DERIVED. THE GIVEN ROWS OF THIS SEAT. 11 by the template 'for every input the law returns true; each argument reads behind the call as it read before'; 0 by the template 'total and deterministic' (their statements: YthmbehknacjodaaTotals.lean).
  GIVEN WITH THE SEED: the statements are not yours to turn. If you find one false, say at which input.
  Laid BY PROGRAM, IN A SANDBOX (cutbox-rows.mjs): the forced cells as the released guide's own fill.sh prints them over the translation 24edf2d5e2fa2da2… (all of the seat's roots in one cut). By AI agents, Wed Nov 11 2026. No macro, syntax, notation, axiom, sorry.
-/
import Derived.Test.YthmbehknacjodaaChecked
import GoSem.Claim
import GoSem.ClaimJoined
import GoSem.ClaimMapViews
import Derived.JoinedTies
import Derived.KernelRfl
namespace Go.Proofs.Ythmbehknacjodaa
/- THE CELL 'sum', in the pinned program and in every row, IS THE sha256 OF THE DUMP (.gsa) THAT YthmbehknacjodaaProg.lean LOADS. Nothing in Lean hashes anything: it is a label: what it is worth is what the hold of that sum in a sandbox is worth. -/
noncomputable def Try.pinned : Pinned := { name := "ythmbehknacjodaa", sum := "24edf2d5e2fa2da280838fe94b2a37fc68262973e9c342b426bc021fbde170fc", checked := Try.checked }
namespace Rows
def none {H : Type} : Left H := { results := [], args := [] }

/-- 'laws.FnTimes': WHATEVER THE INPUT: true; the input reads as it did. -/
def fnTimesSpec : ChangeSpec := { name := "fnTimes", fn := fun _ => fun
  | [d] => { results := [.lit (.bool true)], args := [d] }
  | _ => none }
def fnTimesRow : OpenClaim := { program := "ythmbehknacjodaa", sum := "24edf2d5e2fa2da280838fe94b2a37fc68262973e9c342b426bc021fbde170fc", func := "loop.example/g01006/laws.FnTimes", spec := "fnTimes", unfollowed := true, recurses := true, apart := false }
def FnTimesSaid : Prop := fnTimesRow.holds Try.pinned (OpenSpec.ofChange fnTimesSpec)

/-- ITS FALSE NEIGHBOUR: 'it returns false'. Refute it at one input. -/
def fnTimesWrong : ChangeSpec := { name := "fnTimes", fn := fun _ => fun
  | [d] => { results := [.lit (.bool false)], args := [d] }
  | _ => none }
def FnTimesWrongFalsely : Prop := fnTimesRow.holds Try.pinned (OpenSpec.ofChange fnTimesWrong)

/-- 'laws.FnChecks': WHATEVER THE INPUT: true; the input reads as it did. -/
def fnChecksSpec : ChangeSpec := { name := "fnChecks", fn := fun _ => fun
  | [d] => { results := [.lit (.bool true)], args := [d] }
  | _ => none }
def fnChecksRow : OpenClaim := { program := "ythmbehknacjodaa", sum := "24edf2d5e2fa2da280838fe94b2a37fc68262973e9c342b426bc021fbde170fc", func := "loop.example/g01006/laws.FnChecks", spec := "fnChecks", unfollowed := true, recurses := true, apart := false }
def FnChecksSaid : Prop := fnChecksRow.holds Try.pinned (OpenSpec.ofChange fnChecksSpec)

/-- ITS FALSE NEIGHBOUR: 'it returns false'. Refute it at one input. -/
def fnChecksWrong : ChangeSpec := { name := "fnChecks", fn := fun _ => fun
  | [d] => { results := [.lit (.bool false)], args := [d] }
  | _ => none }
def FnChecksWrongFalsely : Prop := fnChecksRow.holds Try.pinned (OpenSpec.ofChange fnChecksWrong)

/-- 'laws.FnDividing': WHATEVER THE INPUT: true; the input reads as it did. -/
def fnDividingSpec : ChangeSpec := { name := "fnDividing", fn := fun _ => fun
  | [d] => { results := [.lit (.bool true)], args := [d] }
  | _ => none }
def fnDividingRow : OpenClaim := { program := "ythmbehknacjodaa", sum := "24edf2d5e2fa2da280838fe94b2a37fc68262973e9c342b426bc021fbde170fc", func := "loop.example/g01006/laws.FnDividing", spec := "fnDividing", apart := false }
def FnDividingSaid : Prop := fnDividingRow.holds Try.pinned (OpenSpec.ofChange fnDividingSpec)

/-- ITS FALSE NEIGHBOUR: 'it returns false'. Refute it at one input. -/
def fnDividingWrong : ChangeSpec := { name := "fnDividing", fn := fun _ => fun
  | [d] => { results := [.lit (.bool false)], args := [d] }
  | _ => none }
def FnDividingWrongFalsely : Prop := fnDividingRow.holds Try.pinned (OpenSpec.ofChange fnDividingWrong)

/-- 'laws.FnTrialNeverLess': WHATEVER THE INPUT: true; the input reads as it did. -/
def fnTrialNeverLessSpec : ChangeSpec := { name := "fnTrialNeverLess", fn := fun _ => fun
  | [d1, d2] => { results := [.lit (.bool true)], args := [d1, d2] }
  | _ => none }
def fnTrialNeverLessRow : OpenClaim := { program := "ythmbehknacjodaa", sum := "24edf2d5e2fa2da280838fe94b2a37fc68262973e9c342b426bc021fbde170fc", func := "loop.example/g01006/laws.FnTrialNeverLess", spec := "fnTrialNeverLess", apart := false }
def FnTrialNeverLessSaid : Prop := fnTrialNeverLessRow.holds Try.pinned (OpenSpec.ofChange fnTrialNeverLessSpec)

/-- ITS FALSE NEIGHBOUR: 'it returns false'. Refute it at one input. -/
def fnTrialNeverLessWrong : ChangeSpec := { name := "fnTrialNeverLess", fn := fun _ => fun
  | [d1, d2] => { results := [.lit (.bool false)], args := [d1, d2] }
  | _ => none }
def FnTrialNeverLessWrongFalsely : Prop := fnTrialNeverLessRow.holds Try.pinned (OpenSpec.ofChange fnTrialNeverLessWrong)

/-- 'laws.FnExactDivisionSteps': WHATEVER THE INPUT: true; the input reads as it did. -/
def fnExactDivisionStepsSpec : ChangeSpec := { name := "fnExactDivisionSteps", fn := fun _ => fun
  | [d1, d2] => { results := [.lit (.bool true)], args := [d1, d2] }
  | _ => none }
def fnExactDivisionStepsRow : OpenClaim := { program := "ythmbehknacjodaa", sum := "24edf2d5e2fa2da280838fe94b2a37fc68262973e9c342b426bc021fbde170fc", func := "loop.example/g01006/laws.FnExactDivisionSteps", spec := "fnExactDivisionSteps", apart := false }
def FnExactDivisionStepsSaid : Prop := fnExactDivisionStepsRow.holds Try.pinned (OpenSpec.ofChange fnExactDivisionStepsSpec)

/-- ITS FALSE NEIGHBOUR: 'it returns false'. Refute it at one input. -/
def fnExactDivisionStepsWrong : ChangeSpec := { name := "fnExactDivisionSteps", fn := fun _ => fun
  | [d1, d2] => { results := [.lit (.bool false)], args := [d1, d2] }
  | _ => none }
def FnExactDivisionStepsWrongFalsely : Prop := fnExactDivisionStepsRow.holds Try.pinned (OpenSpec.ofChange fnExactDivisionStepsWrong)

/-- 'laws.FnExactTrialDigits': WHATEVER THE INPUT: true; the input reads as it did. -/
def fnExactTrialDigitsSpec : ChangeSpec := { name := "fnExactTrialDigits", fn := fun _ => fun
  | [d1, d2] => { results := [.lit (.bool true)], args := [d1, d2] }
  | _ => none }
def fnExactTrialDigitsRow : OpenClaim := { program := "ythmbehknacjodaa", sum := "24edf2d5e2fa2da280838fe94b2a37fc68262973e9c342b426bc021fbde170fc", func := "loop.example/g01006/laws.FnExactTrialDigits", spec := "fnExactTrialDigits", apart := false }
def FnExactTrialDigitsSaid : Prop := fnExactTrialDigitsRow.holds Try.pinned (OpenSpec.ofChange fnExactTrialDigitsSpec)

/-- ITS FALSE NEIGHBOUR: 'it returns false'. Refute it at one input. -/
def fnExactTrialDigitsWrong : ChangeSpec := { name := "fnExactTrialDigits", fn := fun _ => fun
  | [d1, d2] => { results := [.lit (.bool false)], args := [d1, d2] }
  | _ => none }
def FnExactTrialDigitsWrongFalsely : Prop := fnExactTrialDigitsRow.holds Try.pinned (OpenSpec.ofChange fnExactTrialDigitsWrong)

/-- 'laws.FnExactCorrections': WHATEVER THE INPUT: true; the input reads as it did. -/
def fnExactCorrectionsSpec : ChangeSpec := { name := "fnExactCorrections", fn := fun _ => fun
  | [d1, d2] => { results := [.lit (.bool true)], args := [d1, d2] }
  | _ => none }
def fnExactCorrectionsRow : OpenClaim := { program := "ythmbehknacjodaa", sum := "24edf2d5e2fa2da280838fe94b2a37fc68262973e9c342b426bc021fbde170fc", func := "loop.example/g01006/laws.FnExactCorrections", spec := "fnExactCorrections", apart := false }
def FnExactCorrectionsSaid : Prop := fnExactCorrectionsRow.holds Try.pinned (OpenSpec.ofChange fnExactCorrectionsSpec)

/-- ITS FALSE NEIGHBOUR: 'it returns false'. Refute it at one input. -/
def fnExactCorrectionsWrong : ChangeSpec := { name := "fnExactCorrections", fn := fun _ => fun
  | [d1, d2] => { results := [.lit (.bool false)], args := [d1, d2] }
  | _ => none }
def FnExactCorrectionsWrongFalsely : Prop := fnExactCorrectionsRow.holds Try.pinned (OpenSpec.ofChange fnExactCorrectionsWrong)

/-- 'laws.FnExactPartsOf': WHATEVER THE INPUT: true; the input reads as it did. -/
def fnExactPartsOfSpec : ChangeSpec := { name := "fnExactPartsOf", fn := fun _ => fun
  | [d1, d2] => { results := [.lit (.bool true)], args := [d1, d2] }
  | _ => none }
def fnExactPartsOfRow : OpenClaim := { program := "ythmbehknacjodaa", sum := "24edf2d5e2fa2da280838fe94b2a37fc68262973e9c342b426bc021fbde170fc", func := "loop.example/g01006/laws.FnExactPartsOf", spec := "fnExactPartsOf", unfollowed := true, recurses := true, apart := false }
def FnExactPartsOfSaid : Prop := fnExactPartsOfRow.holds Try.pinned (OpenSpec.ofChange fnExactPartsOfSpec)

/-- ITS FALSE NEIGHBOUR: 'it returns false'. Refute it at one input. -/
def fnExactPartsOfWrong : ChangeSpec := { name := "fnExactPartsOf", fn := fun _ => fun
  | [d1, d2] => { results := [.lit (.bool false)], args := [d1, d2] }
  | _ => none }
def FnExactPartsOfWrongFalsely : Prop := fnExactPartsOfRow.holds Try.pinned (OpenSpec.ofChange fnExactPartsOfWrong)

/-- 'laws.FnExactTotals': WHATEVER THE INPUT: true; the input reads as it did. -/
def fnExactTotalsSpec : ChangeSpec := { name := "fnExactTotals", fn := fun _ => fun
  | [d1, d2] => { results := [.lit (.bool true)], args := [d1, d2] }
  | _ => none }
def fnExactTotalsRow : OpenClaim := { program := "ythmbehknacjodaa", sum := "24edf2d5e2fa2da280838fe94b2a37fc68262973e9c342b426bc021fbde170fc", func := "loop.example/g01006/laws.FnExactTotals", spec := "fnExactTotals", unfollowed := true, recurses := true, apart := false }
def FnExactTotalsSaid : Prop := fnExactTotalsRow.holds Try.pinned (OpenSpec.ofChange fnExactTotalsSpec)

/-- ITS FALSE NEIGHBOUR: 'it returns false'. Refute it at one input. -/
def fnExactTotalsWrong : ChangeSpec := { name := "fnExactTotals", fn := fun _ => fun
  | [d1, d2] => { results := [.lit (.bool false)], args := [d1, d2] }
  | _ => none }
def FnExactTotalsWrongFalsely : Prop := fnExactTotalsRow.holds Try.pinned (OpenSpec.ofChange fnExactTotalsWrong)

/-- 'laws.FnExactTimesCarries': WHATEVER THE INPUT: true; the input reads as it did. -/
def fnExactTimesCarriesSpec : ChangeSpec := { name := "fnExactTimesCarries", fn := fun _ => fun
  | [d1, d2] => { results := [.lit (.bool true)], args := [d1, d2] }
  | _ => none }
def fnExactTimesCarriesRow : OpenClaim := { program := "ythmbehknacjodaa", sum := "24edf2d5e2fa2da280838fe94b2a37fc68262973e9c342b426bc021fbde170fc", func := "loop.example/g01006/laws.FnExactTimesCarries", spec := "fnExactTimesCarries", unfollowed := true, recurses := true, apart := false }
def FnExactTimesCarriesSaid : Prop := fnExactTimesCarriesRow.holds Try.pinned (OpenSpec.ofChange fnExactTimesCarriesSpec)

/-- ITS FALSE NEIGHBOUR: 'it returns false'. Refute it at one input. -/
def fnExactTimesCarriesWrong : ChangeSpec := { name := "fnExactTimesCarries", fn := fun _ => fun
  | [d1, d2] => { results := [.lit (.bool false)], args := [d1, d2] }
  | _ => none }
def FnExactTimesCarriesWrongFalsely : Prop := fnExactTimesCarriesRow.holds Try.pinned (OpenSpec.ofChange fnExactTimesCarriesWrong)

/-- 'laws.FnExactDigitProducts': WHATEVER THE INPUT: true; the input reads as it did. -/
def fnExactDigitProductsSpec : ChangeSpec := { name := "fnExactDigitProducts", fn := fun _ => fun
  | [d1, d2] => { results := [.lit (.bool true)], args := [d1, d2] }
  | _ => none }
def fnExactDigitProductsRow : OpenClaim := { program := "ythmbehknacjodaa", sum := "24edf2d5e2fa2da280838fe94b2a37fc68262973e9c342b426bc021fbde170fc", func := "loop.example/g01006/laws.FnExactDigitProducts", spec := "fnExactDigitProducts", apart := false }
def FnExactDigitProductsSaid : Prop := fnExactDigitProductsRow.holds Try.pinned (OpenSpec.ofChange fnExactDigitProductsSpec)

/-- ITS FALSE NEIGHBOUR: 'it returns false'. Refute it at one input. -/
def fnExactDigitProductsWrong : ChangeSpec := { name := "fnExactDigitProducts", fn := fun _ => fun
  | [d1, d2] => { results := [.lit (.bool false)], args := [d1, d2] }
  | _ => none }
def FnExactDigitProductsWrongFalsely : Prop := fnExactDigitProductsRow.holds Try.pinned (OpenSpec.ofChange fnExactDigitProductsWrong)

/- THE SECOND FORM. 'bulk': how many values and letters a reading holds, each counted each time it is reached (what is shared counts as often as it is met; a slice's spare places count too). A statement '..UptoSaid' is the law's where the arguments, and the package variables that the reading takes, are together of bulk at most 1048576: NARROWER than '..Said'. Prove '..Said' where nothing that the law and all that it calls make is longer than what came in: it says more and counts as full. Else prove '..UptoSaid'. A law counts once. -/
mutual
def uptoBulk {H : Type} : DataW H → Nat
  | .lit (.string bytes) => bytes.length + 1
  | .lit _ => 1
  | .nil => 1
  | .ptr d => uptoBulk d + 1
  | .slice elems spare => uptoBulkAll elems + uptoBulkAll spare + 1
  | .agg parts => uptoBulkAll parts + 1
  | .iface _ d => uptoBulk d + 1
  | .map entries => uptoBulkEntries entries + 1
  | .held _ => 1
def uptoBulkAll {H : Type} : List (DataW H) → Nat
  | [] => 0
  | d :: r => uptoBulk d + uptoBulkAll r
def uptoBulkEntries {H : Type} : List (Lit × DataW H) → Nat
  | [] => 0
  | x :: r => uptoBulkEntry x + uptoBulkEntries r
def uptoBulkEntry {H : Type} : Lit × DataW H → Nat
  | (.string bytes, d) => bytes.length + uptoBulk d + 1
  | (_, d) => uptoBulk d + 1
 end
def uptoSmall : (H : Type) → List (DataW H) → Bool := fun _ ds => decide (uptoBulkAll ds ≤ 1048576)
def OpenSpec.upto (s : _root_.Go.ChangeSpec) : _root_.Go.OpenSpec := { _root_.Go.OpenSpec.ofChange s with cond := some uptoSmall }

/-- 'laws.FnTimes', WHERE WHAT IT READS IS OF BULK AT MOST 1048576: true; the input reads as it did. -/
def fnTimesUptoRow : OpenClaim := { program := "ythmbehknacjodaa", sum := "24edf2d5e2fa2da280838fe94b2a37fc68262973e9c342b426bc021fbde170fc", func := "loop.example/g01006/laws.FnTimes", spec := "fnTimes", unfollowed := true, recurses := true, apart := false, narrowed := true }
def FnTimesUptoSaid : Prop := fnTimesUptoRow.holds Try.pinned (OpenSpec.upto fnTimesSpec)

/-- 'laws.FnChecks', WHERE WHAT IT READS IS OF BULK AT MOST 1048576: true; the input reads as it did. -/
def fnChecksUptoRow : OpenClaim := { program := "ythmbehknacjodaa", sum := "24edf2d5e2fa2da280838fe94b2a37fc68262973e9c342b426bc021fbde170fc", func := "loop.example/g01006/laws.FnChecks", spec := "fnChecks", unfollowed := true, recurses := true, apart := false, narrowed := true }
def FnChecksUptoSaid : Prop := fnChecksUptoRow.holds Try.pinned (OpenSpec.upto fnChecksSpec)

/-- 'laws.FnDividing', WHERE WHAT IT READS IS OF BULK AT MOST 1048576: true; the input reads as it did. -/
def fnDividingUptoRow : OpenClaim := { program := "ythmbehknacjodaa", sum := "24edf2d5e2fa2da280838fe94b2a37fc68262973e9c342b426bc021fbde170fc", func := "loop.example/g01006/laws.FnDividing", spec := "fnDividing", apart := false, narrowed := true }
def FnDividingUptoSaid : Prop := fnDividingUptoRow.holds Try.pinned (OpenSpec.upto fnDividingSpec)

/-- 'laws.FnTrialNeverLess', WHERE WHAT IT READS IS OF BULK AT MOST 1048576: true; the input reads as it did. -/
def fnTrialNeverLessUptoRow : OpenClaim := { program := "ythmbehknacjodaa", sum := "24edf2d5e2fa2da280838fe94b2a37fc68262973e9c342b426bc021fbde170fc", func := "loop.example/g01006/laws.FnTrialNeverLess", spec := "fnTrialNeverLess", apart := false, narrowed := true }
def FnTrialNeverLessUptoSaid : Prop := fnTrialNeverLessUptoRow.holds Try.pinned (OpenSpec.upto fnTrialNeverLessSpec)

/-- 'laws.FnExactDivisionSteps', WHERE WHAT IT READS IS OF BULK AT MOST 1048576: true; the input reads as it did. -/
def fnExactDivisionStepsUptoRow : OpenClaim := { program := "ythmbehknacjodaa", sum := "24edf2d5e2fa2da280838fe94b2a37fc68262973e9c342b426bc021fbde170fc", func := "loop.example/g01006/laws.FnExactDivisionSteps", spec := "fnExactDivisionSteps", apart := false, narrowed := true }
def FnExactDivisionStepsUptoSaid : Prop := fnExactDivisionStepsUptoRow.holds Try.pinned (OpenSpec.upto fnExactDivisionStepsSpec)

/-- 'laws.FnExactTrialDigits', WHERE WHAT IT READS IS OF BULK AT MOST 1048576: true; the input reads as it did. -/
def fnExactTrialDigitsUptoRow : OpenClaim := { program := "ythmbehknacjodaa", sum := "24edf2d5e2fa2da280838fe94b2a37fc68262973e9c342b426bc021fbde170fc", func := "loop.example/g01006/laws.FnExactTrialDigits", spec := "fnExactTrialDigits", apart := false, narrowed := true }
def FnExactTrialDigitsUptoSaid : Prop := fnExactTrialDigitsUptoRow.holds Try.pinned (OpenSpec.upto fnExactTrialDigitsSpec)

/-- 'laws.FnExactCorrections', WHERE WHAT IT READS IS OF BULK AT MOST 1048576: true; the input reads as it did. -/
def fnExactCorrectionsUptoRow : OpenClaim := { program := "ythmbehknacjodaa", sum := "24edf2d5e2fa2da280838fe94b2a37fc68262973e9c342b426bc021fbde170fc", func := "loop.example/g01006/laws.FnExactCorrections", spec := "fnExactCorrections", apart := false, narrowed := true }
def FnExactCorrectionsUptoSaid : Prop := fnExactCorrectionsUptoRow.holds Try.pinned (OpenSpec.upto fnExactCorrectionsSpec)

/-- 'laws.FnExactPartsOf', WHERE WHAT IT READS IS OF BULK AT MOST 1048576: true; the input reads as it did. -/
def fnExactPartsOfUptoRow : OpenClaim := { program := "ythmbehknacjodaa", sum := "24edf2d5e2fa2da280838fe94b2a37fc68262973e9c342b426bc021fbde170fc", func := "loop.example/g01006/laws.FnExactPartsOf", spec := "fnExactPartsOf", unfollowed := true, recurses := true, apart := false, narrowed := true }
def FnExactPartsOfUptoSaid : Prop := fnExactPartsOfUptoRow.holds Try.pinned (OpenSpec.upto fnExactPartsOfSpec)

/-- 'laws.FnExactTotals', WHERE WHAT IT READS IS OF BULK AT MOST 1048576: true; the input reads as it did. -/
def fnExactTotalsUptoRow : OpenClaim := { program := "ythmbehknacjodaa", sum := "24edf2d5e2fa2da280838fe94b2a37fc68262973e9c342b426bc021fbde170fc", func := "loop.example/g01006/laws.FnExactTotals", spec := "fnExactTotals", unfollowed := true, recurses := true, apart := false, narrowed := true }
def FnExactTotalsUptoSaid : Prop := fnExactTotalsUptoRow.holds Try.pinned (OpenSpec.upto fnExactTotalsSpec)

/-- 'laws.FnExactTimesCarries', WHERE WHAT IT READS IS OF BULK AT MOST 1048576: true; the input reads as it did. -/
def fnExactTimesCarriesUptoRow : OpenClaim := { program := "ythmbehknacjodaa", sum := "24edf2d5e2fa2da280838fe94b2a37fc68262973e9c342b426bc021fbde170fc", func := "loop.example/g01006/laws.FnExactTimesCarries", spec := "fnExactTimesCarries", unfollowed := true, recurses := true, apart := false, narrowed := true }
def FnExactTimesCarriesUptoSaid : Prop := fnExactTimesCarriesUptoRow.holds Try.pinned (OpenSpec.upto fnExactTimesCarriesSpec)

/-- 'laws.FnExactDigitProducts', WHERE WHAT IT READS IS OF BULK AT MOST 1048576: true; the input reads as it did. -/
def fnExactDigitProductsUptoRow : OpenClaim := { program := "ythmbehknacjodaa", sum := "24edf2d5e2fa2da280838fe94b2a37fc68262973e9c342b426bc021fbde170fc", func := "loop.example/g01006/laws.FnExactDigitProducts", spec := "fnExactDigitProducts", apart := false, narrowed := true }
def FnExactDigitProductsUptoSaid : Prop := fnExactDigitProductsUptoRow.holds Try.pinned (OpenSpec.upto fnExactDigitProductsSpec)

end Rows
end Go.Proofs.Ythmbehknacjodaa
