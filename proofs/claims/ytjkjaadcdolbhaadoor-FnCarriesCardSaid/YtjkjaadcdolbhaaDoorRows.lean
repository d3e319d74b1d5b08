/-
  NARROWER THAN 'FOR EVERY INPUT', by the rows' own cells (each row's printed sentence says how): FnCarries: laid.
  DERIVED. THE GIVEN ROWS OF THIS SEAT. 1 by the template 'for every input the law returns true; each argument reads behind the call as it read before'; 0 by the template 'total and deterministic' (their statements: YtjkjaadcdolbhaaDoorTotals.lean).
  GIVEN WITH THE SEED: the statements are not yours to turn. If you find one false, say at which input.
  Laid BY PROGRAM, IN A SANDBOX (cutbox-rows.mjs): the forced cells as the released guide's own fill.sh prints them over the translation 467256604f28ee00… (all of the seat's roots in one cut). By AI agents, Wed Nov 11 2026. No macro, syntax, notation, axiom, sorry.
-/
import Derived.Test.YtjkjaadcdolbhaaDoorChecked
import GoSem.Claim
import GoSem.ClaimJoined
import GoSem.ClaimMapViews
import Derived.JoinedTies
import Derived.KernelRfl
namespace Go.Proofs.YtjkjaadcdolbhaaDoor
/- THE CELL 'sum', in the pinned program and in every row, IS THE sha256 OF THE DUMP (.gsa) THAT YtjkjaadcdolbhaaDoorProg.lean LOADS. Nothing in Lean hashes anything: it is a label: what it is worth is what the hold of that sum in a sandbox is worth. -/
noncomputable def Tryd.pinned : Pinned := { name := "ytjkjaadcdolbhaadoor", sum := "467256604f28ee00ec6dd72fda3c790124d8d0d46a9ef58f29b2cc5a249d4ddb", checked := Tryd.checked }
namespace Rows
def none {H : Type} : Left H := { results := [], args := [] }

/- WHAT THE LISTED PACKAGE-LEVEL VARIABLES READ AS WHEN THE CALL BEGINS. Each datum BY PROGRAM (the guide's laid-datum.mjs) off the statement by which the dump's own 'gosem.cut.vars' lays the variable. In a bare row this is a premise. The card (YtjkjaadcdolbhaaDoorCards.lean) ties it to the program's text. -/
def laid_loop_example_g01006_impl_namesOfKinds {H : Type} : DataW H := .agg [.lit (.string [100, 105, 114, 101, 99, 116]), .lit (.string [102, 105, 118, 101]), .lit (.string [116, 101, 110]), .lit (.string [98, 111, 116, 104])]

/-- 'laws.FnCarries': WHATEVER THE INPUT: true; the input reads as it did. -/
def fnCarriesSpec : ChangeSpec := { name := "fnCarries", vars := ["loop.example/g01006/impl.namesOfKinds"], fn := fun _ => fun
  | [d, g1] => { results := [.lit (.bool true)], args := [d], vars := [g1] }
  | _ => none }
def fnCarriesRow : OpenClaim := { program := "ytjkjaadcdolbhaadoor", sum := "467256604f28ee00ec6dd72fda3c790124d8d0d46a9ef58f29b2cc5a249d4ddb", func := "loop.example/g01006/laws.FnCarries", spec := "fnCarries", named := ["loop.example/g01006/impl.namesOfKinds"], apart := false, laid := [("loop.example/g01006/impl.namesOfKinds", laid_loop_example_g01006_impl_namesOfKinds)] }
def FnCarriesSaid : Prop := fnCarriesRow.holds Tryd.pinned (OpenSpec.ofChange fnCarriesSpec)

/-- ITS FALSE NEIGHBOUR: 'it returns false'. Refute it at one input. -/
def fnCarriesWrong : ChangeSpec := { name := "fnCarries", vars := ["loop.example/g01006/impl.namesOfKinds"], fn := fun _ => fun
  | [d, g1] => { results := [.lit (.bool false)], args := [d], vars := [g1] }
  | _ => none }
def FnCarriesWrongFalsely : Prop := fnCarriesRow.holds Tryd.pinned (OpenSpec.ofChange fnCarriesWrong)

/- THE SECOND FORM. 'bulk': how many values and letters a reading holds, each counted each time it is reached (what is shared counts as often as it is met; a slice's spare places count too). A statement '..UptoSaid' is the law's where the arguments, and the package variables that the reading takes, are together of bulk at most 1048576: NARROWER than '..Said'. Prove '..Said' where nothing that the law and all that it calls make is longer than what came in: it says more and counts as full. Else prove '..UptoSaid'. A law counts once. -/
mutual
def uptoBulk {H : Type} : DataW H → Nat
  | .lit (.string bytes) => bytes.length + 1
  | .lit _ => 1
  | .nil => 1
  | .ptr d => uptoBulk d + 1
  | .slice elems spare => uptoBulkAll elems + uptoBulkAll spare + 1
  | .agg parts => uptoBulkAll parts + 1
  | .iface _ d => uptoBulk d + 1
  | .map entries => uptoBulkEntries entries + 1
  | .held _ => 1
def uptoBulkAll {H : Type} : List (DataW H) → Nat
  | [] => 0
  | d :: r => uptoBulk d + uptoBulkAll r
def uptoBulkEntries {H : Type} : List (Lit × DataW H) → Nat
  | [] => 0
  | x :: r => uptoBulkEntry x + uptoBulkEntries r
def uptoBulkEntry {H : Type} : Lit × DataW H → Nat
  | (.string bytes, d) => bytes.length + uptoBulk d + 1
  | (_, d) => uptoBulk d + 1
 end
def uptoSmall : (H : Type) → List (DataW H) → Bool := fun _ ds => decide (uptoBulkAll ds ≤ 1048576)
def OpenSpec.upto (s : _root_.Go.ChangeSpec) : _root_.Go.OpenSpec := { _root_.Go.OpenSpec.ofChange s with cond := some uptoSmall }

/-- 'laws.FnCarries', WHERE WHAT IT READS IS OF BULK AT MOST 1048576: true; the input reads as it did. -/
def fnCarriesUptoRow : OpenClaim := { program := "ytjkjaadcdolbhaadoor", sum := "467256604f28ee00ec6dd72fda3c790124d8d0d46a9ef58f29b2cc5a249d4ddb", func := "loop.example/g01006/laws.FnCarries", spec := "fnCarries", named := ["loop.example/g01006/impl.namesOfKinds"], apart := false, laid := [("loop.example/g01006/impl.namesOfKinds", laid_loop_example_g01006_impl_namesOfKinds)], narrowed := true }
def FnCarriesUptoSaid : Prop := fnCarriesUptoRow.holds Tryd.pinned (OpenSpec.upto fnCarriesSpec)

end Rows
end Go.Proofs.YtjkjaadcdolbhaaDoor
