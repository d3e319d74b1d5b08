/-
  DERIVED. GIVEN WITH THE SEED: THE CARDS: each row of YtebhgnpfalpgcaaDoorRows.lean that lists a variable, with what it lists TIED to the program's text (the seventh form; the later family's looks); each row that meets fmt, with fmt's text TOLD by the authors' own Lean function (tested against real Go, not proved from fmt's source: count such statements apart). THE CARD IS WHAT COUNTS. Prove the row's statement (the work); the ties are given (YtebhgnpfalpgcaaDoorTie.lean); close each card by the builder's one call (the guide's Derived/Test/ToyasCard.lean, 'card_holds'). Laid BY PROGRAM, IN A SANDBOX (cutbox-door.mjs). By AI agents, Wed Nov 11 2026. No macro, syntax, notation, axiom, sorry.
-/
import Derived.Test.YtebhgnpfalpgcaaDoorRows
import GoSem.ClaimSeven
namespace Go.Proofs.YtebhgnpfalpgcaaDoor
namespace Rows

/-- THE TIED CARD OF 'laws.FnExactKindOfAdd'. -/
def fnExactKindOfAddCard : Claim7 := { stood := { row := fnExactKindOfAddRow, standIns := [], harness := (true, "cd4ab0d6832519c7ed612bd983b29aa52d89ff8cf89c76dd18c8fcf836ca227f"), looks := false }, kinds := [], alts := [], laidByText := true, laidKinds := [.data], laidTests := true, laidLooks := .later }
def FnExactKindOfAddCardSaid : Prop := Claim7.holds Tryd.pinned (.plain (OpenSpec.ofChange fnExactKindOfAddSpec)) fnExactKindOfAddCard

/-- THE TIED CARD OF 'laws.FnCarries'. -/
def fnCarriesCard : Claim7 := { stood := { row := fnCarriesRow, standIns := [], harness := (true, "cd4ab0d6832519c7ed612bd983b29aa52d89ff8cf89c76dd18c8fcf836ca227f"), looks := false }, kinds := [], alts := [], laidByText := true, laidKinds := [.data], laidTests := true, laidLooks := .later }
def FnCarriesCardSaid : Prop := Claim7.holds Tryd.pinned (.plain (OpenSpec.ofChange fnCarriesSpec)) fnCarriesCard

/-- THE SECOND FORM's CARD OF 'laws.FnExactKindOfAdd'. -/
def fnExactKindOfAddUptoCard : Claim7 := { stood := { row := fnExactKindOfAddUptoRow, standIns := [], harness := (true, "cd4ab0d6832519c7ed612bd983b29aa52d89ff8cf89c76dd18c8fcf836ca227f"), looks := false }, kinds := [], alts := [], laidByText := true, laidKinds := [.data], laidTests := true, laidLooks := .later }
def FnExactKindOfAddUptoCardSaid : Prop := Claim7.holds Tryd.pinned (.plain (OpenSpec.upto fnExactKindOfAddSpec)) fnExactKindOfAddUptoCard

/-- THE SECOND FORM's CARD OF 'laws.FnCarries'. -/
def fnCarriesUptoCard : Claim7 := { stood := { row := fnCarriesUptoRow, standIns := [], harness := (true, "cd4ab0d6832519c7ed612bd983b29aa52d89ff8cf89c76dd18c8fcf836ca227f"), looks := false }, kinds := [], alts := [], laidByText := true, laidKinds := [.data], laidTests := true, laidLooks := .later }
def FnCarriesUptoCardSaid : Prop := Claim7.holds Tryd.pinned (.plain (OpenSpec.upto fnCarriesSpec)) fnCarriesUptoCard
end Rows
end Go.Proofs.YtebhgnpfalpgcaaDoor
