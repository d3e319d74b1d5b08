/-
  DERIVED. GIVEN WITH THE SEED: THE CARDS: each row of YtjkjaadcdolbhaaDoorRows.lean that lists a variable, with what it lists TIED to the program's text (the seventh form; the later family's looks); each row that meets fmt, with fmt's text TOLD by the authors' own Lean function (tested against real Go, not proved from fmt's source: count such statements apart). THE CARD IS WHAT COUNTS. Prove the row's statement (the work); the ties are given (YtjkjaadcdolbhaaDoorTie.lean); close each card by the builder's one call (the guide's Derived/Test/ToyasCard.lean, 'card_holds'). Laid BY PROGRAM, IN A SANDBOX (cutbox-door.mjs). By AI agents, Wed Nov 11 2026. No macro, syntax, notation, axiom, sorry.
-/
import Derived.Test.YtjkjaadcdolbhaaDoorRows
import GoSem.ClaimSeven
namespace Go.Proofs.YtjkjaadcdolbhaaDoor
namespace Rows

/-- THE TIED CARD OF 'laws.FnCarries'. -/
def fnCarriesCard : Claim7 := { stood := { row := fnCarriesRow, standIns := [], harness := (true, "76a44f105cdc2eb1569a09416e1958478abef98625fdc145f58489502f795aa1"), looks := false }, kinds := [], alts := [], laidByText := true, laidKinds := [.data], laidTests := true, laidLooks := .later }
def FnCarriesCardSaid : Prop := Claim7.holds Tryd.pinned (.plain (OpenSpec.ofChange fnCarriesSpec)) fnCarriesCard

/-- THE SECOND FORM's CARD OF 'laws.FnCarries'. -/
def fnCarriesUptoCard : Claim7 := { stood := { row := fnCarriesUptoRow, standIns := [], harness := (true, "76a44f105cdc2eb1569a09416e1958478abef98625fdc145f58489502f795aa1"), looks := false }, kinds := [], alts := [], laidByText := true, laidKinds := [.data], laidTests := true, laidLooks := .later }
def FnCarriesUptoCardSaid : Prop := Claim7.holds Tryd.pinned (.plain (OpenSpec.upto fnCarriesSpec)) fnCarriesUptoCard
end Rows
end Go.Proofs.YtjkjaadcdolbhaaDoor
