/-
  DERIVED. GIVEN WITH THE SEED: THE CARDS: each row of YtblbeoeklkcamaaDoorRows.lean that lists a variable, with what it lists TIED to the program's text (the seventh form; the later family's looks); each row that meets fmt, with fmt's text TOLD by the authors' own Lean function (tested against real Go, not proved from fmt's source: count such statements apart). THE CARD IS WHAT COUNTS. Prove the row's statement (the work); the ties are given (YtblbeoeklkcamaaDoorTie.lean); close each card by the builder's one call (the guide's Derived/Test/ToyasCard.lean, 'card_holds'). Laid BY PROGRAM, IN A SANDBOX (cutbox-door.mjs). By AI agents, Wed Nov 11 2026. No macro, syntax, notation, axiom, sorry.
-/
import Derived.Test.YtblbeoeklkcamaaDoorRows
import GoSem.ClaimSeven
namespace Go.Proofs.YtblbeoeklkcamaaDoor
namespace Rows

/-- THE TIED CARD OF 'laws.FnHours'. -/
def fnHoursCard : Claim7 := { stood := { row := fnHoursRow, standIns := [], harness := (true, "8e92a573f88756040485a5f2b7ed722d6bee01a7aaa162f864caf5f870d68f9d"), looks := false }, kinds := [], alts := [], laidByText := true, laidKinds := [.data, .data, .data, .data], laidTests := true, laidLooks := .later }
def FnHoursCardSaid : Prop := Claim7.holds Tryd.pinned (.plain (OpenSpec.ofChange fnHoursSpec)) fnHoursCard

/-- THE TIED CARD OF 'laws.FnExactLessonText'. -/
def fnExactLessonTextCard : Claim7 := { stood := { row := fnExactLessonTextRow, standIns := [], harness := (true, "8e92a573f88756040485a5f2b7ed722d6bee01a7aaa162f864caf5f870d68f9d"), looks := false }, kinds := [], alts := [], laidByText := true, laidKinds := [.data, .data, .data, .data], laidTests := true, laidLooks := .later }
def FnExactLessonTextCardSaid : Prop := Claim7.holds Tryd.pinned (.plain (OpenSpec.ofChange fnExactLessonTextSpec)) fnExactLessonTextCard

/-- THE SECOND FORM's CARD OF 'laws.FnHours'. -/
def fnHoursUptoCard : Claim7 := { stood := { row := fnHoursUptoRow, standIns := [], harness := (true, "8e92a573f88756040485a5f2b7ed722d6bee01a7aaa162f864caf5f870d68f9d"), looks := false }, kinds := [], alts := [], laidByText := true, laidKinds := [.data, .data, .data, .data], laidTests := true, laidLooks := .later }
def FnHoursUptoCardSaid : Prop := Claim7.holds Tryd.pinned (.plain (OpenSpec.upto fnHoursSpec)) fnHoursUptoCard

/-- THE SECOND FORM's CARD OF 'laws.FnExactLessonText'. -/
def fnExactLessonTextUptoCard : Claim7 := { stood := { row := fnExactLessonTextUptoRow, standIns := [], harness := (true, "8e92a573f88756040485a5f2b7ed722d6bee01a7aaa162f864caf5f870d68f9d"), looks := false }, kinds := [], alts := [], laidByText := true, laidKinds := [.data, .data, .data, .data], laidTests := true, laidLooks := .later }
def FnExactLessonTextUptoCardSaid : Prop := Claim7.holds Tryd.pinned (.plain (OpenSpec.upto fnExactLessonTextSpec)) fnExactLessonTextUptoCard
end Rows
end Go.Proofs.YtblbeoeklkcamaaDoor
