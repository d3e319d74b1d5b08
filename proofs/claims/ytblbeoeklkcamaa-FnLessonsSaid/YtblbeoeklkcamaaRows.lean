/-
  No cell of these rows narrows 'for every input' (looked for: loops, veiled, ifaces, maps, wideKeys, modest, calm, conditions, laid).
  DERIVED. THE GIVEN ROWS OF THIS SEAT. 10 by the template 'for every input the law returns true; each argument reads behind the call as it read before'; 0 by the template 'total and deterministic' (their statements: YtblbeoeklkcamaaTotals.lean).
  GIVEN WITH THE SEED: the statements are not yours to turn. If you find one false, say at which input.
  Laid BY PROGRAM, IN A SANDBOX (cutbox-rows.mjs): the forced cells as the released guide's own fill.sh prints them over the translation dd23b80b0f4d5b99… (all of the seat's roots in one cut). By AI agents, Wed Nov 11 2026. No macro, syntax, notation, axiom, sorry.
-/
import Derived.Test.YtblbeoeklkcamaaChecked
import GoSem.Claim
import GoSem.ClaimJoined
import GoSem.ClaimMapViews
import Derived.JoinedTies
import Derived.KernelRfl
namespace Go.Proofs.Ytblbeoeklkcamaa
/- THE CELL 'sum', in the pinned program and in every row, IS THE sha256 OF THE DUMP (.gsa) THAT YtblbeoeklkcamaaProg.lean LOADS. Nothing in Lean hashes anything: it is a label: what it is worth is what the hold of that sum in a sandbox is worth. -/
noncomputable def Try.pinned : Pinned := { name := "ytblbeoeklkcamaa", sum := "dd23b80b0f4d5b99c571e8550abead960a8c656adcc63385b5929fb4f3006def", checked := Try.checked }
namespace Rows
def none {H : Type} : Left H := { results := [], args := [] }

/-- 'laws.FnLessons': WHATEVER THE INPUT: true; the input reads as it did. -/
def fnLessonsSpec : ChangeSpec := { name := "fnLessons", fn := fun _ => fun
  | [d] => { results := [.lit (.bool true)], args := [d] }
  | _ => none }
def fnLessonsRow : OpenClaim := { program := "ytblbeoeklkcamaa", sum := "dd23b80b0f4d5b99c571e8550abead960a8c656adcc63385b5929fb4f3006def", func := "loop.example/g01006/laws.FnLessons", spec := "fnLessons", unfollowed := true, recurses := true, apart := false }
def FnLessonsSaid : Prop := fnLessonsRow.holds Try.pinned (OpenSpec.ofChange fnLessonsSpec)

/-- ITS FALSE NEIGHBOUR: 'it returns false'. Refute it at one input. -/
def fnLessonsWrong : ChangeSpec := { name := "fnLessons", fn := fun _ => fun
  | [d] => { results := [.lit (.bool false)], args := [d] }
  | _ => none }
def FnLessonsWrongFalsely : Prop := fnLessonsRow.holds Try.pinned (OpenSpec.ofChange fnLessonsWrong)

/-- 'laws.FnExactIsLesson': WHATEVER THE INPUT: true; the input reads as it did. -/
def fnExactIsLessonSpec : ChangeSpec := { name := "fnExactIsLesson", fn := fun _ => fun
  | [d] => { results := [.lit (.bool true)], args := [d] }
  | _ => none }
def fnExactIsLessonRow : OpenClaim := { program := "ytblbeoeklkcamaa", sum := "dd23b80b0f4d5b99c571e8550abead960a8c656adcc63385b5929fb4f3006def", func := "loop.example/g01006/laws.FnExactIsLesson", spec := "fnExactIsLesson", apart := false }
def FnExactIsLessonSaid : Prop := fnExactIsLessonRow.holds Try.pinned (OpenSpec.ofChange fnExactIsLessonSpec)

/-- ITS FALSE NEIGHBOUR: 'it returns false'. Refute it at one input. -/
def fnExactIsLessonWrong : ChangeSpec := { name := "fnExactIsLesson", fn := fun _ => fun
  | [d] => { results := [.lit (.bool false)], args := [d] }
  | _ => none }
def FnExactIsLessonWrongFalsely : Prop := fnExactIsLessonRow.holds Try.pinned (OpenSpec.ofChange fnExactIsLessonWrong)

/-- 'laws.FnExactAreLessons': WHATEVER THE INPUT: true; the input reads as it did. -/
def fnExactAreLessonsSpec : ChangeSpec := { name := "fnExactAreLessons", fn := fun _ => fun
  | [d] => { results := [.lit (.bool true)], args := [d] }
  | _ => none }
def fnExactAreLessonsRow : OpenClaim := { program := "ytblbeoeklkcamaa", sum := "dd23b80b0f4d5b99c571e8550abead960a8c656adcc63385b5929fb4f3006def", func := "loop.example/g01006/laws.FnExactAreLessons", spec := "fnExactAreLessons", apart := false }
def FnExactAreLessonsSaid : Prop := fnExactAreLessonsRow.holds Try.pinned (OpenSpec.ofChange fnExactAreLessonsSpec)

/-- ITS FALSE NEIGHBOUR: 'it returns false'. Refute it at one input. -/
def fnExactAreLessonsWrong : ChangeSpec := { name := "fnExactAreLessons", fn := fun _ => fun
  | [d] => { results := [.lit (.bool false)], args := [d] }
  | _ => none }
def FnExactAreLessonsWrongFalsely : Prop := fnExactAreLessonsRow.holds Try.pinned (OpenSpec.ofChange fnExactAreLessonsWrong)

/-- 'laws.FnExactClashingPairs': WHATEVER THE INPUT: true; the input reads as it did. -/
def fnExactClashingPairsSpec : ChangeSpec := { name := "fnExactClashingPairs", fn := fun _ => fun
  | [d] => { results := [.lit (.bool true)], args := [d] }
  | _ => none }
def fnExactClashingPairsRow : OpenClaim := { program := "ytblbeoeklkcamaa", sum := "dd23b80b0f4d5b99c571e8550abead960a8c656adcc63385b5929fb4f3006def", func := "loop.example/g01006/laws.FnExactClashingPairs", spec := "fnExactClashingPairs", apart := false }
def FnExactClashingPairsSaid : Prop := fnExactClashingPairsRow.holds Try.pinned (OpenSpec.ofChange fnExactClashingPairsSpec)

/-- ITS FALSE NEIGHBOUR: 'it returns false'. Refute it at one input. -/
def fnExactClashingPairsWrong : ChangeSpec := { name := "fnExactClashingPairs", fn := fun _ => fun
  | [d] => { results := [.lit (.bool false)], args := [d] }
  | _ => none }
def FnExactClashingPairsWrongFalsely : Prop := fnExactClashingPairsRow.holds Try.pinned (OpenSpec.ofChange fnExactClashingPairsWrong)

/-- 'laws.FnExactDayOfClass': WHATEVER THE INPUT: true; the input reads as it did. -/
def fnExactDayOfClassSpec : ChangeSpec := { name := "fnExactDayOfClass", fn := fun _ => fun
  | [d1, d2, d3] => { results := [.lit (.bool true)], args := [d1, d2, d3] }
  | _ => none }
def fnExactDayOfClassRow : OpenClaim := { program := "ytblbeoeklkcamaa", sum := "dd23b80b0f4d5b99c571e8550abead960a8c656adcc63385b5929fb4f3006def", func := "loop.example/g01006/laws.FnExactDayOfClass", spec := "fnExactDayOfClass", unfollowed := true, recurses := true, apart := false }
def FnExactDayOfClassSaid : Prop := fnExactDayOfClassRow.holds Try.pinned (OpenSpec.ofChange fnExactDayOfClassSpec)

/-- ITS FALSE NEIGHBOUR: 'it returns false'. Refute it at one input. -/
def fnExactDayOfClassWrong : ChangeSpec := { name := "fnExactDayOfClass", fn := fun _ => fun
  | [d1, d2, d3] => { results := [.lit (.bool false)], args := [d1, d2, d3] }
  | _ => none }
def FnExactDayOfClassWrongFalsely : Prop := fnExactDayOfClassRow.holds Try.pinned (OpenSpec.ofChange fnExactDayOfClassWrong)

/-- 'laws.FnExactFreeRooms': WHATEVER THE INPUT: true; the input reads as it did. -/
def fnExactFreeRoomsSpec : ChangeSpec := { name := "fnExactFreeRooms", fn := fun _ => fun
  | [d1, d2, d3, d4] => { results := [.lit (.bool true)], args := [d1, d2, d3, d4] }
  | _ => none }
def fnExactFreeRoomsRow : OpenClaim := { program := "ytblbeoeklkcamaa", sum := "dd23b80b0f4d5b99c571e8550abead960a8c656adcc63385b5929fb4f3006def", func := "loop.example/g01006/laws.FnExactFreeRooms", spec := "fnExactFreeRooms", apart := false }
def FnExactFreeRoomsSaid : Prop := fnExactFreeRoomsRow.holds Try.pinned (OpenSpec.ofChange fnExactFreeRoomsSpec)

/-- ITS FALSE NEIGHBOUR: 'it returns false'. Refute it at one input. -/
def fnExactFreeRoomsWrong : ChangeSpec := { name := "fnExactFreeRooms", fn := fun _ => fun
  | [d1, d2, d3, d4] => { results := [.lit (.bool false)], args := [d1, d2, d3, d4] }
  | _ => none }
def FnExactFreeRoomsWrongFalsely : Prop := fnExactFreeRoomsRow.holds Try.pinned (OpenSpec.ofChange fnExactFreeRoomsWrong)

/-- 'laws.FnExactShiftLesson': WHATEVER THE INPUT: true; the input reads as it did. -/
def fnExactShiftLessonSpec : ChangeSpec := { name := "fnExactShiftLesson", fn := fun _ => fun
  | [d1, d2, d3, d4] => { results := [.lit (.bool true)], args := [d1, d2, d3, d4] }
  | _ => none }
def fnExactShiftLessonRow : OpenClaim := { program := "ytblbeoeklkcamaa", sum := "dd23b80b0f4d5b99c571e8550abead960a8c656adcc63385b5929fb4f3006def", func := "loop.example/g01006/laws.FnExactShiftLesson", spec := "fnExactShiftLesson", unfollowed := true, recurses := true, apart := false }
def FnExactShiftLessonSaid : Prop := fnExactShiftLessonRow.holds Try.pinned (OpenSpec.ofChange fnExactShiftLessonSpec)

/-- ITS FALSE NEIGHBOUR: 'it returns false'. Refute it at one input. -/
def fnExactShiftLessonWrong : ChangeSpec := { name := "fnExactShiftLesson", fn := fun _ => fun
  | [d1, d2, d3, d4] => { results := [.lit (.bool false)], args := [d1, d2, d3, d4] }
  | _ => none }
def FnExactShiftLessonWrongFalsely : Prop := fnExactShiftLessonRow.holds Try.pinned (OpenSpec.ofChange fnExactShiftLessonWrong)

/-- 'laws.FnExactFirstSlot': WHATEVER THE INPUT: true; the input reads as it did. -/
def fnExactFirstSlotSpec : ChangeSpec := { name := "fnExactFirstSlot", fn := fun _ => fun
  | [d1, d2] => { results := [.lit (.bool true)], args := [d1, d2] }
  | _ => none }
def fnExactFirstSlotRow : OpenClaim := { program := "ytblbeoeklkcamaa", sum := "dd23b80b0f4d5b99c571e8550abead960a8c656adcc63385b5929fb4f3006def", func := "loop.example/g01006/laws.FnExactFirstSlot", spec := "fnExactFirstSlot", unfollowed := true, recurses := true, apart := false }
def FnExactFirstSlotSaid : Prop := fnExactFirstSlotRow.holds Try.pinned (OpenSpec.ofChange fnExactFirstSlotSpec)

/-- ITS FALSE NEIGHBOUR: 'it returns false'. Refute it at one input. -/
def fnExactFirstSlotWrong : ChangeSpec := { name := "fnExactFirstSlot", fn := fun _ => fun
  | [d1, d2] => { results := [.lit (.bool false)], args := [d1, d2] }
  | _ => none }
def FnExactFirstSlotWrongFalsely : Prop := fnExactFirstSlotRow.holds Try.pinned (OpenSpec.ofChange fnExactFirstSlotWrong)

/-- 'laws.FnExactTeacherHours': WHATEVER THE INPUT: true; the input reads as it did. -/
def fnExactTeacherHoursSpec : ChangeSpec := { name := "fnExactTeacherHours", fn := fun _ => fun
  | [d] => { results := [.lit (.bool true)], args := [d] }
  | _ => none }
def fnExactTeacherHoursRow : OpenClaim := { program := "ytblbeoeklkcamaa", sum := "dd23b80b0f4d5b99c571e8550abead960a8c656adcc63385b5929fb4f3006def", func := "loop.example/g01006/laws.FnExactTeacherHours", spec := "fnExactTeacherHours", apart := false }
def FnExactTeacherHoursSaid : Prop := fnExactTeacherHoursRow.holds Try.pinned (OpenSpec.ofChange fnExactTeacherHoursSpec)

/-- ITS FALSE NEIGHBOUR: 'it returns false'. Refute it at one input. -/
def fnExactTeacherHoursWrong : ChangeSpec := { name := "fnExactTeacherHours", fn := fun _ => fun
  | [d] => { results := [.lit (.bool false)], args := [d] }
  | _ => none }
def FnExactTeacherHoursWrongFalsely : Prop := fnExactTeacherHoursRow.holds Try.pinned (OpenSpec.ofChange fnExactTeacherHoursWrong)

/-- 'laws.FnExactLongestGap': WHATEVER THE INPUT: true; the input reads as it did. -/
def fnExactLongestGapSpec : ChangeSpec := { name := "fnExactLongestGap", fn := fun _ => fun
  | [d1, d2] => { results := [.lit (.bool true)], args := [d1, d2] }
  | _ => none }
def fnExactLongestGapRow : OpenClaim := { program := "ytblbeoeklkcamaa", sum := "dd23b80b0f4d5b99c571e8550abead960a8c656adcc63385b5929fb4f3006def", func := "loop.example/g01006/laws.FnExactLongestGap", spec := "fnExactLongestGap", unfollowed := true, recurses := true, apart := false }
def FnExactLongestGapSaid : Prop := fnExactLongestGapRow.holds Try.pinned (OpenSpec.ofChange fnExactLongestGapSpec)

/-- ITS FALSE NEIGHBOUR: 'it returns false'. Refute it at one input. -/
def fnExactLongestGapWrong : ChangeSpec := { name := "fnExactLongestGap", fn := fun _ => fun
  | [d1, d2] => { results := [.lit (.bool false)], args := [d1, d2] }
  | _ => none }
def FnExactLongestGapWrongFalsely : Prop := fnExactLongestGapRow.holds Try.pinned (OpenSpec.ofChange fnExactLongestGapWrong)

/- THE SECOND FORM. 'bulk': how many values and letters a reading holds, each counted each time it is reached (what is shared counts as often as it is met; a slice's spare places count too). A statement '..UptoSaid' is the law's where the arguments, and the package variables that the reading takes, are together of bulk at most 1048576: NARROWER than '..Said'. Prove '..Said' where nothing that the law and all that it calls make is longer than what came in: it says more and counts as full. Else prove '..UptoSaid'. A law counts once. -/
mutual
def uptoBulk {H : Type} : DataW H → Nat
  | .lit (.string bytes) => bytes.length + 1
  | .lit _ => 1
  | .nil => 1
  | .ptr d => uptoBulk d + 1
  | .slice elems spare => uptoBulkAll elems + uptoBulkAll spare + 1
  | .agg parts => uptoBulkAll parts + 1
  | .iface _ d => uptoBulk d + 1
  | .map entries => uptoBulkEntries entries + 1
  | .held _ => 1
def uptoBulkAll {H : Type} : List (DataW H) → Nat
  | [] => 0
  | d :: r => uptoBulk d + uptoBulkAll r
def uptoBulkEntries {H : Type} : List (Lit × DataW H) → Nat
  | [] => 0
  | x :: r => uptoBulkEntry x + uptoBulkEntries r
def uptoBulkEntry {H : Type} : Lit × DataW H → Nat
  | (.string bytes, d) => bytes.length + uptoBulk d + 1
  | (_, d) => uptoBulk d + 1
 end
def uptoSmall : (H : Type) → List (DataW H) → Bool := fun _ ds => decide (uptoBulkAll ds ≤ 1048576)
def OpenSpec.upto (s : _root_.Go.ChangeSpec) : _root_.Go.OpenSpec := { _root_.Go.OpenSpec.ofChange s with cond := some uptoSmall }

/-- 'laws.FnLessons', WHERE WHAT IT READS IS OF BULK AT MOST 1048576: true; the input reads as it did. -/
def fnLessonsUptoRow : OpenClaim := { program := "ytblbeoeklkcamaa", sum := "dd23b80b0f4d5b99c571e8550abead960a8c656adcc63385b5929fb4f3006def", func := "loop.example/g01006/laws.FnLessons", spec := "fnLessons", unfollowed := true, recurses := true, apart := false, narrowed := true }
def FnLessonsUptoSaid : Prop := fnLessonsUptoRow.holds Try.pinned (OpenSpec.upto fnLessonsSpec)

/-- 'laws.FnExactIsLesson', WHERE WHAT IT READS IS OF BULK AT MOST 1048576: true; the input reads as it did. -/
def fnExactIsLessonUptoRow : OpenClaim := { program := "ytblbeoeklkcamaa", sum := "dd23b80b0f4d5b99c571e8550abead960a8c656adcc63385b5929fb4f3006def", func := "loop.example/g01006/laws.FnExactIsLesson", spec := "fnExactIsLesson", apart := false, narrowed := true }
def FnExactIsLessonUptoSaid : Prop := fnExactIsLessonUptoRow.holds Try.pinned (OpenSpec.upto fnExactIsLessonSpec)

/-- 'laws.FnExactAreLessons', WHERE WHAT IT READS IS OF BULK AT MOST 1048576: true; the input reads as it did. -/
def fnExactAreLessonsUptoRow : OpenClaim := { program := "ytblbeoeklkcamaa", sum := "dd23b80b0f4d5b99c571e8550abead960a8c656adcc63385b5929fb4f3006def", func := "loop.example/g01006/laws.FnExactAreLessons", spec := "fnExactAreLessons", apart := false, narrowed := true }
def FnExactAreLessonsUptoSaid : Prop := fnExactAreLessonsUptoRow.holds Try.pinned (OpenSpec.upto fnExactAreLessonsSpec)

/-- 'laws.FnExactClashingPairs', WHERE WHAT IT READS IS OF BULK AT MOST 1048576: true; the input reads as it did. -/
def fnExactClashingPairsUptoRow : OpenClaim := { program := "ytblbeoeklkcamaa", sum := "dd23b80b0f4d5b99c571e8550abead960a8c656adcc63385b5929fb4f3006def", func := "loop.example/g01006/laws.FnExactClashingPairs", spec := "fnExactClashingPairs", apart := false, narrowed := true }
def FnExactClashingPairsUptoSaid : Prop := fnExactClashingPairsUptoRow.holds Try.pinned (OpenSpec.upto fnExactClashingPairsSpec)

/-- 'laws.FnExactDayOfClass', WHERE WHAT IT READS IS OF BULK AT MOST 1048576: true; the input reads as it did. -/
def fnExactDayOfClassUptoRow : OpenClaim := { program := "ytblbeoeklkcamaa", sum := "dd23b80b0f4d5b99c571e8550abead960a8c656adcc63385b5929fb4f3006def", func := "loop.example/g01006/laws.FnExactDayOfClass", spec := "fnExactDayOfClass", unfollowed := true, recurses := true, apart := false, narrowed := true }
def FnExactDayOfClassUptoSaid : Prop := fnExactDayOfClassUptoRow.holds Try.pinned (OpenSpec.upto fnExactDayOfClassSpec)

/-- 'laws.FnExactFreeRooms', WHERE WHAT IT READS IS OF BULK AT MOST 1048576: true; the input reads as it did. -/
def fnExactFreeRoomsUptoRow : OpenClaim := { program := "ytblbeoeklkcamaa", sum := "dd23b80b0f4d5b99c571e8550abead960a8c656adcc63385b5929fb4f3006def", func := "loop.example/g01006/laws.FnExactFreeRooms", spec := "fnExactFreeRooms", apart := false, narrowed := true }
def FnExactFreeRoomsUptoSaid : Prop := fnExactFreeRoomsUptoRow.holds Try.pinned (OpenSpec.upto fnExactFreeRoomsSpec)

/-- 'laws.FnExactShiftLesson', WHERE WHAT IT READS IS OF BULK AT MOST 1048576: true; the input reads as it did. -/
def fnExactShiftLessonUptoRow : OpenClaim := { program := "ytblbeoeklkcamaa", sum := "dd23b80b0f4d5b99c571e8550abead960a8c656adcc63385b5929fb4f3006def", func := "loop.example/g01006/laws.FnExactShiftLesson", spec := "fnExactShiftLesson", unfollowed := true, recurses := true, apart := false, narrowed := true }
def FnExactShiftLessonUptoSaid : Prop := fnExactShiftLessonUptoRow.holds Try.pinned (OpenSpec.upto fnExactShiftLessonSpec)

/-- 'laws.FnExactFirstSlot', WHERE WHAT IT READS IS OF BULK AT MOST 1048576: true; the input reads as it did. -/
def fnExactFirstSlotUptoRow : OpenClaim := { program := "ytblbeoeklkcamaa", sum := "dd23b80b0f4d5b99c571e8550abead960a8c656adcc63385b5929fb4f3006def", func := "loop.example/g01006/laws.FnExactFirstSlot", spec := "fnExactFirstSlot", unfollowed := true, recurses := true, apart := false, narrowed := true }
def FnExactFirstSlotUptoSaid : Prop := fnExactFirstSlotUptoRow.holds Try.pinned (OpenSpec.upto fnExactFirstSlotSpec)

/-- 'laws.FnExactTeacherHours', WHERE WHAT IT READS IS OF BULK AT MOST 1048576: true; the input reads as it did. -/
def fnExactTeacherHoursUptoRow : OpenClaim := { program := "ytblbeoeklkcamaa", sum := "dd23b80b0f4d5b99c571e8550abead960a8c656adcc63385b5929fb4f3006def", func := "loop.example/g01006/laws.FnExactTeacherHours", spec := "fnExactTeacherHours", apart := false, narrowed := true }
def FnExactTeacherHoursUptoSaid : Prop := fnExactTeacherHoursUptoRow.holds Try.pinned (OpenSpec.upto fnExactTeacherHoursSpec)

/-- 'laws.FnExactLongestGap', WHERE WHAT IT READS IS OF BULK AT MOST 1048576: true; the input reads as it did. -/
def fnExactLongestGapUptoRow : OpenClaim := { program := "ytblbeoeklkcamaa", sum := "dd23b80b0f4d5b99c571e8550abead960a8c656adcc63385b5929fb4f3006def", func := "loop.example/g01006/laws.FnExactLongestGap", spec := "fnExactLongestGap", unfollowed := true, recurses := true, apart := false, narrowed := true }
def FnExactLongestGapUptoSaid : Prop := fnExactLongestGapUptoRow.holds Try.pinned (OpenSpec.upto fnExactLongestGapSpec)

end Rows
end Go.Proofs.Ytblbeoeklkcamaa
