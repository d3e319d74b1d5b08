/- The law's helpers on Lesson and slices of it: compare, copy, measure. -/
import Derived.Test.YtblbeoeklkcamaaDoorKa
import Derived.Deep.RegionHeld3
import Derived.Deep.QuietTactic
import Derived.BigQuiet
import Derived.StillTailTactics
namespace Go.Proofs.YtblbeoeklkcamaaDoor
set_option linter.unusedVariables false
open Go.RowKit

structure Les where
  id : Int
  cls : Int
  tch : Int
  room : Int
  day : Int
  bgn : Int
  mins : Int

def lesV (p : Les) : Value := .agg #[.int .i64 p.id, .int .i64 p.cls, .int .i64 p.tch, .int .i64 p.room, .int .i64 p.day, .int .i64 p.bgn, .int .i64 p.mins]
def lesC (p : Les) : List Value := [.int .i64 p.id, .int .i64 p.cls, .int .i64 p.tch, .int .i64 p.room, .int .i64 p.day, .int .i64 p.bgn, .int .i64 p.mins]
theorem lesC_len (p : Les) : (lesC p).length = 7 := rfl

set_option maxRecDepth 100000 in
set_option maxHeartbeats 1600000 in
theorem toLesson_any (p : Les) (w : World) :
    Calls Tryd.prog 22 #[lesV p] w fun e w' => e = .returned (lesV p) ∧ Below w.heap.size w w' := by
  obtain ⟨id, cls, tch, room, day, bgn, mins⟩ := p
  show Calls Tryd.prog 22 #[.agg #[.int .i64 id, .int .i64 cls, .int .i64 tch, .int .i64 room, .int .i64 day, .int .i64 bgn, .int .i64 mins]] w fun e w' => e = .returned (.agg #[.int .i64 id, .int .i64 cls, .int .i64 tch, .int .i64 room, .int .i64 day, .int .i64 bgn, .int .i64 mins]) ∧ Below w.heap.size w w'
  go_enter Tryd.func22, Tryd.ntmps22
  go_wp2_with fail
  exact bodyPost_ret (v := .agg #[.int .i64 id, .int .i64 cls, .int .i64 tch, .int .i64 room, .int .i64 day, .int .i64 bgn, .int .i64 mins]) (by simp [results, Tryd.results22, go_sem]) rfl ⟨rfl, (((Below.refl _ _).alloc (Nat.le_refl _) _).alloc (by simp) _).alloc (by simp; omega) _⟩

theorem Tryd.infoLesson : (Tryd.prog.info? 31).map (fun i => (i.zero, i.size, i.bytes)) = some (some (.agg #[.int .i64 0, .int .i64 0, .int .i64 0, .int .i64 0, .int .i64 0, .int .i64 0, .int .i64 0]), 7, 56) := by kernel_rfl

def mkLes (k : Int) : Les := { id := k, cls := k + 1, tch := k + 1 + 1, room := k + 1 + 1 + 1, day := k + 1 + 1 + 1 + 1, bgn := k + 1 + 1 + 1 + 1 + 1, mins := k + 1 + 1 + 1 + 1 + 1 + 1 }
def mksLes (k : Int) (n : Nat) : List Les := (List.range n).map fun (i : Nat) => mkLes (k + 7 * (i : Int))
theorem mksLes_len (k : Int) (n : Nat) : (mksLes k n).length = n := by simp [mksLes]
theorem mksLes_at (k : Int) (n i : Nat) (h : i < (mksLes k n).length) : (mksLes k n)[i] = mkLes (k + 7 * (i : Int)) := by simp [mksLes]

end Go.Proofs.YtblbeoeklkcamaaDoor
