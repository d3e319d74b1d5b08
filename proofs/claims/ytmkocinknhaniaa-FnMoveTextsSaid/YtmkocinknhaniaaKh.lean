/- Parts laid as one: Lst, Dstd, Dadd, Daddn, Daddm, Vmv. -/
import Derived.Test.YtmkocinknhaniaaKa
import Derived.Test.YtmkocinknhaniaaDfrm
import Derived.Test.YtmkocinknhaniaaKl
import Derived.Test.YtmkocinknhaniaaOwn
import Derived.Test.YtmkocinknhaniaaKg
import Derived.Test.YtmkocinknhaniaaKx
import Derived.Test.YtmkocinknhaniaaBeadMoves
import Derived.BigRegion
import Derived.Tactics
import Derived.Tactics2
import Derived.StillTactics
import Derived.Laws.Pointers
import Derived.Laws.Small
import Derived.Laws.StructEq
import Derived.Laws.Tables
import Derived.Laws.Cover2
/-! Lst -/
namespace Go.Proofs.Ytmkocinknhaniaa
set_option linter.unusedVariables false
open Go.RowKit

set_option maxRecDepth 100000 in
set_option maxHeartbeats 400000 in
theorem l1Least_any (x y : Int) (w : World) :
    Calls Try.prog 52 #[.int .i64 x, .int .i64 y] w fun e w' => e = .returned (.int .i64 (if x < y then x else y)) ∧ w' = w := by
  by_cases h : x < y
  · rw [if_pos h]
    go_enter Try.func52, Try.ntmps52
    go_wp2_with fail
    go_ret
    exact ⟨rfl, rfl⟩
  · rw [if_neg h]
    go_enter Try.func52, Try.ntmps52
    go_wp2_with fail
    go_ret
    exact ⟨rfl, rfl⟩
set_option maxRecDepth 100000 in
set_option maxHeartbeats 400000 in
theorem l1Most_any (x y : Int) (w : World) :
    Calls Try.prog 49 #[.int .i64 x, .int .i64 y] w fun e w' => e = .returned (.int .i64 (if y < x then x else y)) ∧ w' = w := by
  by_cases h : y < x
  · rw [if_pos h]
    go_enter Try.func49, Try.ntmps49
    go_wp2_with fail
    go_ret
    exact ⟨rfl, rfl⟩
  · rw [if_neg h]
    go_enter Try.func49, Try.ntmps49
    go_wp2_with fail
    go_ret
    exact ⟨rfl, rfl⟩
end Go.Proofs.Ytmkocinknhaniaa

/-! Dstd -/
namespace Go.Proofs.Ytmkocinknhaniaa
set_option linter.unusedVariables false
open Go.RowKit

theorem FrAt.setRod {w wi : World} {cb : Nat} {cd : Value} {n F : Nat} {up lo : Int} {g cap : Nat} {rs : List (Int × Int)} {x y : Int} (h : FrAt w wi cb cd n F up lo g cap rs) (hcb : cb < w.heap.size) (q : Nat) (hq : q < rs.length) :
    FrAt w ((wi.setCell ⟨g, q * 2, none⟩ (.int .i64 x)).setCell ⟨g, q * 2 + 1, none⟩ (.int .i64 y)) cb cd n F up lo g cap (rs.set q (x, y)) := by
  have hne := h.gne
  obtain ⟨h1, h2, h3, h4, h5, h6⟩ := h
  have hle : (rs.set q (x, y)).length = rs.length := by simp
  have hfl : ((flat rs).set (q * 2) (.int .i64 x)).set (q * 2 + 1) (.int .i64 y) = flat (rs.set q (x, y)) := flat_set rs q hq (x, y)
  unfold FrAt
  rw [hle, ← hfl]
  refine ⟨grown_set_new (grown_set_new h1 _ _ _ (by omega)) _ _ _ (by omega), (h2.set _ _ _ (by omega)).set _ _ _ (by omega), (heap_setCell_other _ ⟨g, q * 2 + 1, none⟩ _ _ (by show _ ≠ g; omega)).trans ((heap_setCell_other _ ⟨g, q * 2, none⟩ _ _ (by show _ ≠ g; omega)).trans h3), (heap_setCell_other _ ⟨g, q * 2 + 1, none⟩ _ _ (by show _ ≠ g; exact fun e => hne.1 e.symm)).trans ((heap_setCell_other _ ⟨g, q * 2, none⟩ _ _ (by show _ ≠ g; exact fun e => hne.1 e.symm)).trans h4), ((h5.stored (q * 2) _).1.stored (q * 2 + 1) _).1, h6⟩
def stdZ : List Int := [0, 1, 3, 4, 5, 8, 9, 9]
theorem stdZ_bd : ∀ z ∈ stdZ, 0 ≤ z ∧ z ≤ 9 := by decide

end Go.Proofs.Ytmkocinknhaniaa

/-! Dadd -/
namespace Go.Proofs.Ytmkocinknhaniaa
set_option linter.unusedVariables false
open Go.RowKit
set_option linter.unusedSimpArgs false

end Go.Proofs.Ytmkocinknhaniaa

/-! Daddn -/
namespace Go.Proofs.Ytmkocinknhaniaa
set_option linter.unusedVariables false
open Go.RowKit
set_option linter.unusedSimpArgs false

end Go.Proofs.Ytmkocinknhaniaa

/-! Daddm -/
namespace Go.Proofs.Ytmkocinknhaniaa
set_option linter.unusedVariables false
open Go.RowKit
set_option linter.unusedSimpArgs false

end Go.Proofs.Ytmkocinknhaniaa

/-! Vmv -/
namespace Go.Proofs.Ytmkocinknhaniaa
set_option linter.unusedVariables false
open Go.RowKit

set_option maxRecDepth 100000 in
set_option maxHeartbeats 800000 in
theorem vMoves_yes (v1 v2 : Value) (ps : List Mv) (w : World) (h1 : RowsR 3 mvC w v1 ps) (h2 : RowsR 3 mvC w v2 ps) :
    Calls Try.prog 9 #[v1, v2] w fun e w' => e = .returned (.bool true) ∧ Below w.heap.size w w' := by
  have hm : ps.length ≤ 9223372036854775807 := by obtain ⟨_, _, _, ⟨m, _⟩, _⟩ := h1; exact m
  obtain ⟨a1, c1, rfl⟩ := h1.form
  obtain ⟨a2, c2, rfl⟩ := h2.form
  have R1 := Lib.hid h1.at
  have R2 := Lib.hid h2.at
  clear h1 h2
  go_enter Try.func9, Try.ntmps9
  go_wp2_with fail
  go_loopw [5] (fun i wr => ∃ k : Nat, k ≤ ps.length ∧ i = .int .i64 k ∧ Below w.heap.size w wr) (fun i _ => ps.length - (intOf i).toNat)
  case atStart => exact ⟨0, Nat.zero_le _, rfl, Below.refl _ _⟩
  case round =>
    obtain ⟨k, hk, rfl, hb⟩ := hrel
    by_cases hlt : k < ps.length
    · obtain ⟨b1, o1, rfl, l1, k1⟩ := R1.out _ hb k hlt
      obtain ⟨b2, o2, rfl, l2, k2⟩ := R2.out _ hb k hlt
      have p0 : wr.cell? ⟨b1, o1 + k * 3, none⟩ = some (.int .i64 ps[k].rod) := k1 0 (by omega)
      have q0 : wr.cell? ⟨b2, o2 + k * 3, none⟩ = some (.int .i64 ps[k].rod) := k2 0 (by omega)
      have p1 : wr.cell? ⟨b1, o1 + k * 3 + 1, none⟩ = some (.int .i64 ps[k].part) := k1 1 (by omega)
      have q1 : wr.cell? ⟨b2, o2 + k * 3 + 1, none⟩ = some (.int .i64 ps[k].part) := k2 1 (by omega)
      have p2 : wr.cell? ⟨b1, o1 + k * 3 + 2, none⟩ = some (.int .i64 ps[k].amt) := k1 2 (by omega)
      have q2 : wr.cell? ⟨b2, o2 + k * 3 + 2, none⟩ = some (.int .i64 ps[k].amt) := k2 2 (by omega)
      have z1 : (0 : Int) ≤ (k : Int) := by omega
      have z2 : (k : Int) < (ps.length : Int) := by omega
      clear k1 k2
      generalize ps[k].rod = x0 at p0 q0
      generalize ps[k].part = x1 at p1 q1
      generalize ps[k].amt = x2 at p2 q2
      go_wp2_with fail
      go_region
      have hb2 := hb.drew
      clear p0 q0 p1 q1 p2 q2
      go_wp2_with fail
      go_roundw
      case rel => exact ⟨k + 1, by omega, by go_num, hb2⟩
      case measure => simp [intOf]; omega
    · go_wp2_with fail
      go_ret
      exact ⟨rfl, hb⟩
end Go.Proofs.Ytmkocinknhaniaa
