/- Lessons told equal by the laws with draws; the sum of a row. -/
import Derived.Test.YtblbeoeklkcamaaDoorVle
import Derived.Test.YtblbeoeklkcamaaDoorLessons
import Derived.Test.YtblbeoeklkcamaaDoorKa
namespace Go.Proofs.YtblbeoeklkcamaaDoor
set_option linter.unusedVariables false
open Go.RowKit
set_option linter.unusedSimpArgs false

set_option maxRecDepth 100000 in
set_option maxHeartbeats 1600000 in
theorem rSum2_any (v : Value) (t m : Int) (w : World) (h : RowsR 1 inC w v [t, m]) (ht : 0 ≤ t ∧ t ≤ 1000) (hm : 0 ≤ m ∧ m ≤ 10000) :
    Calls Tryd.prog 10 #[v] w fun e w' => e = .returned (.int .i64 (t + m)) ∧ Below w.heap.size w w' := by
  obtain ⟨a1, c1, rfl⟩ := h.form
  have R1 := Lib.hid h.at
  clear h
  go_enter Tryd.func10, Tryd.ntmps10
  go_wp2_with fail
  go_loopw [3, 4] (fun s i wr => ∃ (k : Nat) (y : Int), k ≤ 2 ∧ i = .int .i64 k ∧ s = .int .i64 y ∧ (k = 0 → y = 0) ∧ (k = 1 → y = t) ∧ (k = 2 → y = t + m) ∧ Below w.heap.size w wr) (fun _ i _ => 2 - (intOf i).toNat)
  case atStart => exact ⟨0, 0, by omega, rfl, rfl, fun _ => rfl, fun h => by omega, fun h => by omega, Below.refl _ _⟩
  case round =>
    obtain ⟨k, y, hk, rfl, rfl, e0, e1, e2, hb⟩ := hrel
    rcases (by omega : k = 0 ∨ k = 1 ∨ k = 2) with rfl | rfl | rfl
    · obtain rfl := e0 rfl
      obtain ⟨b1, o1, rfl, l1, k1⟩ := R1.out _ hb 0 (by simp)
      have p0 : wr.cell? ⟨b1, o1, none⟩ = some (.int .i64 t) := by have := k1 0 (by omega); simpa [inC] using this
      have hw : IntKind.i64.wrap (0 + t) = t := by rw [IntKind.wrap_i64]; omega
      have hw2 : IntKind.i64.wrap t = t := by rw [IntKind.wrap_i64]; omega
      clear k1 e0 e1 e2
      go_wp2_with fail
      go_roundw
      case rel => exact ⟨1, t, by omega, rfl, rfl, fun h => by omega, fun _ => rfl, fun h => by omega, hb⟩
      case measure => simp [intOf]
    · obtain rfl := e1 rfl
      obtain ⟨b1, o1, rfl, l1, k1⟩ := R1.out _ hb 1 (by simp)
      have p0 : wr.cell? ⟨b1, o1 + 1, none⟩ = some (.int .i64 m) := by have := k1 0 (by omega); simpa [inC] using this
      have hw : IntKind.i64.wrap (y + m) = y + m := by rw [IntKind.wrap_i64]; omega
      clear k1 e0 e1 e2
      go_wp2_with fail
      go_roundw
      case rel => exact ⟨2, y + m, by omega, rfl, rfl, fun h => by omega, fun h => by omega, fun _ => rfl, hb⟩
      case measure => simp [intOf]
    · obtain rfl := e2 rfl
      clear e0 e1 e2
      go_wp2_with fail
      go_ret
      exact ⟨rfl, hb⟩
set_option maxRecDepth 100000 in
set_option maxHeartbeats 1600000 in
theorem rLessons_yes (v1 v2 : Value) (ps : List Les) (w : World) (h1 : RowsR 7 lesC w v1 ps) (h2 : RowsR 7 lesC w v2 ps) :
    Calls Tryd.prog 14 #[v1, v2] w fun e w' => e = .returned (.bool true) ∧ Below w.heap.size w w' := by
  have hm : ps.length ≤ 9223372036854775807 := by obtain ⟨_, _, _, ⟨m, _⟩, _⟩ := h1; exact m
  obtain ⟨a1, c1, rfl⟩ := h1.form
  obtain ⟨a2, c2, rfl⟩ := h2.form
  have R1 := Lib.hid h1.at
  have R2 := Lib.hid h2.at
  clear h1 h2
  go_enter Tryd.func14, Tryd.ntmps14
  go_wp2_with fail
  go_loopw [5] (fun i wr => ∃ k : Nat, k ≤ ps.length ∧ i = .int .i64 k ∧ Below w.heap.size w wr) (fun i _ => ps.length - (intOf i).toNat)
  case atStart => exact ⟨0, Nat.zero_le _, rfl, Below.refl _ _⟩
  case round =>
    obtain ⟨k, hk, rfl, hb⟩ := hrel
    by_cases hlt : k < ps.length
    · obtain ⟨b1, o1, rfl, l1, k1⟩ := R1.out _ hb k hlt
      obtain ⟨b2, o2, rfl, l2, k2⟩ := R2.out _ hb k hlt
      have p0 : wr.cell? ⟨b1, o1 + k * 7, none⟩ = some (.int .i64 ps[k].id) := k1 0 (by omega)
      have q0 : wr.cell? ⟨b2, o2 + k * 7, none⟩ = some (.int .i64 ps[k].id) := k2 0 (by omega)
      have p1 : wr.cell? ⟨b1, o1 + k * 7 + 1, none⟩ = some (.int .i64 ps[k].cls) := k1 1 (by omega)
      have q1 : wr.cell? ⟨b2, o2 + k * 7 + 1, none⟩ = some (.int .i64 ps[k].cls) := k2 1 (by omega)
      have p2 : wr.cell? ⟨b1, o1 + k * 7 + 2, none⟩ = some (.int .i64 ps[k].tch) := k1 2 (by omega)
      have q2 : wr.cell? ⟨b2, o2 + k * 7 + 2, none⟩ = some (.int .i64 ps[k].tch) := k2 2 (by omega)
      have p3 : wr.cell? ⟨b1, o1 + k * 7 + 3, none⟩ = some (.int .i64 ps[k].room) := k1 3 (by omega)
      have q3 : wr.cell? ⟨b2, o2 + k * 7 + 3, none⟩ = some (.int .i64 ps[k].room) := k2 3 (by omega)
      have p4 : wr.cell? ⟨b1, o1 + k * 7 + 4, none⟩ = some (.int .i64 ps[k].day) := k1 4 (by omega)
      have q4 : wr.cell? ⟨b2, o2 + k * 7 + 4, none⟩ = some (.int .i64 ps[k].day) := k2 4 (by omega)
      have p5 : wr.cell? ⟨b1, o1 + k * 7 + 5, none⟩ = some (.int .i64 ps[k].bgn) := k1 5 (by omega)
      have q5 : wr.cell? ⟨b2, o2 + k * 7 + 5, none⟩ = some (.int .i64 ps[k].bgn) := k2 5 (by omega)
      have p6 : wr.cell? ⟨b1, o1 + k * 7 + 6, none⟩ = some (.int .i64 ps[k].mins) := k1 6 (by omega)
      have q6 : wr.cell? ⟨b2, o2 + k * 7 + 6, none⟩ = some (.int .i64 ps[k].mins) := k2 6 (by omega)
      have z1 : (0 : Int) ≤ (k : Int) := by omega
      have z2 : (k : Int) < (ps.length : Int) := by omega
      clear k1 k2
      generalize ps[k].id = x0 at p0 q0
      generalize ps[k].cls = x1 at p1 q1
      generalize ps[k].tch = x2 at p2 q2
      generalize ps[k].room = x3 at p3 q3
      generalize ps[k].day = x4 at p4 q4
      generalize ps[k].bgn = x5 at p5 q5
      generalize ps[k].mins = x6 at p6 q6
      go_wp2_with fail
      go_region
      have hb2 := hb.drew
      clear p0 q0 p1 q1 p2 q2 p3 q3 p4 q4 p5 q5 p6 q6
      go_wp2_with fail
      go_roundw
      case rel => exact ⟨k + 1, by omega, by go_num, hb2⟩
      case measure => simp [intOf]; omega
    · go_wp2_with fail
      go_ret
      exact ⟨rfl, hb⟩
end Go.Proofs.YtblbeoeklkcamaaDoor
