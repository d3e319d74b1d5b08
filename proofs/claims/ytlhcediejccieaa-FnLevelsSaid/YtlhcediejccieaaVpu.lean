/- Pupils and numbers told equal by the laws with draws; a number sought in a list. -/
import Derived.Test.YtlhcediejccieaaPupils
import Derived.Test.YtlhcediejccieaaInts
import Derived.Test.YtlhcediejccieaaKa
import Derived.Laws.StructEq
import Derived.BigRegion
import Derived.Tactics
import Derived.Tactics2
import Derived.StillTactics
import Derived.Laws.Pointers
import Derived.Laws.Small
import Derived.Laws.Tables
import Derived.Laws.Cover2
namespace Go.Proofs.Ytlhcediejccieaa
set_option linter.unusedVariables false
open Go.RowKit
set_option linter.unusedSimpArgs false

set_option maxRecDepth 100000 in
set_option maxHeartbeats 400000 in
theorem rBig_any (ad : Option Addr) (n cp : Nat) (w : World) (r : Bool) (hr : decide ((65536 : Int) < (n : Int)) = r) :
    Calls Try.prog 5 #[.slice ad n cp] w fun e w' => e = .returned (.bool r) ∧ w' = w := by
  subst hr
  go_enter Try.func5, Try.ntmps5
  go_wp2
  go_ret
  exact ⟨by simp, rfl⟩

set_option maxRecDepth 100000 in
set_option maxHeartbeats 800000 in
theorem rInts_yes (v1 v2 : Value) (ps : List Int) (w : World) (h1 : RowsR 1 inC w v1 ps) (h2 : RowsR 1 inC w v2 ps) :
    Calls Try.prog 9 #[v1, v2] w fun e w' => e = .returned (.bool true) ∧ Below w.heap.size w w' := by
  have hm : ps.length ≤ 9223372036854775807 := by obtain ⟨_, _, _, ⟨m, _⟩, _⟩ := h1; exact m
  obtain ⟨a1, c1, rfl⟩ := h1.form
  obtain ⟨a2, c2, rfl⟩ := h2.form
  have R1 := Lib.hid h1.at
  have R2 := Lib.hid h2.at
  clear h1 h2
  go_enter Try.func9, Try.ntmps9
  go_wp2_with fail
  go_loopw [5] (fun i wr => ∃ k : Nat, k ≤ ps.length ∧ i = .int .i64 k ∧ Below w.heap.size w wr) (fun i _ => ps.length - (intOf i).toNat)
  case atStart => exact ⟨0, Nat.zero_le _, rfl, Below.refl _ _⟩
  case round =>
    obtain ⟨k, hk, rfl, hb⟩ := hrel
    by_cases hlt : k < ps.length
    · obtain ⟨b1, o1, rfl, l1, k1⟩ := R1.out _ hb k hlt
      obtain ⟨b2, o2, rfl, l2, k2⟩ := R2.out _ hb k hlt
      have p0 : wr.cell? ⟨b1, o1 + k, none⟩ = some (.int .i64 ps[k]) := by have := k1 0 (by omega); simpa [inC] using this
      have q0 : wr.cell? ⟨b2, o2 + k, none⟩ = some (.int .i64 ps[k]) := by have := k2 0 (by omega); simpa [inC] using this
      have z1 : (0 : Int) ≤ (k : Int) := by omega
      have z2 : (k : Int) < (ps.length : Int) := by omega
      clear k1 k2
      generalize ps[k] = x0 at p0 q0
      go_wp2_with fail
      go_region
      have hb2 := hb.drew
      clear p0 q0
      go_wp2_with fail
      go_roundw
      case rel => exact ⟨k + 1, by omega, by go_num, hb2⟩
      case measure => simp [intOf]; omega
    · go_wp2_with fail
      go_ret
      exact ⟨rfl, hb⟩

set_option maxRecDepth 100000 in
set_option maxHeartbeats 1600000 in
theorem rHas_any (v : Value) (xs : List Int) (x : Int) (r : Bool) (w : World) (h : RowsR 1 inC w v xs) (hr : r = true ↔ x ∈ xs) :
    Calls Try.prog 11 #[v, .int .i64 x] w fun e w' => e = .returned (.bool r) ∧ Below w.heap.size w w' := by
  have hm : xs.length ≤ 9223372036854775807 := by obtain ⟨_, _, _, ⟨m, _⟩, _⟩ := h; exact m
  obtain ⟨a1, c1, rfl⟩ := h.form
  have R1 := Lib.hid h.at
  have HRR := Lib.hid hr
  clear h hr
  go_enter Try.func11, Try.ntmps11
  go_wp2_with fail
  go_loopw [5] (fun i wr => ∃ k : Nat, k ≤ xs.length ∧ i = .int .i64 k ∧ (∀ j (hj : j < xs.length), j < k → xs[j] ≠ x) ∧ Below w.heap.size w wr) (fun i _ => xs.length - (intOf i).toNat)
  case atStart => exact ⟨0, Nat.zero_le _, rfl, fun j _ h => absurd h (Nat.not_lt_zero _), Below.refl _ _⟩
  case round =>
    obtain ⟨k, hk, rfl, hpre, hb⟩ := hrel
    have HPRE := Lib.hid hpre
    clear hpre
    by_cases hlt : k < xs.length
    · obtain ⟨b1, o1, rfl, l1, k1⟩ := R1.out _ hb k hlt
      have p0 : wr.cell? ⟨b1, o1 + k, none⟩ = some (.int .i64 xs[k]) := by have := k1 0 (by omega); simpa [inC] using this
      have z1 : (0 : Int) ≤ (k : Int) := by omega
      have z2 : (k : Int) < (xs.length : Int) := by omega
      obtain ⟨y, hy⟩ : ∃ y, xs[k] = y := ⟨_, rfl⟩
      have HY := Lib.hid hy
      rw [hy] at p0
      clear k1 hy
      by_cases he : y = x
      · have e1 : (y == x) = true := by simp [he]
        have hrt : r = true := HRR.out.2 (by rw [← he, ← HY.out]; exact List.getElem_mem hlt)
        subst hrt
        go_wp2_with fail
        go_ret
        exact ⟨rfl, hb⟩
      · have e1 : (y == x) = false := beq_eq_false_iff_ne.2 he
        go_wp2_with fail
        go_roundw
        case rel => exact ⟨k + 1, by omega, by go_num, fun j hj hlt2 => by rcases Nat.lt_succ_iff_lt_or_eq.1 hlt2 with h1 | h1; exact HPRE.out j hj h1; subst h1; rw [HY.out]; exact he, hb⟩
        case measure => simp [intOf]; omega
    · have hrf : r = false := by
        refine Bool.eq_false_iff.2 fun h => ?_
        obtain ⟨j, hj, e⟩ := List.mem_iff_getElem.1 (HRR.out.1 h)
        exact HPRE.out j hj (by omega) e
      subst hrf
      go_wp2_with fail
      go_ret
      exact ⟨rfl, hb⟩
set_option maxRecDepth 100000 in
set_option maxHeartbeats 1600000 in
theorem rPupils_yes (v1 v2 : Value) (ps : List Pu) (w : World) (h1 : RowsR 5 puC w v1 ps) (h2 : RowsR 5 puC w v2 ps) :
    Calls Try.prog 16 #[v1, v2] w fun e w' => e = .returned (.bool true) ∧ Below w.heap.size w w' := by
  have hm : ps.length ≤ 9223372036854775807 := by obtain ⟨_, _, _, ⟨m, _⟩, _⟩ := h1; exact m
  obtain ⟨a1, c1, rfl⟩ := h1.form
  obtain ⟨a2, c2, rfl⟩ := h2.form
  have R1 := Lib.hid h1.at
  have R2 := Lib.hid h2.at
  clear h1 h2
  go_enter Try.func16, Try.ntmps16
  go_wp2_with fail
  go_loopw [5] (fun i wr => ∃ k : Nat, k ≤ ps.length ∧ i = .int .i64 k ∧ Below w.heap.size w wr) (fun i _ => ps.length - (intOf i).toNat)
  case atStart => exact ⟨0, Nat.zero_le _, rfl, Below.refl _ _⟩
  case round =>
    obtain ⟨k, hk, rfl, hb⟩ := hrel
    by_cases hlt : k < ps.length
    · obtain ⟨b1, o1, rfl, l1, k1⟩ := R1.out _ hb k hlt
      obtain ⟨b2, o2, rfl, l2, k2⟩ := R2.out _ hb k hlt
      have p0 : wr.cell? ⟨b1, o1 + k * 5, none⟩ = some (.int .i64 ps[k].id) := k1 0 (by omega)
      have q0 : wr.cell? ⟨b2, o2 + k * 5, none⟩ = some (.int .i64 ps[k].id) := k2 0 (by omega)
      have p1 : wr.cell? ⟨b1, o1 + k * 5 + 1, none⟩ = some (.string ps[k].name) := k1 1 (by omega)
      have q1 : wr.cell? ⟨b2, o2 + k * 5 + 1, none⟩ = some (.string ps[k].name) := k2 1 (by omega)
      have p2 : wr.cell? ⟨b1, o1 + k * 5 + 2, none⟩ = some (.int .i64 ps[k].born) := k1 2 (by omega)
      have q2 : wr.cell? ⟨b2, o2 + k * 5 + 2, none⟩ = some (.int .i64 ps[k].born) := k2 2 (by omega)
      have p3 : wr.cell? ⟨b1, o1 + k * 5 + 3, none⟩ = some (.int .i64 ps[k].cls) := k1 3 (by omega)
      have q3 : wr.cell? ⟨b2, o2 + k * 5 + 3, none⟩ = some (.int .i64 ps[k].cls) := k2 3 (by omega)
      have p4 : wr.cell? ⟨b1, o1 + k * 5 + 4, none⟩ = some (.int .i64 ps[k].lvl) := k1 4 (by omega)
      have q4 : wr.cell? ⟨b2, o2 + k * 5 + 4, none⟩ = some (.int .i64 ps[k].lvl) := k2 4 (by omega)
      have z1 : (0 : Int) ≤ (k : Int) := by omega
      have z2 : (k : Int) < (ps.length : Int) := by omega
      clear k1 k2
      generalize ps[k].id = x0 at p0 q0
      generalize ps[k].name = x1 at p1 q1
      generalize ps[k].born = x2 at p2 q2
      generalize ps[k].cls = x3 at p3 q3
      generalize ps[k].lvl = x4 at p4 q4
      have hs1 : (x1.toList == x1.toList) = true := by simp
      go_wp2_with fail
      go_region
      have hb2 := hb.drew
      clear p0 q0 p1 q1 p2 q2 p3 q3 p4 q4
      go_wp2_with fail
      go_roundw
      case rel => exact ⟨k + 1, by omega, by go_num, hb2⟩
      case measure => simp [intOf]; omega
    · go_wp2_with fail
      go_ret
      exact ⟨rfl, hb⟩
end Go.Proofs.Ytlhcediejccieaa
