/- Lists of numbers told equal by the laws with draws. -/
import Derived.Test.YtlfplnbmgmookaaInts
import Derived.Test.YtlfplnbmgmookaaKa
import Derived.BigRegion
import Derived.Tactics
import Derived.Tactics2
import Derived.StillTactics
import Derived.Laws.Pointers
import Derived.Laws.Small
import Derived.Laws.Tables
import Derived.Laws.Cover2
namespace Go.Proofs.Ytlfplnbmgmookaa
set_option linter.unusedVariables false
open Go.RowKit
set_option linter.unusedSimpArgs false

set_option maxRecDepth 100000 in
set_option maxHeartbeats 800000 in
theorem vInts_yes (v1 v2 : Value) (ps : List Int) (w : World) (h1 : RowsR 1 inC w v1 ps) (h2 : RowsR 1 inC w v2 ps) :
    Calls Try.prog 29 #[v1, v2] w fun e w' => e = .returned (.bool true) ∧ Below w.heap.size w w' := by
  have hm : ps.length ≤ 9223372036854775807 := by obtain ⟨_, _, _, ⟨m, _⟩, _⟩ := h1; exact m
  obtain ⟨a1, c1, rfl⟩ := h1.form
  obtain ⟨a2, c2, rfl⟩ := h2.form
  have R1 := Lib.hid h1.at
  have R2 := Lib.hid h2.at
  clear h1 h2
  go_enter Try.func29, Try.ntmps29
  go_wp2_with fail
  go_loopw [5] (fun i wr => ∃ k : Nat, k ≤ ps.length ∧ i = .int .i64 k ∧ Below w.heap.size w wr) (fun i _ => ps.length - (intOf i).toNat)
  case atStart => exact ⟨0, Nat.zero_le _, rfl, Below.refl _ _⟩
  case round =>
    obtain ⟨k, hk, rfl, hb⟩ := hrel
    by_cases hlt : k < ps.length
    · obtain ⟨b1, o1, rfl, l1, k1⟩ := R1.out _ hb k hlt
      obtain ⟨b2, o2, rfl, l2, k2⟩ := R2.out _ hb k hlt
      have p0 : wr.cell? ⟨b1, o1 + k, none⟩ = some (.int .i64 ps[k]) := by have := k1 0 (by omega); simpa [inC] using this
      have q0 : wr.cell? ⟨b2, o2 + k, none⟩ = some (.int .i64 ps[k]) := by have := k2 0 (by omega); simpa [inC] using this
      have z1 : (0 : Int) ≤ (k : Int) := by omega
      have z2 : (k : Int) < (ps.length : Int) := by omega
      clear k1 k2
      generalize ps[k] = x0 at p0 q0
      go_wp2_with fail
      go_region
      have hb2 := hb.drew
      clear p0 q0
      go_wp2_with fail
      go_roundw
      case rel => exact ⟨k + 1, by omega, by go_num, hb2⟩
      case measure => simp [intOf]; omega
    · go_wp2_with fail
      go_ret
      exact ⟨rfl, hb⟩

def IsB (f : Nat) (av : Array Value) (w : World) (ms : List Int) (b : Bool) : Prop :=
  Calls Try.prog f av w fun e w' => (∃ v, e = .returned (.tuple #[v, .bool b]) ∧ RowsR 1 inC w' v ms) ∧ Below w.heap.size w w'
theorem ofOwnI {f : Nat} {av : Array Value} {w : World} {ms : List Int} {b : Bool} (h : Calls Try.prog f av w fun e w' => (∃ v, e = .returned (.tuple #[v, .bool b]) ∧ w'.ownsRow w.heap.size 3 1 v ms.length (flatC inC ms)) ∧ Below w.heap.size w w') : IsB f av w ms b :=
  h.mono fun _ _ ⟨⟨v, he, ho⟩, hb⟩ => ⟨⟨v, he, RowsR.of_own inC_len ho⟩, hb⟩
theorem ints_at {w : World} {v : Value} {ps : List Int} (h : RowsR 1 inC w v ps) (i : Nat) (hi : i < ps.length) : ∃ a b off cap, v = .slice a ps.length cap ∧ a = some ⟨b, off, none⟩ ∧ b < w.heap.size ∧ w.cell? ⟨b, off + i, none⟩ = some (.int .i64 ps[i]) := by
  obtain ⟨a, cap, rfl, _, h3⟩ := h
  obtain ⟨b, off, rfl, hb, hc⟩ := h3 (by omega)
  refine ⟨_, b, off, cap, rfl, rfl, hb, ?_⟩
  have := hc i hi 0 (by omega)
  simpa [inC] using this
end Go.Proofs.Ytlfplnbmgmookaa
