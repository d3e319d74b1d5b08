/- Parts laid as one: Mad1, Mad2, Mad3. -/
import Derived.Test.YtocaiddpeoimhaaKd
import Derived.Test.YtocaiddpeoimhaaKz
import Derived.Test.YtocaiddpeoimhaaOwn
import Derived.Deep.AppendLies
import Derived.Test.YtocaiddpeoimhaaKl
import Derived.Deep.RegionHeld3
import Derived.Test.YtocaiddpeoimhaaMade
/-! Mad1 -/
namespace Go.Proofs.Ytocaiddpeoimhaa
set_option linter.unusedVariables false
open Go.RowKit

end Go.Proofs.Ytocaiddpeoimhaa

/-! Mad2 -/
namespace Go.Proofs.Ytocaiddpeoimhaa
set_option linter.unusedVariables false
open Go.RowKit

set_option maxRecDepth 100000 in
set_option maxHeartbeats 1600000 in
theorem l2Std_first (up lo : Int) (sv : Value) (rs : List (Int × Int)) (w : World) (h : RodsR w sv rs) (p : Nat) (hp : p < rs.length) (hpre : ∀ (i : Nat) (h : i < rs.length), i < p → stdR rs[i]) (hx : ¬ stdR rs[p]) :
    Calls Try.prog 67 #[.agg #[.int .i64 up, .int .i64 lo, sv]] w fun e w' => e = .returned (.bool false) ∧ Below w.heap.size w w' := by
  have HRR := Lib.hid h
  obtain ⟨a, cp, rfl, ⟨m1, _⟩, r1⟩ := h
  have R1 := Lib.hid r1
  have S1 := Lib.hid hpre
  have HX := Lib.hid hx
  clear hpre hx
  clear r1; have m1' : rs.length ≤ 9223372036854775807 := m1; clear m1
  go_enter Try.func67, Try.ntmps67
  go_wp2_with fail
  go_loopw [3] (fun i wr => ∃ k : Nat, k ≤ p ∧ i = .int .i64 k ∧ wr.heap[w.heap.size]? = some (.cells #[.int .i64 up, .int .i64 lo, .slice a rs.length cp] 43 (0, 0)) ∧ Below w.heap.size w wr) (fun i _ => rs.length - (intOf i).toNat)
  case atStart => exact ⟨0, Nat.zero_le _, rfl, alloc_at rfl, (Below.refl _ _).alloc (Nat.le_refl _) _⟩
  case round =>
    obtain ⟨k, hk, rfl, hh, hb⟩ := hrel
    obtain ⟨c0, c1, c2, _, _, _⟩ := cell3 hh
    have HH := Lib.hid hh
    have HB := Lib.hid hb
    have hlt : k < rs.length := by omega
    by_cases hkp : k < p
    · obtain ⟨s1, s2⟩ := S1.out k hlt hkp
      obtain ⟨b1, o1, rfl, l1, k1⟩ := R1.out (by intro e; subst e; simp at hlt)
      have p1 := (hb.cell (p := ⟨b1, o1 + k * 2, none⟩) l1).trans (k1 k hlt).1
      have p2 := (hb.cell (p := ⟨b1, o1 + k * 2 + 1, none⟩) l1).trans (k1 k hlt).2
      have z1 : (0 : Int) ≤ (k : Int) := by omega
      have z2 : (k : Int) < (rs.length : Int) := by omega
      clear k1 hh hb
      go_wp2_with fail
      go_roundw
      case rel => exact ⟨k + 1, by omega, by go_num, HH.out, HB.out⟩
      case measure => simp [intOf]; omega
    · have hkp' : k = p := by omega
      subst hkp'
      obtain ⟨b1, o1, rfl, l1, k1⟩ := R1.out (by intro e; subst e; simp at hlt)
      have p1 := (hb.cell (p := ⟨b1, o1 + k * 2, none⟩) l1).trans (k1 k hlt).1
      have p2 := (hb.cell (p := ⟨b1, o1 + k * 2 + 1, none⟩) l1).trans (k1 k hlt).2
      have z1 : (0 : Int) ≤ (k : Int) := by omega
      have z2 : (k : Int) < (rs.length : Int) := by omega
      clear k1 hh hb
      by_cases s1 : rs[k].1 ≤ 1
      · have s2 : 4 < rs[k].2 := by
          rcases Int.lt_or_le 4 rs[k].2 with h | h
          · exact h
          · exact absurd ⟨s1, h⟩ HX.out
        go_wp2_with fail
        go_ret
        exact ⟨rfl, HB.out⟩
      · go_wp2_with fail
        go_ret
        exact ⟨rfl, HB.out⟩
set_option maxRecDepth 100000 in
set_option maxHeartbeats 1600000 in
theorem l2Std_bad (up lo : Int) (sv : Value) (rs : List (Int × Int)) (w : World) (h : RodsR w sv rs) (hg : ¬ goodF up lo rs) (hs : ∀ (i : Nat) (h : i < rs.length), stdR rs[i]) :
    Calls Try.prog 67 #[.agg #[.int .i64 up, .int .i64 lo, sv]] w fun e w' => e = .returned (.bool false) ∧ Below w.heap.size w w' := by
  have HRR := Lib.hid h
  obtain ⟨a, cp, rfl, ⟨m1, _⟩, r1⟩ := h
  have HG := Lib.hid hg
  have R1 := Lib.hid r1
  have S1 := Lib.hid hs
  clear hs
  clear r1; have m1' : rs.length ≤ 9223372036854775807 := m1; clear m1
  go_enter Try.func67, Try.ntmps67
  go_wp2_with fail
  go_loopw [3] (fun i wr => ∃ k : Nat, k ≤ rs.length ∧ i = .int .i64 k ∧ wr.heap[w.heap.size]? = some (.cells #[.int .i64 up, .int .i64 lo, .slice a rs.length cp] 43 (0, 0)) ∧ Below w.heap.size w wr) (fun i _ => rs.length - (intOf i).toNat)
  case atStart => exact ⟨0, Nat.zero_le _, rfl, alloc_at rfl, (Below.refl _ _).alloc (Nat.le_refl _) _⟩
  case round =>
    obtain ⟨k, hk, rfl, hh, hb⟩ := hrel
    obtain ⟨c0, c1, c2, _, _, _⟩ := cell3 hh
    have HH := Lib.hid hh
    have HB := Lib.hid hb
    by_cases hlt : k < rs.length
    · have hs := S1.out k hlt
      obtain ⟨s1, s2⟩ := hs
      obtain ⟨b1, o1, rfl, l1, k1⟩ := R1.out (by intro e; subst e; simp at hlt)
      have p1 := (hb.cell (p := ⟨b1, o1 + k * 2, none⟩) l1).trans (k1 k hlt).1
      have p2 := (hb.cell (p := ⟨b1, o1 + k * 2 + 1, none⟩) l1).trans (k1 k hlt).2
      have z1 : (0 : Int) ≤ (k : Int) := by omega
      have z2 : (k : Int) < (rs.length : Int) := by omega
      clear k1 hh hb
      go_wp2_with fail
      go_roundw
      case rel => exact ⟨k + 1, by omega, by go_num, HH.out, HB.out⟩
      case measure => simp [intOf]; omega
    · have hrr : RodsR wr (.slice a rs.length cp) rs := HRR.out.below HB.out (Nat.le_refl _)
      clear hh hb
      go_wp2_with fail
      refine (l2Good_no up lo _ rs _ hrr HG.out).mono ?_
      rintro e w3 ⟨rfl, hb3⟩
      go_wp2_with fail
      go_ret
      exact ⟨rfl, HB.out.trans (hb3.mono HB.out.size)⟩
theorem l2Std_any (up lo : Int) (sv : Value) (rs : List (Int × Int)) (w : World) (h : RodsR w sv rs) (b : Bool) (hb : b = true ↔ goodF up lo rs ∧ stdF rs) :
    Calls Try.prog 67 #[.agg #[.int .i64 up, .int .i64 lo, sv]] w fun e w' => e = .returned (.bool b) ∧ Below w.heap.size w w' := by
  obtain ⟨p, hp, hpre, hx⟩ := first_bad rs.length (fun i h => stdR rs[i])
  by_cases hlt : p < rs.length
  · have : b = false := by
      cases b with
      | false => rfl
      | true => exact absurd (stdF_std (hb.1 rfl).2 p hlt) (hx hlt)
    subst this
    exact l2Std_first up lo sv rs w h p hlt hpre (hx hlt)
  · have hall : ∀ i (h : i < rs.length), stdR rs[i] := fun i hi => hpre i hi (by omega)
    by_cases hg : goodF up lo rs
    · obtain rfl : b = true := hb.2 ⟨hg, stdF_of hg hall⟩
      exact l2Standard_yes up lo sv rs w h hg hall
    · have : b = false := by
        cases b with
        | false => rfl
        | true => exact absurd (hb.1 rfl).1 hg
      subst this
      exact l2Std_bad up lo sv rs w h hg hall

end Go.Proofs.Ytocaiddpeoimhaa

/-! Mad3 -/
namespace Go.Proofs.Ytocaiddpeoimhaa
set_option linter.unusedVariables false
open Go.RowKit

end Go.Proofs.Ytocaiddpeoimhaa
