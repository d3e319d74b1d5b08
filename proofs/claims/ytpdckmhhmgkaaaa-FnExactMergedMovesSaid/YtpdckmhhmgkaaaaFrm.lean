/- The law's helpers on frames: measure, copy, compare. -/
import Derived.Test.YtpdckmhhmgkaaaaFrl
namespace Go.Proofs.Ytpdckmhhmgkaaaa
set_option linter.unusedVariables false
open Go.RowKit

/-- A frame as a value: its rods are a slice. -/
def frV (up lo : Int) (sv : Value) : Value := .agg #[.int .i64 up, .int .i64 lo, sv]

set_option maxRecDepth 100000 in
set_option maxHeartbeats 800000 in
theorem szFrame_any (up lo left : Int) (sv : Value) (rs : List (Int × Int)) (w : World) (h : RodsR w sv rs) (h0 : 0 ≤ left) (h1 : left ≤ 1048576) :
    Calls Try.prog 15 #[.agg #[.int .i64 up, .int .i64 lo, sv], .int .i64 left] w fun e w' => (∃ r : Int, e = .returned (.int .i64 r) ∧ r ≤ 1048576 ∧ (0 ≤ r → r + rs.length = left)) ∧ Below w.heap.size w w' := by
  obtain ⟨a, c, rfl, ⟨m1, _⟩, _⟩ := h
  unfold maxLen at m1
  by_cases hlt : left < rs.length
  · go_enter Try.func15, Try.ntmps15
    go_wp2
    go_ret
    exact ⟨⟨_, rfl, by omega, fun h => by omega⟩, (Below.refl _ _).alloc (Nat.le_refl _) _⟩
  · go_enter Try.func15, Try.ntmps15
    go_wp2
    go_ret
    exact ⟨⟨_, rfl, by omega, fun h => by omega⟩, (Below.refl _ _).alloc (Nat.le_refl _) _⟩

set_option maxRecDepth 100000 in
set_option maxHeartbeats 800000 in
theorem toFrame_any (up lo : Int) (sv : Value) (rs : List (Int × Int)) (w : World) (h : RodsR w sv rs) (hn : rs.length ≤ 1048576) :
    Calls Try.prog 17 #[.agg #[.int .i64 up, .int .i64 lo, sv]] w fun e w' => (∃ sv', e = .returned (.agg #[.int .i64 up, .int .i64 lo, sv']) ∧ w'.ownsRow w.heap.size 74 2 sv' rs.length (flat rs)) ∧ Below w.heap.size w w' := by
  have HR := Lib.hid h
  obtain ⟨a, c, hv, _, _⟩ := h
  have HV := Lib.hid hv
  clear hv
  go_enter Try.func17, Try.ntmps17
  go_wp2_with fail
  refine (toIntA2S_any sv rs _ (HR.out.below ((((Below.refl _ _).alloc (Nat.le_refl _) _).alloc (by simp) _).alloc (by simp; omega) _) (Nat.le_refl _)) hn).mono ?_
  rintro e w4 ⟨⟨v4, rfl, hown⟩, hb⟩
  have HB : Hid (Below w.heap.size w w4) := Lib.hid (((((Below.refl _ _).alloc (Nat.le_refl _) _).alloc (by simp) _).alloc (by simp; omega) _).trans (hb.mono (by simp; omega)))
  have g1 : w4.heap[w.heap.size + 1]? = some (.cells #[.int .i64 0, .int .i64 0, .slice none 0 0] 28 (0, 0)) := by
    rw [hb.block _ (by simp), alloc_old (by simp), alloc_at (by simp)]
  have g2 : w4.heap[w.heap.size + 1 + 1]? = some (.cells #[.int .i64 up, .int .i64 lo, .slice none 0 0] 28 (0, 0)) := by
    rw [hb.block _ (by simp), alloc_at (by simp)]
  obtain ⟨a0, a1, a2, a3, a4, a5⟩ := cell3 g1
  obtain ⟨b0, b1, b2, b3, b4, b5⟩ := cell3 g2
  obtain ⟨sa, sc, rfl⟩ := own_form hown
  have HO := Lib.hid hown
  clear hown hb g1 g2
  go_wp2_with fail
  refine bodyPost_ret (v := .agg #[.int .i64 up, .int .i64 lo, .slice sa rs.length sc]) (by simp [results, Try.results17, go_sem, a0, a1, a2]) rfl ⟨⟨_, rfl, ?_⟩, ?_⟩
  · exact own_mono (ownsRow_setCell_below (ownsRow_setCell_below (ownsRow_setCell_below (ownsRow_setCell_below HO.out (by simp) _) (by simp) _) (by simp) _) (by simp) _) (by simp; omega)
  · exact (((HB.out.setCell (by simp; omega) _).setCell (by simp) _).setCell (by simp) _).setCell (by simp) _

set_option maxRecDepth 100000 in
set_option maxHeartbeats 800000 in
theorem eqFrame_yes (up lo : Int) (s1 s2 : Value) (rs : List (Int × Int)) (w : World) (h1 : RodsR w s1 rs) (h2 : RodsR w s2 rs) :
    Calls Try.prog 19 #[.agg #[.int .i64 up, .int .i64 lo, s1], .agg #[.int .i64 up, .int .i64 lo, s2]] w fun e w' => e = .returned (.bool true) ∧ Below w.heap.size w w' := by
  have H1 := Lib.hid h1
  have H2 := Lib.hid h2
  clear h1 h2
  go_enter Try.func19, Try.ntmps19
  go_wp2_with fail
  refine (eqIntA2S_yes s1 s2 rs _ (H1.out.below (((Below.refl _ _).alloc (Nat.le_refl _) _).alloc (by simp) _) (Nat.le_refl _)) (H2.out.below (((Below.refl _ _).alloc (Nat.le_refl _) _).alloc (by simp) _) (Nat.le_refl _))).mono ?_
  rintro e w3 ⟨rfl, hb⟩
  go_wp2_with fail
  go_ret
  exact ⟨rfl, (((Below.refl _ _).alloc (Nat.le_refl _) _).alloc (by simp) _).trans (hb.mono (by simp; omega))⟩
end Go.Proofs.Ytpdckmhhmgkaaaa
