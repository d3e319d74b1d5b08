/- The program's course on a frame; what its tests answer, as letters. -/
import Derived.Test.YtocaiddpeoimhaaKf
import Derived.Test.YtocaiddpeoimhaaKl
import Derived.Test.YtocaiddpeoimhaaMade
import Derived.Test.YtocaiddpeoimhaaSet
namespace Go.Proofs.Ytocaiddpeoimhaa
set_option linter.unusedVariables false
open Go.RowKit

theorem bl_set4 {w0 w : World} {B g : Nat} (h : Below B w0 w) (hg : B ≤ g) (x0 x1 x2 x3 : Value) : Below B w0 ((((w.setCell ⟨g, 0, none⟩ x0).setCell ⟨g, 1, none⟩ x1).setCell ⟨g, 2, none⟩ x2).setCell ⟨g, 3, none⟩ x3) := ((((h.setCell (p := ⟨g, 0, none⟩) hg x0).setCell (p := ⟨g, 1, none⟩) hg x1).setCell (p := ⟨g, 2, none⟩) hg x2).setCell (p := ⟨g, 3, none⟩) hg x3)
theorem own_set4 {w : World} {B : Nat} {e : TypeId} {size : Nat} {v : Value} {n : Nat} {xs : List Value} {g : Nat} (h : w.ownsRow B e size v n xs) (hg : g < B) (x0 x1 x2 x3 : Value) : ((((w.setCell ⟨g, 0, none⟩ x0).setCell ⟨g, 1, none⟩ x1).setCell ⟨g, 2, none⟩ x2).setCell ⟨g, 3, none⟩ x3).ownsRow B e size v n xs := (ownsRow_setCell_below (ownsRow_setCell_below (ownsRow_setCell_below (ownsRow_setCell_below h (a := ⟨g, 0, none⟩) hg x0) (a := ⟨g, 1, none⟩) hg x1) (a := ⟨g, 2, none⟩) hg x2) (a := ⟨g, 3, none⟩) hg x3)
theorem bl_set5 {w0 w : World} {B g : Nat} (h : Below B w0 w) (hg : B ≤ g) (x0 x1 x2 x3 x4 : Value) : Below B w0 (((((w.setCell ⟨g, 0, none⟩ x0).setCell ⟨g, 1, none⟩ x1).setCell ⟨g, 2, none⟩ x2).setCell ⟨g, 3, none⟩ x3).setCell ⟨g, 4, none⟩ x4) := (((((h.setCell (p := ⟨g, 0, none⟩) hg x0).setCell (p := ⟨g, 1, none⟩) hg x1).setCell (p := ⟨g, 2, none⟩) hg x2).setCell (p := ⟨g, 3, none⟩) hg x3).setCell (p := ⟨g, 4, none⟩) hg x4)
theorem own_set5 {w : World} {B : Nat} {e : TypeId} {size : Nat} {v : Value} {n : Nat} {xs : List Value} {g : Nat} (h : w.ownsRow B e size v n xs) (hg : g < B) (x0 x1 x2 x3 x4 : Value) : (((((w.setCell ⟨g, 0, none⟩ x0).setCell ⟨g, 1, none⟩ x1).setCell ⟨g, 2, none⟩ x2).setCell ⟨g, 3, none⟩ x3).setCell ⟨g, 4, none⟩ x4).ownsRow B e size v n xs := (ownsRow_setCell_below (ownsRow_setCell_below (ownsRow_setCell_below (ownsRow_setCell_below (ownsRow_setCell_below h (a := ⟨g, 0, none⟩) hg x0) (a := ⟨g, 1, none⟩) hg x1) (a := ⟨g, 2, none⟩) hg x2) (a := ⟨g, 3, none⟩) hg x3) (a := ⟨g, 4, none⟩) hg x4)
theorem bl_set9 {w0 w : World} {B g : Nat} (h : Below B w0 w) (hg : B ≤ g) (x0 x1 x2 x3 x4 x5 x6 x7 x8 : Value) : Below B w0 (((((((((w.setCell ⟨g, 0, none⟩ x0).setCell ⟨g, 1, none⟩ x1).setCell ⟨g, 2, none⟩ x2).setCell ⟨g, 3, none⟩ x3).setCell ⟨g, 4, none⟩ x4).setCell ⟨g, 5, none⟩ x5).setCell ⟨g, 6, none⟩ x6).setCell ⟨g, 7, none⟩ x7).setCell ⟨g, 8, none⟩ x8) := (((((((((h.setCell (p := ⟨g, 0, none⟩) hg x0).setCell (p := ⟨g, 1, none⟩) hg x1).setCell (p := ⟨g, 2, none⟩) hg x2).setCell (p := ⟨g, 3, none⟩) hg x3).setCell (p := ⟨g, 4, none⟩) hg x4).setCell (p := ⟨g, 5, none⟩) hg x5).setCell (p := ⟨g, 6, none⟩) hg x6).setCell (p := ⟨g, 7, none⟩) hg x7).setCell (p := ⟨g, 8, none⟩) hg x8)
theorem own_set9 {w : World} {B : Nat} {e : TypeId} {size : Nat} {v : Value} {n : Nat} {xs : List Value} {g : Nat} (h : w.ownsRow B e size v n xs) (hg : g < B) (x0 x1 x2 x3 x4 x5 x6 x7 x8 : Value) : (((((((((w.setCell ⟨g, 0, none⟩ x0).setCell ⟨g, 1, none⟩ x1).setCell ⟨g, 2, none⟩ x2).setCell ⟨g, 3, none⟩ x3).setCell ⟨g, 4, none⟩ x4).setCell ⟨g, 5, none⟩ x5).setCell ⟨g, 6, none⟩ x6).setCell ⟨g, 7, none⟩ x7).setCell ⟨g, 8, none⟩ x8).ownsRow B e size v n xs := (ownsRow_setCell_below (ownsRow_setCell_below (ownsRow_setCell_below (ownsRow_setCell_below (ownsRow_setCell_below (ownsRow_setCell_below (ownsRow_setCell_below (ownsRow_setCell_below (ownsRow_setCell_below h (a := ⟨g, 0, none⟩) hg x0) (a := ⟨g, 1, none⟩) hg x1) (a := ⟨g, 2, none⟩) hg x2) (a := ⟨g, 3, none⟩) hg x3) (a := ⟨g, 4, none⟩) hg x4) (a := ⟨g, 5, none⟩) hg x5) (a := ⟨g, 6, none⟩) hg x6) (a := ⟨g, 7, none⟩) hg x7) (a := ⟨g, 8, none⟩) hg x8)
open Classical in
theorem stdI_any (up lo : Int) (rs : List (Int × Int)) : ∃ st t0 : Bool, (st = true ↔ goodF up lo rs ∧ stdF rs) ∧ ∀ sv w, RodsR w sv rs → Calls Try.prog 88 #[.agg #[.int .i64 up, .int .i64 lo, sv]] w fun e w' => e = .returned (.tuple #[.bool st, .bool t0]) ∧ Below w.heap.size w w' := by
  by_cases hg : goodF up lo rs
  · refine ⟨decide (stdF rs), true, by simp [hg], fun sv w h => ?_⟩
    obtain ⟨b, hb, hc⟩ := implIsStandard_good up lo sv rs w h hg
    have e : b = decide (stdF rs) := by
      rw [Bool.eq_iff_iff, hb, decide_eq_true_iff]
      exact ⟨fun h' => stdF_of hg h', fun h' => stdF_std h'⟩
    rw [← e]; exact hc
  · exact ⟨false, false, by simp [hg], fun sv w h => implIsStandard_no up lo sv rs w h hg⟩
theorem forI_any (up lo : Int) (r : Nat) (n : Int) (hn : n ≤ 9223372036854775807) : ∃ (fu fl : Int) (qs : List (Int × Int)) (ok : Bool), (ok = true ↔ okFor up lo r n) ∧ (ok = true → fu = up ∧ fl = lo ∧ qs = forR r n) ∧ (ok = false → fu = 0 ∧ fl = 0 ∧ qs = []) ∧ qs.length ≤ 8 ∧
    ∀ w, Calls Try.prog 66 #[.int .i64 up, .int .i64 lo, .int .i64 r, .int .i64 n] w fun e w' => (∃ v, e = .returned (.tuple #[.agg #[.int .i64 fu, .int .i64 fl, v], .bool ok]) ∧ w'.ownsRow w.heap.size 94 2 v qs.length (flat qs)) ∧ Below w.heap.size w w' := by
  by_cases h : okFor up lo r n
  · exact ⟨up, lo, forR r n, true, by simp [h], fun _ => ⟨rfl, rfl, rfl⟩, fun h => (by cases h), by rw [forR_len]; have := h.2.2.1; omega, fun w => implFrameFor_ok up lo r n w h⟩
  · exact ⟨0, 0, [], false, ⟨fun e => (by cases e), fun e => absurd e h⟩, fun h' => (by cases h'), fun _ => ⟨rfl, rfl, rfl⟩, by simp, fun w => implFrameFor_bad up lo r n w hn h⟩
theorem box4_set {w : World} {b : Nat} {x0 x1 x2 x3 : Value} {T : TypeId} (h : w.heap[b]? = some (.cells #[x0, x1, x2, x3] T (0, 0))) (y0 y1 y2 y3 : Value) : ((((w.setCell ⟨b, 0, none⟩ y0).setCell ⟨b, 1, none⟩ y1).setCell ⟨b, 2, none⟩ y2).setCell ⟨b, 3, none⟩ y3).heap[b]? = some (.cells #[y0, y1, y2, y3] T (0, 0)) := by
  have h1 := heap_setCell_same w b 0 _ _ y0 h
  have h2 := heap_setCell_same _ b 1 _ _ y1 h1
  have h3 := heap_setCell_same _ b 2 _ _ y2 h2
  have h4 := heap_setCell_same _ b 3 _ _ y3 h3
  simpa using h4
theorem box5_set {w : World} {b : Nat} {x0 x1 x2 x3 x4 : Value} {T : TypeId} (h : w.heap[b]? = some (.cells #[x0, x1, x2, x3, x4] T (0, 0))) (y0 y1 y2 y3 y4 : Value) : (((((w.setCell ⟨b, 0, none⟩ y0).setCell ⟨b, 1, none⟩ y1).setCell ⟨b, 2, none⟩ y2).setCell ⟨b, 3, none⟩ y3).setCell ⟨b, 4, none⟩ y4).heap[b]? = some (.cells #[y0, y1, y2, y3, y4] T (0, 0)) := by
  have h1 := heap_setCell_same w b 0 _ _ y0 h
  have h2 := heap_setCell_same _ b 1 _ _ y1 h1
  have h3 := heap_setCell_same _ b 2 _ _ y2 h2
  have h4 := heap_setCell_same _ b 3 _ _ y3 h3
  have h5 := heap_setCell_same _ b 4 _ _ y4 h4
  simpa using h5
end Go.Proofs.Ytocaiddpeoimhaa
