/- The program's course on a frame; what its tests answer, as letters. -/
import Derived.Test.YthmbehknacjodaaKf
import Derived.Test.YthmbehknacjodaaKl
import Derived.Test.YthmbehknacjodaaMade
import Derived.Test.YthmbehknacjodaaSet
namespace Go.Proofs.Ythmbehknacjodaa
set_option linter.unusedVariables false
open Go.RowKit

theorem bl_set4 {w0 w : World} {B g : Nat} (h : Below B w0 w) (hg : B ≤ g) (x0 x1 x2 x3 : Value) : Below B w0 ((((w.setCell ⟨g, 0, none⟩ x0).setCell ⟨g, 1, none⟩ x1).setCell ⟨g, 2, none⟩ x2).setCell ⟨g, 3, none⟩ x3) := ((((h.setCell (p := ⟨g, 0, none⟩) hg x0).setCell (p := ⟨g, 1, none⟩) hg x1).setCell (p := ⟨g, 2, none⟩) hg x2).setCell (p := ⟨g, 3, none⟩) hg x3)
theorem own_set4 {w : World} {B : Nat} {e : TypeId} {size : Nat} {v : Value} {n : Nat} {xs : List Value} {g : Nat} (h : w.ownsRow B e size v n xs) (hg : g < B) (x0 x1 x2 x3 : Value) : ((((w.setCell ⟨g, 0, none⟩ x0).setCell ⟨g, 1, none⟩ x1).setCell ⟨g, 2, none⟩ x2).setCell ⟨g, 3, none⟩ x3).ownsRow B e size v n xs := (ownsRow_setCell_below (ownsRow_setCell_below (ownsRow_setCell_below (ownsRow_setCell_below h (a := ⟨g, 0, none⟩) hg x0) (a := ⟨g, 1, none⟩) hg x1) (a := ⟨g, 2, none⟩) hg x2) (a := ⟨g, 3, none⟩) hg x3)
theorem bl_set5 {w0 w : World} {B g : Nat} (h : Below B w0 w) (hg : B ≤ g) (x0 x1 x2 x3 x4 : Value) : Below B w0 (((((w.setCell ⟨g, 0, none⟩ x0).setCell ⟨g, 1, none⟩ x1).setCell ⟨g, 2, none⟩ x2).setCell ⟨g, 3, none⟩ x3).setCell ⟨g, 4, none⟩ x4) := (((((h.setCell (p := ⟨g, 0, none⟩) hg x0).setCell (p := ⟨g, 1, none⟩) hg x1).setCell (p := ⟨g, 2, none⟩) hg x2).setCell (p := ⟨g, 3, none⟩) hg x3).setCell (p := ⟨g, 4, none⟩) hg x4)
theorem own_set5 {w : World} {B : Nat} {e : TypeId} {size : Nat} {v : Value} {n : Nat} {xs : List Value} {g : Nat} (h : w.ownsRow B e size v n xs) (hg : g < B) (x0 x1 x2 x3 x4 : Value) : (((((w.setCell ⟨g, 0, none⟩ x0).setCell ⟨g, 1, none⟩ x1).setCell ⟨g, 2, none⟩ x2).setCell ⟨g, 3, none⟩ x3).setCell ⟨g, 4, none⟩ x4).ownsRow B e size v n xs := (ownsRow_setCell_below (ownsRow_setCell_below (ownsRow_setCell_below (ownsRow_setCell_below (ownsRow_setCell_below h (a := ⟨g, 0, none⟩) hg x0) (a := ⟨g, 1, none⟩) hg x1) (a := ⟨g, 2, none⟩) hg x2) (a := ⟨g, 3, none⟩) hg x3) (a := ⟨g, 4, none⟩) hg x4)
theorem bl_set9 {w0 w : World} {B g : Nat} (h : Below B w0 w) (hg : B ≤ g) (x0 x1 x2 x3 x4 x5 x6 x7 x8 : Value) : Below B w0 (((((((((w.setCell ⟨g, 0, none⟩ x0).setCell ⟨g, 1, none⟩ x1).setCell ⟨g, 2, none⟩ x2).setCell ⟨g, 3, none⟩ x3).setCell ⟨g, 4, none⟩ x4).setCell ⟨g, 5, none⟩ x5).setCell ⟨g, 6, none⟩ x6).setCell ⟨g, 7, none⟩ x7).setCell ⟨g, 8, none⟩ x8) := (((((((((h.setCell (p := ⟨g, 0, none⟩) hg x0).setCell (p := ⟨g, 1, none⟩) hg x1).setCell (p := ⟨g, 2, none⟩) hg x2).setCell (p := ⟨g, 3, none⟩) hg x3).setCell (p := ⟨g, 4, none⟩) hg x4).setCell (p := ⟨g, 5, none⟩) hg x5).setCell (p := ⟨g, 6, none⟩) hg x6).setCell (p := ⟨g, 7, none⟩) hg x7).setCell (p := ⟨g, 8, none⟩) hg x8)
theorem own_set9 {w : World} {B : Nat} {e : TypeId} {size : Nat} {v : Value} {n : Nat} {xs : List Value} {g : Nat} (h : w.ownsRow B e size v n xs) (hg : g < B) (x0 x1 x2 x3 x4 x5 x6 x7 x8 : Value) : (((((((((w.setCell ⟨g, 0, none⟩ x0).setCell ⟨g, 1, none⟩ x1).setCell ⟨g, 2, none⟩ x2).setCell ⟨g, 3, none⟩ x3).setCell ⟨g, 4, none⟩ x4).setCell ⟨g, 5, none⟩ x5).setCell ⟨g, 6, none⟩ x6).setCell ⟨g, 7, none⟩ x7).setCell ⟨g, 8, none⟩ x8).ownsRow B e size v n xs := (ownsRow_setCell_below (ownsRow_setCell_below (ownsRow_setCell_below (ownsRow_setCell_below (ownsRow_setCell_below (ownsRow_setCell_below (ownsRow_setCell_below (ownsRow_setCell_below (ownsRow_setCell_below h (a := ⟨g, 0, none⟩) hg x0) (a := ⟨g, 1, none⟩) hg x1) (a := ⟨g, 2, none⟩) hg x2) (a := ⟨g, 3, none⟩) hg x3) (a := ⟨g, 4, none⟩) hg x4) (a := ⟨g, 5, none⟩) hg x5) (a := ⟨g, 6, none⟩) hg x6) (a := ⟨g, 7, none⟩) hg x7) (a := ⟨g, 8, none⟩) hg x8)
open Classical in
theorem stdI_any (up lo : Int) (rs : List (Int × Int)) : ∃ st t0 : Bool, (st = true ↔ goodF up lo rs ∧ stdF rs) ∧ ∀ sv w, RodsR w sv rs → Calls Try.prog 133 #[.agg #[.int .i64 up, .int .i64 lo, sv]] w fun e w' => e = .returned (.tuple #[.bool st, .bool t0]) ∧ Below w.heap.size w w' := by
  by_cases hg : goodF up lo rs
  · refine ⟨decide (stdF rs), true, by simp [hg], fun sv w h => ?_⟩
    obtain ⟨b, hb, hc⟩ := implIsStandard_good up lo sv rs w h hg
    have e : b = decide (stdF rs) := by
      rw [Bool.eq_iff_iff, hb, decide_eq_true_iff]
      exact ⟨fun h' => stdF_of hg h', fun h' => stdF_std h'⟩
    rw [← e]; exact hc
  · exact ⟨false, false, by simp [hg], fun sv w h => implIsStandard_no up lo sv rs w h hg⟩
theorem numI_any (up lo : Int) (rs : List (Int × Int)) : ∃ (sn : Int) (t1 : Bool), (goodF up lo rs → sn = numF rs ∧ t1 = true) ∧ (0 ≤ sn ∧ sn ≤ 200000000) ∧ ∀ sv w, RodsR w sv rs → Calls Try.prog 34 #[.agg #[.int .i64 up, .int .i64 lo, sv]] w fun e w' => e = .returned (.tuple #[.int .i64 sn, .bool t1]) ∧ Below w.heap.size w w' := by
  by_cases hg : goodF up lo rs
  · have := numF_top up lo rs hg
    exact ⟨numF rs, true, fun _ => ⟨rfl, rfl⟩, this, fun sv w h => implNumberOn_yes up lo sv rs w h hg⟩
  · exact ⟨0, false, fun h => absurd h hg, by omega, fun sv w h => implNumberOn_no up lo sv rs w h hg⟩
theorem forI_any (up lo : Int) (r : Nat) (n : Int) (hn : n ≤ 9223372036854775807) : ∃ (fu fl : Int) (qs : List (Int × Int)) (ok : Bool), (ok = true ↔ okFor up lo r n) ∧ (ok = true → fu = up ∧ fl = lo ∧ qs = forR r n) ∧ (ok = false → fu = 0 ∧ fl = 0 ∧ qs = []) ∧ qs.length ≤ 8 ∧
    ∀ w, Calls Try.prog 80 #[.int .i64 up, .int .i64 lo, .int .i64 r, .int .i64 n] w fun e w' => (∃ v, e = .returned (.tuple #[.agg #[.int .i64 fu, .int .i64 fl, v], .bool ok]) ∧ w'.ownsRow w.heap.size 77 2 v qs.length (flat qs)) ∧ Below w.heap.size w w' := by
  by_cases h : okFor up lo r n
  · exact ⟨up, lo, forR r n, true, by simp [h], fun _ => ⟨rfl, rfl, rfl⟩, fun h => (by cases h), by rw [forR_len]; have := h.2.2.1; omega, fun w => implFrameFor_ok up lo r n w h⟩
  · exact ⟨0, 0, [], false, ⟨fun e => (by cases e), fun e => absurd e h⟩, fun h' => (by cases h'), fun _ => ⟨rfl, rfl, rfl⟩, by simp, fun w => implFrameFor_bad up lo r n w hn h⟩
theorem box4_set {w : World} {b : Nat} {x0 x1 x2 x3 : Value} {T : TypeId} (h : w.heap[b]? = some (.cells #[x0, x1, x2, x3] T (0, 0))) (y0 y1 y2 y3 : Value) : ((((w.setCell ⟨b, 0, none⟩ y0).setCell ⟨b, 1, none⟩ y1).setCell ⟨b, 2, none⟩ y2).setCell ⟨b, 3, none⟩ y3).heap[b]? = some (.cells #[y0, y1, y2, y3] T (0, 0)) := by
  have h1 := heap_setCell_same w b 0 _ _ y0 h
  have h2 := heap_setCell_same _ b 1 _ _ y1 h1
  have h3 := heap_setCell_same _ b 2 _ _ y2 h2
  have h4 := heap_setCell_same _ b 3 _ _ y3 h3
  simpa using h4
theorem box5_set {w : World} {b : Nat} {x0 x1 x2 x3 x4 : Value} {T : TypeId} (h : w.heap[b]? = some (.cells #[x0, x1, x2, x3, x4] T (0, 0))) (y0 y1 y2 y3 y4 : Value) : (((((w.setCell ⟨b, 0, none⟩ y0).setCell ⟨b, 1, none⟩ y1).setCell ⟨b, 2, none⟩ y2).setCell ⟨b, 3, none⟩ y3).setCell ⟨b, 4, none⟩ y4).heap[b]? = some (.cells #[y0, y1, y2, y3, y4] T (0, 0)) := by
  have h1 := heap_setCell_same w b 0 _ _ y0 h
  have h2 := heap_setCell_same _ b 1 _ _ y1 h1
  have h3 := heap_setCell_same _ b 2 _ _ y2 h2
  have h4 := heap_setCell_same _ b 3 _ _ y3 h3
  have h5 := heap_setCell_same _ b 4 _ _ y4 h4
  simpa using h5
set_option maxRecDepth 100000 in
set_option maxHeartbeats 1600000 in
theorem courseOn_no (up lo : Int) (sv : Value) (rs : List (Int × Int)) (w : World) (h : RodsR w sv rs) (hn : ¬ (goodF up lo rs ∧ stdF rs)) :
    Calls Try.prog 118 #[.agg #[.int .i64 up, .int .i64 lo, sv]] w fun e w' => e = .returned (.tuple #[.agg #[.int .i64 0, .int .i64 0, .slice none 0 0, .slice none 0 0], .bool false]) ∧ Below w.heap.size w w' := by
  obtain ⟨a, cp, rfl⟩ : ∃ a c, sv = .slice a rs.length c := by obtain ⟨a, c, e, _⟩ := h; exact ⟨a, c, e⟩
  have hm : rs.length ≤ 9223372036854775807 := by obtain ⟨_, _, _, ⟨m, _⟩, _⟩ := h; exact m
  obtain ⟨st, t0, hst, hS⟩ := stdI_any up lo rs
  obtain rfl : st = false := by cases st with | true => exact absurd (hst.1 rfl) hn | false => rfl
  have HS := Lib.hid hS
  have HB0 : Hid (Below w.heap.size w w) := Lib.hid (Below.refl _ _)
  have HRf0 := Lib.hid (h)
  clear h hS hst
  go_enter Try.func118, Try.ntmps118
  go_wp2_with fail
  have hb : Below w.heap.size w (w.alloc (.cells #[.int .i64 up, .int .i64 lo, .slice a rs.length cp] 42)) := (Below.refl _ _).alloc (Nat.le_refl _) _
  have hk : (w.alloc (.cells #[.int .i64 up, .int .i64 lo, .slice a rs.length cp] 42)).heap[w.heap.size]? = some (.cells #[.int .i64 up, .int .i64 lo, .slice a rs.length cp] 42 (0, 0)) := alloc_at rfl
  have hz : (w.alloc (.cells #[.int .i64 up, .int .i64 lo, .slice a rs.length cp] 42)).heap.size = w.heap.size + 1 := by simp
  generalize w.alloc (.cells #[.int .i64 up, .int .i64 lo, .slice a rs.length cp] 42) = w1 at hb hk hz ⊢
  have HB1 : Hid (Below w.heap.size w w1) := Lib.hid (HB0.out.trans (hb.mono HB0.out.size))
  have HZ1 : Hid (w.heap.size ≤ w1.heap.size) := Lib.hid hb.size
  have HRf1 := Lib.hid (HRf0.out.below HB1.out (Nat.le_refl _))
  have HKf1 := Lib.hid hk
  replace HZ1 : Hid (w.heap.size < w1.heap.size) := Lib.hid (by omega)
  have HE1 := Lib.hid hz
  clear hb hk hz
  have hb : Below w1.heap.size w1 (w1.alloc (.cells #[.int .i64 0, .int .i64 0, .slice none 0 0, .slice none 0 0] 83)) := (Below.refl _ _).alloc (Nat.le_refl _) _
  have hk : (w1.alloc (.cells #[.int .i64 0, .int .i64 0, .slice none 0 0, .slice none 0 0] 83)).heap[w.heap.size + 1]? = some (.cells #[.int .i64 0, .int .i64 0, .slice none 0 0, .slice none 0 0] 83 (0, 0)) := alloc_at (by have := HE1.out; omega)
  have hz : (w1.alloc (.cells #[.int .i64 0, .int .i64 0, .slice none 0 0, .slice none 0 0] 83)).heap.size = w1.heap.size + 1 := by simp
  generalize w1.alloc (.cells #[.int .i64 0, .int .i64 0, .slice none 0 0, .slice none 0 0] 83) = w2 at hb hk hz ⊢
  have HB2 : Hid (Below w.heap.size w w2) := Lib.hid (HB1.out.trans (hb.mono HB1.out.size))
  have HZ2 : Hid (w1.heap.size ≤ w2.heap.size) := Lib.hid hb.size
  have HRf2 := Lib.hid (HRf0.out.below HB2.out (Nat.le_refl _))
  have HKf2 := Lib.hid ((hb.block _ (lt_of_block HKf1.out)).trans HKf1.out)
  have HKz2 := Lib.hid hk
  replace HZ2 : Hid (w1.heap.size < w2.heap.size) := Lib.hid (by omega)
  have HE2 := Lib.hid hz
  clear hb hk hz
  have ltf := lt_of_block HKf2.out
  obtain ⟨cf0, cf1, cf2, ff0, ff1, ff2⟩ := cell3 HKf2.out
  have ltz := lt_of_block HKz2.out
  obtain ⟨cz0, cz1, cz2, cz3, fz0, fz1, fz2, fz3⟩ := cell4 HKz2.out
  go_wp2_with fail
  refine (HS.out _ _ HRf2.out).mono ?_
  rintro e w3 ⟨rfl, hb⟩
  have HB3 : Hid (Below w.heap.size w w3) := Lib.hid (HB2.out.trans (hb.mono HB2.out.size))
  have HZ3 : Hid (w2.heap.size ≤ w3.heap.size) := Lib.hid hb.size
  have HRf3 := Lib.hid (HRf0.out.below HB3.out (Nat.le_refl _))
  have HKf3 := Lib.hid ((hb.block _ (lt_of_block HKf2.out)).trans HKf2.out)
  have HKz3 := Lib.hid ((hb.block _ (lt_of_block HKz2.out)).trans HKz2.out)
  clear hb
  clear cf0 cf1 cf2 ff0 ff1 ff2 ltf cz0 cz1 cz2 cz3 fz0 fz1 fz2 fz3 ltz
  have ltf := lt_of_block HKf3.out
  obtain ⟨cf0, cf1, cf2, ff0, ff1, ff2⟩ := cell3 HKf3.out
  have ltz := lt_of_block HKz3.out
  obtain ⟨cz0, cz1, cz2, cz3, fz0, fz1, fz2, fz3⟩ := cell4 HKz3.out
  go_wp2_with fail
  exact bodyPost_ret (v := .tuple #[.agg #[.int .i64 0, .int .i64 0, .slice none 0 0, .slice none 0 0], .bool false]) (by simp [results, Try.results118, go_sem, cz0, cz1, cz2, cz3]) rfl ⟨rfl, bl_set4 HB3.out (Nat.le_succ _) _ _ _ _⟩

set_option maxRecDepth 100000 in
set_option maxHeartbeats 3200000 in
theorem courseOn_yes (up lo : Int) (sv : Value) (rs : List (Int × Int)) (w : World) (h : RodsR w sv rs) (hg : goodF up lo rs) (hs : stdF rs) :
    Calls Try.prog 118 #[.agg #[.int .i64 up, .int .i64 lo, sv]] w fun e w' => (∃ g c mg, e = .returned (.tuple #[.agg #[.int .i64 up, .int .i64 lo, .slice (some ⟨g, 0, none⟩) rs.length c, .slice (some ⟨mg, 0, none⟩) 0 0], .bool true]) ∧ w'.ownsRow w.heap.size 77 2 (.slice (some ⟨g, 0, none⟩) rs.length c) rs.length (flat rs) ∧ w'.ownsRow w.heap.size 138 3 (.slice (some ⟨mg, 0, none⟩) 0 0) 0 []) ∧ Below w.heap.size w w' := by
  obtain ⟨a, cp, rfl⟩ : ∃ a c, sv = .slice a rs.length c := by obtain ⟨a, c, e, _⟩ := h; exact ⟨a, c, e⟩
  have hm : rs.length ≤ 9223372036854775807 := by obtain ⟨_, _, _, ⟨m, _⟩, _⟩ := h; exact m
  obtain ⟨st, t0, hst, hS⟩ := stdI_any up lo rs
  obtain rfl : st = true := hst.2 ⟨hg, hs⟩
  have hlen : 0 < rs.length ∧ rs.length ≤ 8 := by have := hg.2.2.2; omega
  clear hg hs
  have HS := Lib.hid hS
  have HB0 : Hid (Below w.heap.size w w) := Lib.hid (Below.refl _ _)
  have HRf0 := Lib.hid (h)
  clear h hS hst
  go_enter Try.func118, Try.ntmps118
  go_wp2_with fail
  have hb : Below w.heap.size w (w.alloc (.cells #[.int .i64 up, .int .i64 lo, .slice a rs.length cp] 42)) := (Below.refl _ _).alloc (Nat.le_refl _) _
  have hk : (w.alloc (.cells #[.int .i64 up, .int .i64 lo, .slice a rs.length cp] 42)).heap[w.heap.size]? = some (.cells #[.int .i64 up, .int .i64 lo, .slice a rs.length cp] 42 (0, 0)) := alloc_at rfl
  have hz : (w.alloc (.cells #[.int .i64 up, .int .i64 lo, .slice a rs.length cp] 42)).heap.size = w.heap.size + 1 := by simp
  generalize w.alloc (.cells #[.int .i64 up, .int .i64 lo, .slice a rs.length cp] 42) = w1 at hb hk hz ⊢
  have HB1 : Hid (Below w.heap.size w w1) := Lib.hid (HB0.out.trans (hb.mono HB0.out.size))
  have HZ1 : Hid (w.heap.size ≤ w1.heap.size) := Lib.hid hb.size
  have HRf1 := Lib.hid (HRf0.out.below HB1.out (Nat.le_refl _))
  have HKf1 := Lib.hid hk
  replace HZ1 : Hid (w.heap.size < w1.heap.size) := Lib.hid (by omega)
  have HE1 := Lib.hid hz
  clear hb hk hz
  have hb : Below w1.heap.size w1 (w1.alloc (.cells #[.int .i64 0, .int .i64 0, .slice none 0 0, .slice none 0 0] 83)) := (Below.refl _ _).alloc (Nat.le_refl _) _
  have hk : (w1.alloc (.cells #[.int .i64 0, .int .i64 0, .slice none 0 0, .slice none 0 0] 83)).heap[w.heap.size + 1]? = some (.cells #[.int .i64 0, .int .i64 0, .slice none 0 0, .slice none 0 0] 83 (0, 0)) := alloc_at (by have := HE1.out; omega)
  have hz : (w1.alloc (.cells #[.int .i64 0, .int .i64 0, .slice none 0 0, .slice none 0 0] 83)).heap.size = w1.heap.size + 1 := by simp
  generalize w1.alloc (.cells #[.int .i64 0, .int .i64 0, .slice none 0 0, .slice none 0 0] 83) = w2 at hb hk hz ⊢
  have HB2 : Hid (Below w.heap.size w w2) := Lib.hid (HB1.out.trans (hb.mono HB1.out.size))
  have HZ2 : Hid (w1.heap.size ≤ w2.heap.size) := Lib.hid hb.size
  have HRf2 := Lib.hid (HRf0.out.below HB2.out (Nat.le_refl _))
  have HKf2 := Lib.hid ((hb.block _ (lt_of_block HKf1.out)).trans HKf1.out)
  have HKz2 := Lib.hid hk
  replace HZ2 : Hid (w1.heap.size < w2.heap.size) := Lib.hid (by omega)
  have HE2 := Lib.hid hz
  clear hb hk hz
  have ltf := lt_of_block HKf2.out
  obtain ⟨cf0, cf1, cf2, ff0, ff1, ff2⟩ := cell3 HKf2.out
  have ltz := lt_of_block HKz2.out
  obtain ⟨cz0, cz1, cz2, cz3, fz0, fz1, fz2, fz3⟩ := cell4 HKz2.out
  go_wp2_with fail
  refine (HS.out _ _ HRf2.out).mono ?_
  rintro e w3 ⟨rfl, hb⟩
  have HB3 : Hid (Below w.heap.size w w3) := Lib.hid (HB2.out.trans (hb.mono HB2.out.size))
  have HZ3 : Hid (w2.heap.size ≤ w3.heap.size) := Lib.hid hb.size
  have HRf3 := Lib.hid (HRf0.out.below HB3.out (Nat.le_refl _))
  have HKf3 := Lib.hid ((hb.block _ (lt_of_block HKf2.out)).trans HKf2.out)
  have HKz3 := Lib.hid ((hb.block _ (lt_of_block HKz2.out)).trans HKz2.out)
  clear hb
  clear cf0 cf1 cf2 ff0 ff1 ff2 ltf cz0 cz1 cz2 cz3 fz0 fz1 fz2 fz3 ltz
  have ltf := lt_of_block HKf3.out
  obtain ⟨cf0, cf1, cf2, ff0, ff1, ff2⟩ := cell3 HKf3.out
  have ltz := lt_of_block HKz3.out
  obtain ⟨cz0, cz1, cz2, cz3, fz0, fz1, fz2, fz3⟩ := cell4 HKz3.out
  go_wp2_with fail
  have HZB : Hid (w.heap.size + 1 < w3.heap.size) := Lib.hid ltz
  have HWB := Lib.hid HB3.out.size
  obtain ⟨B, hB⟩ : ∃ B, B = w3.heap.size := ⟨_, rfl⟩
  have HBE := Lib.hid hB
  clear hB
  refine (clone_any _ rs _ HRf3.out ⟨hlen.1, by omega⟩).mono ?_
  rintro e w4 ⟨⟨v, rfl, ho⟩, hb⟩
  have HB4 : Hid (Below w.heap.size w w4) := Lib.hid (HB3.out.trans (hb.mono HB3.out.size))
  have HZ4 : Hid (w3.heap.size ≤ w4.heap.size) := Lib.hid hb.size
  have HRf4 := Lib.hid (HRf0.out.below HB4.out (Nat.le_refl _))
  have HKf4 := Lib.hid ((hb.block _ (lt_of_block HKf3.out)).trans HKf3.out)
  have HKz4 := Lib.hid ((hb.block _ (lt_of_block HKz3.out)).trans HKz3.out)
  clear hb
  obtain ⟨g, cap, rfl⟩ := own_block ho hlen.1
  rw [← HBE.out] at ho
  have HOv4 := Lib.hid (Ow.mk' ho)
  clear ho
  have hgB : B ≤ g := (HOv4.out.1.lt g rfl).1
  have hB2 := HZB.out
  rw [← HBE.out] at hB2
  clear cf0 cf1 cf2 ff0 ff1 ff2 ltf cz0 cz1 cz2 cz3 fz0 fz1 fz2 fz3 ltz
  have ltf := lt_of_block HKf4.out
  obtain ⟨cf0, cf1, cf2, ff0, ff1, ff2⟩ := cell3 HKf4.out
  have ltz := lt_of_block HKz4.out
  obtain ⟨cz0, cz1, cz2, cz3, fz0, fz1, fz2, fz3⟩ := cell4 HKz4.out
  have hm : Btw w.heap.size (w.heap.size + 1) w4 (w4.setCell ⟨w.heap.size, 2, none⟩ (.slice (some ⟨g, 0, none⟩) rs.length cap)) := (Btw.refl w.heap.size (w.heap.size + 1) w4).setCell (p := ⟨w.heap.size, 2, none⟩) (Nat.le_refl _) (Nat.lt_succ_self _) _
  have hkk : (w4.setCell ⟨w.heap.size, 2, none⟩ (.slice (some ⟨g, 0, none⟩) rs.length cap)).heap[w.heap.size]? = some (.cells #[.int .i64 up, .int .i64 lo, .slice (some ⟨g, 0, none⟩) rs.length cap] 42 (0, 0)) := by
    have := heap_setCell_same _ w.heap.size 2 _ _ (.slice (some ⟨g, 0, none⟩) rs.length cap) HKf4.out
    simpa using this
  obtain ⟨w5, hW⟩ : ∃ W, w4.setCell ⟨w.heap.size, 2, none⟩ (.slice (some ⟨g, 0, none⟩) rs.length cap) = W := ⟨_, rfl⟩
  rw [hW] at hm hkk
  obtain ⟨o0, o1, o2, o3, o4, o5⟩ := cell3 HKf4.out
  have HZ5 : Hid (w4.heap.size ≤ w5.heap.size) := Lib.hid hm.size
  have HB5 : Hid (Below w.heap.size w w5) := Lib.hid (HB4.out.trans (hm.below.mono (by have := HZ1.out; have := HZ2.out; have := HZ3.out; have := HZ4.out; have := HB0.out.size; omega)))
  have HKz5 := Lib.hid ((hm.block _ (by have := lt_of_block HKz4.out; have := HZ1.out; have := HZ2.out; have := HZ3.out; have := HZ4.out; omega)).trans HKz4.out)
  have HOv5 := Lib.hid (HOv4.out.btw hm (by have := HZ1.out; have := HZ2.out; have := HZ3.out; have := HZ4.out; omega))
  clear hm
  obtain ⟨e0, e1, e2, -, -, -⟩ := cell3 hkk
  have hkl := lt_of_block hkk
  clear hkk
  clear cf0 cf1 cf2 ff0 ff1 ff2 ltf cz0 cz1 cz2 cz3 fz0 fz1 fz2 fz3 ltz
  have ltz := lt_of_block HKz5.out
  obtain ⟨cz0, cz1, cz2, cz3, fz0, fz1, fz2, fz3⟩ := cell4 HKz5.out
  go_wp2_with fail
  have hlo : B ≤ w5.heap.size := by have := (HOv5.out.1.lt g rfl).2; omega
  have hwB : w.heap.size ≤ B := by have := HWB.out; rw [← HBE.out] at this; exact this
  have hoR := (own_set4 HOv5.out.1 hB2 (.int .i64 up) (.int .i64 lo) (.slice (some ⟨g, 0, none⟩) rs.length cap) (.slice (some ⟨w5.heap.size, 0, none⟩) 0 0)).alloc (.cells #[] 138)
  have hbZ := (bl_set4 HB5.out (Nat.le_succ _) (.int .i64 up) (.int .i64 lo) (.slice (some ⟨g, 0, none⟩) rs.length cap) (.slice (some ⟨w5.heap.size, 0, none⟩) 0 0)).alloc (by simp; exact HB5.out.size) (.cells #[] 138)
  have hkz := box4_set HKz5.out (.int .i64 up) (.int .i64 lo) (.slice (some ⟨g, 0, none⟩) rs.length cap) (.slice (some ⟨w5.heap.size, 0, none⟩) 0 0)
  have hsz : ((((w5.setCell ⟨w.heap.size + 1, 0, none⟩ (.int .i64 up)).setCell ⟨w.heap.size + 1, 1, none⟩ (.int .i64 lo)).setCell ⟨w.heap.size + 1, 2, none⟩ (.slice (some ⟨g, 0, none⟩) rs.length cap)).setCell ⟨w.heap.size + 1, 3, none⟩ (.slice (some ⟨w5.heap.size, 0, none⟩) 0 0)).heap.size = w5.heap.size := by simp
  generalize ((((w5.setCell ⟨w.heap.size + 1, 0, none⟩ (.int .i64 up)).setCell ⟨w.heap.size + 1, 1, none⟩ (.int .i64 lo)).setCell ⟨w.heap.size + 1, 2, none⟩ (.slice (some ⟨g, 0, none⟩) rs.length cap)).setCell ⟨w.heap.size + 1, 3, none⟩ (.slice (some ⟨w5.heap.size, 0, none⟩) 0 0)) = V at hoR hbZ hkz hsz ⊢
  have hoM : (V.alloc (.cells #[] 138)).ownsRow B 138 3 (.slice (some ⟨w5.heap.size, 0, none⟩) 0 0) 0 [] := by
    have := World.ownsRow_made (base := B) (e := 138) (size := 3) V #[] 0 (by omega) (Nat.zero_le _) (by simp)
    rw [hsz] at this
    exact this
  have hkv := (alloc_old (w := V) (o := .cells #[] 138) (k := w.heap.size + 1) (lt_of_block hkz)).trans hkz
  obtain ⟨y0, y1, y2, y3, -, -, -, -⟩ := cell4 hkv
  exact bodyPost_ret (v := .tuple #[.agg #[.int .i64 up, .int .i64 lo, .slice (some ⟨g, 0, none⟩) rs.length cap, .slice (some ⟨w5.heap.size, 0, none⟩) 0 0], .bool true]) (by simp [results, Try.results118, go_sem, y0, y1, y2, y3]) rfl ⟨⟨_, _, _, rfl, own_mono hoR hwB, own_mono hoM hwB⟩, hbZ⟩
end Go.Proofs.Ythmbehknacjodaa
