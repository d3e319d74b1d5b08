/- The model's functions on amounts. -/
import Derived.Test.YtghdmiimanhjgaaDoorMm2
import Derived.Test.YtghdmiimanhjgaaDoorIm1
import Derived.Deep.RegionHeld3
namespace Go.Proofs.YtghdmiimanhjgaaDoor
set_option linter.unusedVariables false
open Go.RowKit

set_option maxRecDepth 100000 in
set_option maxHeartbeats 1600000 in
theorem sVal_any (v sv : Value) (us : List Un) (cs : List Int) (w : World) (h : RowsR 2 unC w v us) (hs : ∀ u ∈ us, u.nm.size ≤ maxLen) (hc : RowsR 1 inC w sv cs) (x : Int) (r : Bool) (hx : ValF us cs x r) :
    Calls Tryd.prog 22 #[v, .agg #[sv]] w fun e w' => e = .returned (.tuple #[.int .i64 x, .bool r]) ∧ Below w.heap.size w w' := by
  obtain ⟨a1, c1, rfl⟩ := hc.form
  have HS := Lib.hid hs
  rcases hx with ⟨ho, rfl, rfl⟩ | ⟨ho, rfl, rfl⟩
  · have HO := Lib.hid ho
    have HB0 : Hid (Below w.heap.size w w) := Lib.hid (Below.refl _ _)
    have HRu0 := Lib.hid (h)
    have HRc0 := Lib.hid (hc)
    clear h hs hc ho
    go_enter Tryd.func22, Tryd.ntmps22
    go_wp2_with fail
    have hb : Below w.heap.size w (w.alloc (.cells #[.slice a1 cs.length c1] 27)) := (Below.refl _ _).alloc (Nat.le_refl _) _
    have hk : (w.alloc (.cells #[.slice a1 cs.length c1] 27)).heap[w.heap.size]? = some (.cells #[.slice a1 cs.length c1] 27 (0, 0)) := alloc_at rfl
    have hz : (w.alloc (.cells #[.slice a1 cs.length c1] 27)).heap.size = w.heap.size + 1 := by simp
    generalize w.alloc (.cells #[.slice a1 cs.length c1] 27) = w1 at hb hk hz ⊢
    have HB1 : Hid (Below w.heap.size w w1) := Lib.hid (HB0.out.trans (hb.mono HB0.out.size))
    have HZ1 : Hid (w.heap.size ≤ w1.heap.size) := Lib.hid hb.size
    have HRu1 := Lib.hid (HRu0.out.below HB1.out (Nat.le_refl _))
    have HRc1 := Lib.hid (HRc0.out.below HB1.out (Nat.le_refl _))
    have HKb1 := Lib.hid hk
    replace HZ1 : Hid (w.heap.size < w1.heap.size) := Lib.hid (by omega)
    have HE1 := Lib.hid hz
    clear hb hk hz
    have ltb := lt_of_block HKb1.out
    obtain ⟨cb0, fb0⟩ := cell1 HKb1.out
    refine (l7Amount_any _ _ us cs _ HRu1.out HS.out HRc1.out true ⟨fun _ => HO.out, fun _ => rfl⟩).mono ?_
    rintro e w2 ⟨rfl, hb⟩
    have HB2 : Hid (Below w.heap.size w w2) := Lib.hid (HB1.out.trans (hb.mono HB1.out.size))
    have HZ2 : Hid (w1.heap.size ≤ w2.heap.size) := Lib.hid hb.size
    have HRu2 := Lib.hid (HRu0.out.below HB2.out (Nat.le_refl _))
    have HRc2 := Lib.hid (HRc0.out.below HB2.out (Nat.le_refl _))
    have HKb2 := Lib.hid ((hb.block _ (lt_of_block HKb1.out)).trans HKb1.out)
    clear hb
    clear cb0 fb0 ltb
    have ltb := lt_of_block HKb2.out
    obtain ⟨cb0, fb0⟩ := cell1 HKb2.out
    go_wp2_with fail
    refine (l7Value_any _ _ us cs _ HRu2.out HRc2.out HO.out).mono ?_
    rintro e w3 ⟨rfl, hb⟩
    have HB3 : Hid (Below w.heap.size w w3) := Lib.hid (HB2.out.trans (hb.mono HB2.out.size))
    have HZ3 : Hid (w2.heap.size ≤ w3.heap.size) := Lib.hid hb.size
    have HRu3 := Lib.hid (HRu0.out.below HB3.out (Nat.le_refl _))
    have HRc3 := Lib.hid (HRc0.out.below HB3.out (Nat.le_refl _))
    have HKb3 := Lib.hid ((hb.block _ (lt_of_block HKb2.out)).trans HKb2.out)
    clear hb
    clear cb0 fb0 ltb
    have ltb := lt_of_block HKb3.out
    obtain ⟨cb0, fb0⟩ := cell1 HKb3.out
    go_wp2_with fail
    go_ret2
    exact ⟨rfl, HB3.out⟩
  · have HN := Lib.hid ho
    have HB0 : Hid (Below w.heap.size w w) := Lib.hid (Below.refl _ _)
    have HRu0 := Lib.hid (h)
    have HRc0 := Lib.hid (hc)
    clear h hs hc ho
    go_enter Tryd.func22, Tryd.ntmps22
    go_wp2_with fail
    have hb : Below w.heap.size w (w.alloc (.cells #[.slice a1 cs.length c1] 27)) := (Below.refl _ _).alloc (Nat.le_refl _) _
    have hk : (w.alloc (.cells #[.slice a1 cs.length c1] 27)).heap[w.heap.size]? = some (.cells #[.slice a1 cs.length c1] 27 (0, 0)) := alloc_at rfl
    have hz : (w.alloc (.cells #[.slice a1 cs.length c1] 27)).heap.size = w.heap.size + 1 := by simp
    generalize w.alloc (.cells #[.slice a1 cs.length c1] 27) = w1 at hb hk hz ⊢
    have HB1 : Hid (Below w.heap.size w w1) := Lib.hid (HB0.out.trans (hb.mono HB0.out.size))
    have HZ1 : Hid (w.heap.size ≤ w1.heap.size) := Lib.hid hb.size
    have HRu1 := Lib.hid (HRu0.out.below HB1.out (Nat.le_refl _))
    have HRc1 := Lib.hid (HRc0.out.below HB1.out (Nat.le_refl _))
    have HKb1 := Lib.hid hk
    replace HZ1 : Hid (w.heap.size < w1.heap.size) := Lib.hid (by omega)
    have HE1 := Lib.hid hz
    clear hb hk hz
    have ltb := lt_of_block HKb1.out
    obtain ⟨cb0, fb0⟩ := cell1 HKb1.out
    refine (l7Amount_any _ _ us cs _ HRu1.out HS.out HRc1.out false ⟨fun e => (by simp at e), fun e => absurd e HN.out⟩).mono ?_
    rintro e w2 ⟨rfl, hb⟩
    have HB2 : Hid (Below w.heap.size w w2) := Lib.hid (HB1.out.trans (hb.mono HB1.out.size))
    have HZ2 : Hid (w1.heap.size ≤ w2.heap.size) := Lib.hid hb.size
    have HRu2 := Lib.hid (HRu0.out.below HB2.out (Nat.le_refl _))
    have HRc2 := Lib.hid (HRc0.out.below HB2.out (Nat.le_refl _))
    have HKb2 := Lib.hid ((hb.block _ (lt_of_block HKb1.out)).trans HKb1.out)
    clear hb
    clear cb0 fb0 ltb
    have ltb := lt_of_block HKb2.out
    obtain ⟨cb0, fb0⟩ := cell1 HKb2.out
    go_wp2_with fail
    go_ret2
    exact ⟨rfl, HB2.out⟩
end Go.Proofs.YtghdmiimanhjgaaDoor
