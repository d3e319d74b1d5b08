/- One pupil, a list of pupils: the model's tests. -/
import Derived.Test.YtlhcediejccieaaPfind
namespace Go.Proofs.Ytlhcediejccieaa
set_option linter.unusedVariables false
open Go.RowKit

set_option maxRecDepth 100000 in
set_option maxHeartbeats 800000 in
theorem specIsPupil_yes (p : Pu) (w : World) (hs : p.name.size ≤ maxLen) (h : okPu p) :
    Calls Try.prog 23 #[puV p] w fun e w' => e = .returned (.bool true) ∧ Below w.heap.size w w' := by
  have HC := Lib.hid (fun w => l3One_yes p w hs h)
  obtain ⟨id, name, born, cls, lvl⟩ := p
  change Hid (∀ w : World, Calls Try.prog 54 #[.agg #[.int .i64 id, .string name, .int .i64 born, .int .i64 cls, .int .i64 lvl]] w fun e w' => e = .returned (.bool true) ∧ Below w.heap.size w w') at HC
  show Calls Try.prog 23 #[.agg #[.int .i64 id, .string name, .int .i64 born, .int .i64 cls, .int .i64 lvl]] w fun e w' => e = .returned (.bool true) ∧ Below w.heap.size w w'
  clear hs h
  have HB0 : Hid (Below w.heap.size w w) := Lib.hid (Below.refl _ _)
  go_enter Try.func23, Try.ntmps23
  go_wp2_with fail
  have hb : Below w.heap.size w (w.alloc (.cells #[.int .i64 id, .string name, .int .i64 born, .int .i64 cls, .int .i64 lvl] 38)) := (Below.refl _ _).alloc (Nat.le_refl _) _
  have hk : (w.alloc (.cells #[.int .i64 id, .string name, .int .i64 born, .int .i64 cls, .int .i64 lvl] 38)).heap[w.heap.size]? = some (.cells #[.int .i64 id, .string name, .int .i64 born, .int .i64 cls, .int .i64 lvl] 38 (0, 0)) := alloc_at rfl
  have hz : (w.alloc (.cells #[.int .i64 id, .string name, .int .i64 born, .int .i64 cls, .int .i64 lvl] 38)).heap.size = w.heap.size + 1 := by simp
  generalize w.alloc (.cells #[.int .i64 id, .string name, .int .i64 born, .int .i64 cls, .int .i64 lvl] 38) = w1 at hb hk hz ⊢
  have HB1 : Hid (Below w.heap.size w w1) := Lib.hid (HB0.out.trans (hb.mono HB0.out.size))
  have HZ1 : Hid (w.heap.size ≤ w1.heap.size) := Lib.hid hb.size
  have HKf1 := Lib.hid hk
  replace HZ1 : Hid (w.heap.size < w1.heap.size) := Lib.hid (by omega)
  have HE1 := Lib.hid hz
  clear hb hk hz
  have ltf := lt_of_block HKf1.out
  obtain ⟨cf0, cf1, cf2, cf3, cf4, ff0, ff1, ff2, ff3, ff4⟩ := cell5 HKf1.out
  refine (HC.out _).mono ?_
  rintro e w2 ⟨rfl, hb⟩
  have HB2 : Hid (Below w.heap.size w w2) := Lib.hid (HB1.out.trans (hb.mono HB1.out.size))
  have HZ2 : Hid (w1.heap.size ≤ w2.heap.size) := Lib.hid hb.size
  have HKf2 := Lib.hid ((hb.block _ (lt_of_block HKf1.out)).trans HKf1.out)
  clear hb
  go_wp2_with fail
  go_ret
  exact ⟨rfl, HB2.out⟩
set_option maxRecDepth 100000 in
set_option maxHeartbeats 800000 in
theorem specIsPupil_no (p : Pu) (w : World) (hs : p.name.size ≤ maxLen) (h : ¬ okPu p) :
    Calls Try.prog 23 #[puV p] w fun e w' => e = .returned (.bool false) ∧ Below w.heap.size w w' := by
  have HC := Lib.hid (fun w => l3One_no p w hs h)
  obtain ⟨id, name, born, cls, lvl⟩ := p
  change Hid (∀ w : World, Calls Try.prog 54 #[.agg #[.int .i64 id, .string name, .int .i64 born, .int .i64 cls, .int .i64 lvl]] w fun e w' => e = .returned (.bool false) ∧ Below w.heap.size w w') at HC
  show Calls Try.prog 23 #[.agg #[.int .i64 id, .string name, .int .i64 born, .int .i64 cls, .int .i64 lvl]] w fun e w' => e = .returned (.bool false) ∧ Below w.heap.size w w'
  clear hs h
  have HB0 : Hid (Below w.heap.size w w) := Lib.hid (Below.refl _ _)
  go_enter Try.func23, Try.ntmps23
  go_wp2_with fail
  have hb : Below w.heap.size w (w.alloc (.cells #[.int .i64 id, .string name, .int .i64 born, .int .i64 cls, .int .i64 lvl] 38)) := (Below.refl _ _).alloc (Nat.le_refl _) _
  have hk : (w.alloc (.cells #[.int .i64 id, .string name, .int .i64 born, .int .i64 cls, .int .i64 lvl] 38)).heap[w.heap.size]? = some (.cells #[.int .i64 id, .string name, .int .i64 born, .int .i64 cls, .int .i64 lvl] 38 (0, 0)) := alloc_at rfl
  have hz : (w.alloc (.cells #[.int .i64 id, .string name, .int .i64 born, .int .i64 cls, .int .i64 lvl] 38)).heap.size = w.heap.size + 1 := by simp
  generalize w.alloc (.cells #[.int .i64 id, .string name, .int .i64 born, .int .i64 cls, .int .i64 lvl] 38) = w1 at hb hk hz ⊢
  have HB1 : Hid (Below w.heap.size w w1) := Lib.hid (HB0.out.trans (hb.mono HB0.out.size))
  have HZ1 : Hid (w.heap.size ≤ w1.heap.size) := Lib.hid hb.size
  have HKf1 := Lib.hid hk
  replace HZ1 : Hid (w.heap.size < w1.heap.size) := Lib.hid (by omega)
  have HE1 := Lib.hid hz
  clear hb hk hz
  have ltf := lt_of_block HKf1.out
  obtain ⟨cf0, cf1, cf2, cf3, cf4, ff0, ff1, ff2, ff3, ff4⟩ := cell5 HKf1.out
  refine (HC.out _).mono ?_
  rintro e w2 ⟨rfl, hb⟩
  have HB2 : Hid (Below w.heap.size w w2) := Lib.hid (HB1.out.trans (hb.mono HB1.out.size))
  have HZ2 : Hid (w1.heap.size ≤ w2.heap.size) := Lib.hid hb.size
  have HKf2 := Lib.hid ((hb.block _ (lt_of_block HKf1.out)).trans HKf1.out)
  clear hb
  go_wp2_with fail
  go_ret
  exact ⟨rfl, HB2.out⟩
end Go.Proofs.Ytlhcediejccieaa
