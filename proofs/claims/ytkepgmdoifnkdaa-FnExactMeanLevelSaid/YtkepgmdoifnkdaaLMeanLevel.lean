/- The law on MeanLevel: it returns true where the model and the program give one answer. -/
import Derived.Test.YtkepgmdoifnkdaaPupils
import Derived.Deep.RegionHeld3
namespace Go.Proofs.Ytkepgmdoifnkdaa
set_option linter.unusedVariables false
open Go.RowKit

set_option maxRecDepth 100000 in
set_option maxHeartbeats 6400000 in
theorem lawMeanLevel (sv : Value) (ps : List Pu) (w : World) (h : RowsR 5 puC w sv ps) (hs : ∀ p ∈ ps, p.name.size ≤ maxLen) (a1 : Int) (r0 : Int) (r1 : Int) (r2 : Bool) 
    (hS : ps.length ≤ 1048576 ∧ szsPu ps ≤ 1048576 → ∀ s w, RowsR 5 puC w s ps → Calls Try.prog 38 #[s, .int .i64 a1] w fun e w' => e = .returned (.tuple #[.int .i64 r0, .int .i64 r1, .bool r2]) ∧ Below w.heap.size w w') 
    (hI : ps.length ≤ 1048576 ∧ szsPu ps ≤ 1048576 → ∀ s w, RowsR 5 puC w s ps → Calls Try.prog 39 #[s, .int .i64 a1] w fun e w' => e = .returned (.tuple #[.int .i64 r0, .int .i64 r1, .bool r2]) ∧ Below w.heap.size w w') :
    Calls Try.prog 10 #[sv, .int .i64 a1] w fun e w' => e = .returned (.bool true) ∧ Below w.heap.size w w' := by
  have HS := Lib.hid hS
  have HI := Lib.hid hI
  obtain ⟨a, c, rfl⟩ := h.form
  have hm : ps.length ≤ 9223372036854775807 := by obtain ⟨_, _, _, ⟨m, _⟩, _⟩ := h; exact m
  have HB0 : Hid (Below w.heap.size w w) := Lib.hid (Below.refl _ _)
  have HRf0 := Lib.hid (h)
  clear hS hI h
  have hr0 : (r0 != r0) = false := by simp
  have hr1 : (r1 != r1) = false := by simp
  have hr2 : (r2 != r2) = false := by simp
  have HSZ := Lib.hid hs
  clear hs
  go_enter Try.func10, Try.ntmps10
  go_wp2_with fail
  refine (szPupilS_any _ ps 1048576 _ HRf0.out HSZ.out (by omega) (by omega)).mono ?_
  rintro e w1 ⟨⟨r, rfl, hr1, hr2⟩, hb⟩
  have HB1 : Hid (Below w.heap.size w w1) := Lib.hid (HB0.out.trans (hb.mono HB0.out.size))
  have HZ1 : Hid (w.heap.size ≤ w1.heap.size) := Lib.hid hb.size
  have HRf1 := Lib.hid (HRf0.out.below HB1.out (Nat.le_refl _))
  clear hb
  by_cases hr : r < 0
  · clear hr2
    go_wp2_with fail
    go_ret
    exact ⟨rfl, HB1.out⟩
  have hn : ps.length ≤ 1048576 ∧ szsPu ps ≤ 1048576 := by have := hr2 (by omega); omega
  clear hr2
  go_wp2_with fail
  refine (toPupilS_any _ ps _ HRf1.out hn.1).mono ?_
  rintro e w2 ⟨⟨st, rfl, ho⟩, hb⟩
  have HB2 : Hid (Below w.heap.size w w2) := Lib.hid (HB1.out.trans (hb.mono HB1.out.size))
  have HZ2 : Hid (w1.heap.size ≤ w2.heap.size) := Lib.hid hb.size
  have HRf2 := Lib.hid (HRf0.out.below HB2.out (Nat.le_refl _))
  clear hb
  obtain ⟨pt, kt, rfl⟩ := own_form ho
  have HCt := Lib.hid (RowsR.of_own puC_len ho)
  clear ho
  go_wp2_with fail
  refine (HS.out hn _ _ HCt.out).mono ?_
  rintro e w3 ⟨rfl, hb⟩
  have HB3 : Hid (Below w.heap.size w w3) := Lib.hid (HB2.out.trans (hb.mono HB2.out.size))
  have HZ3 : Hid (w2.heap.size ≤ w3.heap.size) := Lib.hid hb.size
  have HRf3 := Lib.hid (HRf0.out.below HB3.out (Nat.le_refl _))
  clear hb
  go_wp2_with fail
  refine (toPupilS_any _ ps _ HRf3.out hn.1).mono ?_
  rintro e w4 ⟨⟨sx, rfl, ho⟩, hb⟩
  have HB4 : Hid (Below w.heap.size w w4) := Lib.hid (HB3.out.trans (hb.mono HB3.out.size))
  have HZ4 : Hid (w3.heap.size ≤ w4.heap.size) := Lib.hid hb.size
  have HRf4 := Lib.hid (HRf0.out.below HB4.out (Nat.le_refl _))
  clear hb
  obtain ⟨px, kx, rfl⟩ := own_form ho
  have HOx4 := Lib.hid (Ow.mk' ho)
  clear ho
  go_wp2_with fail
  refine (HI.out hn _ _ (RowsR.of_own puC_len HOx4.out.1)).mono ?_
  rintro e w5 ⟨rfl, hb⟩
  have HB5 : Hid (Below w.heap.size w w5) := Lib.hid (HB4.out.trans (hb.mono HB4.out.size))
  have HZ5 : Hid (w4.heap.size ≤ w5.heap.size) := Lib.hid hb.size
  have HRf5 := Lib.hid (HRf0.out.below HB5.out (Nat.le_refl _))
  have HOx5 := Lib.hid (HOx4.out.next hb)
  clear hb
  go_wp2_with fail
  refine (toPupilS_any _ ps _ HRf5.out hn.1).mono ?_
  rintro e w6 ⟨⟨sy, rfl, ho⟩, hb⟩
  have HB6 : Hid (Below w.heap.size w w6) := Lib.hid (HB5.out.trans (hb.mono HB5.out.size))
  have HZ6 : Hid (w5.heap.size ≤ w6.heap.size) := Lib.hid hb.size
  have HRf6 := Lib.hid (HRf0.out.below HB6.out (Nat.le_refl _))
  have HOx6 := Lib.hid (HOx5.out.next hb)
  clear hb
  obtain ⟨py, ky, rfl⟩ := own_form ho
  have HCy := Lib.hid (RowsR.of_own puC_len ho)
  clear ho
  go_wp2_with fail
  refine (eqPupilS_yes _ _ ps _ (RowsR.of_own puC_len HOx6.out.1) HCy.out).mono ?_
  rintro e w7 ⟨rfl, hb⟩
  have HB7 : Hid (Below w.heap.size w w7) := Lib.hid (HB6.out.trans (hb.mono HB6.out.size))
  have HZ7 : Hid (w6.heap.size ≤ w7.heap.size) := Lib.hid hb.size
  have HRf7 := Lib.hid (HRf0.out.below HB7.out (Nat.le_refl _))
  have HOx7 := Lib.hid (HOx6.out.next hb)
  clear hb
  go_wp2_with fail
  go_ret
  exact ⟨rfl, HB7.out⟩
end Go.Proofs.Ytkepgmdoifnkdaa
