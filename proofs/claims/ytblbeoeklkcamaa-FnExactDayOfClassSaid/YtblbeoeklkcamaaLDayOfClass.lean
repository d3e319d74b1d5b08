/- The law on DayOfClass: it returns true where the model and the program give one answer. -/
import Derived.Test.YtblbeoeklkcamaaInts
import Derived.Test.YtblbeoeklkcamaaLessons
import Derived.Deep.RegionHeld3
namespace Go.Proofs.Ytblbeoeklkcamaa
set_option linter.unusedVariables false
open Go.RowKit

set_option maxRecDepth 100000 in
set_option maxHeartbeats 6400000 in
theorem lawDayOfClass (sv : Value) (ps : List Les) (w : World) (h : RowsR 7 lesC w sv ps) (a1 : Int) (a2 : Int) (qs : List Int) (hq : qs.length ≤ 1000) (r1 : Bool) 
    (hS : ps.length ≤ 1048576 → ∀ s w, RowsR 7 lesC w s ps → Calls Try.prog 26 #[s, .int .i64 a1, .int .i64 a2] w fun e w' => (∃ sq, e = .returned (.tuple #[sq, .bool r1]) ∧ RowsR 1 inC w' sq qs) ∧ Below w.heap.size w w') 
    (hI : ps.length ≤ 1048576 → ∀ s w, RowsR 7 lesC w s ps → Calls Try.prog 25 #[s, .int .i64 a1, .int .i64 a2] w fun e w' => (∃ sq, e = .returned (.tuple #[sq, .bool r1]) ∧ w'.ownsRow w.heap.size 3 1 sq qs.length (flatC inC qs)) ∧ Below w.heap.size w w') :
    Calls Try.prog 7 #[sv, .int .i64 a1, .int .i64 a2] w fun e w' => e = .returned (.bool true) ∧ Below w.heap.size w w' := by
  have HS := Lib.hid hS
  have HI := Lib.hid hI
  obtain ⟨a, c, rfl⟩ := h.form
  have hm : ps.length ≤ 9223372036854775807 := by obtain ⟨_, _, _, ⟨m, _⟩, _⟩ := h; exact m
  have hqk : ¬ (1 + (qs.length : Int) < 0) := by omega
  have hqk' : ((1 + (qs.length : Int)) != (1 + (qs.length : Int))) = false := by simp
  have HB0 : Hid (Below w.heap.size w w) := Lib.hid (Below.refl _ _)
  have HRf0 := Lib.hid (h)
  clear hS hI h
  have hr1 : (r1 != r1) = false := by simp
  go_enter Try.func7, Try.ntmps7
  go_wp2_with fail
  refine (szLessonS_any _ ps 1048576 _ HRf0.out (by omega) (by omega)).mono ?_
  rintro e w1 ⟨⟨r, rfl, hr1, hr2⟩, hb⟩
  have HB1 : Hid (Below w.heap.size w w1) := Lib.hid (HB0.out.trans (hb.mono HB0.out.size))
  have HZ1 : Hid (w.heap.size ≤ w1.heap.size) := Lib.hid hb.size
  have HRf1 := Lib.hid (HRf0.out.below HB1.out (Nat.le_refl _))
  clear hb
  by_cases hr : r < 0
  · clear hr2
    go_wp2_with fail
    go_ret
    exact ⟨rfl, HB1.out⟩
  have hn : ps.length ≤ 1048576 := by have := hr2 (by omega); omega
  clear hr2
  go_wp2_with fail
  refine (toLessonS_any _ ps _ HRf1.out hn).mono ?_
  rintro e w2 ⟨⟨st, rfl, ho⟩, hb⟩
  have HB2 : Hid (Below w.heap.size w w2) := Lib.hid (HB1.out.trans (hb.mono HB1.out.size))
  have HZ2 : Hid (w1.heap.size ≤ w2.heap.size) := Lib.hid hb.size
  have HRf2 := Lib.hid (HRf0.out.below HB2.out (Nat.le_refl _))
  clear hb
  obtain ⟨pt, kt, rfl⟩ := own_form ho
  have HCt := Lib.hid (RowsR.of_own lesC_len ho)
  clear ho
  go_wp2_with fail
  refine (HS.out hn _ _ HCt.out).mono ?_
  rintro e w3 ⟨⟨sw, rfl, ho⟩, hb⟩
  have HB3 : Hid (Below w.heap.size w w3) := Lib.hid (HB2.out.trans (hb.mono HB2.out.size))
  have HZ3 : Hid (w2.heap.size ≤ w3.heap.size) := Lib.hid hb.size
  have HRf3 := Lib.hid (HRf0.out.below HB3.out (Nat.le_refl _))
  clear hb
  obtain ⟨pw, kw, rfl⟩ := ho.form
  have HRw3 := Lib.hid (ho)
  have HBs3_3 : Hid (Below w3.heap.size w3 w3) := Lib.hid (Below.refl _ _)
  clear ho
  go_wp2_with fail
  refine (toLessonS_any _ ps _ HRf3.out hn).mono ?_
  rintro e w4 ⟨⟨sx, rfl, ho⟩, hb⟩
  have HB4 : Hid (Below w.heap.size w w4) := Lib.hid (HB3.out.trans (hb.mono HB3.out.size))
  have HZ4 : Hid (w3.heap.size ≤ w4.heap.size) := Lib.hid hb.size
  have HRf4 := Lib.hid (HRf0.out.below HB4.out (Nat.le_refl _))
  have HRw4 := Lib.hid (HRw3.out.below hb (Nat.le_refl _))
  have HBs3_4 : Hid (Below w3.heap.size w3 w4) := Lib.hid (HBs3_3.out.trans (hb.mono HBs3_3.out.size))
  clear hb
  obtain ⟨px, kx, rfl⟩ := own_form ho
  have HOx4 := Lib.hid (Ow.mk' ho)
  clear ho
  go_wp2_with fail
  refine (HI.out hn _ _ (RowsR.of_own lesC_len HOx4.out.1)).mono ?_
  rintro e w5 ⟨⟨sg, rfl, ho⟩, hb⟩
  have HB5 : Hid (Below w.heap.size w w5) := Lib.hid (HB4.out.trans (hb.mono HB4.out.size))
  have HZ5 : Hid (w4.heap.size ≤ w5.heap.size) := Lib.hid hb.size
  have HRf5 := Lib.hid (HRf0.out.below HB5.out (Nat.le_refl _))
  have HRw5 := Lib.hid (HRw4.out.below hb (Nat.le_refl _))
  have HOx5 := Lib.hid (HOx4.out.next hb)
  have HBs3_5 : Hid (Below w3.heap.size w3 w5) := Lib.hid (HBs3_4.out.trans (hb.mono HBs3_4.out.size))
  clear hb
  obtain ⟨pg, kg, rfl⟩ := own_form ho
  have HOg5 := Lib.hid (Ow.mk' ho)
  clear ho
  go_wp2_with fail
  refine (eqIntS_yes _ _ qs _ (RowsR.of_own inC_len HOg5.out.1) HRw5.out).mono ?_
  rintro e w6 ⟨rfl, hb⟩
  have HB6 : Hid (Below w.heap.size w w6) := Lib.hid (HB5.out.trans (hb.mono HB5.out.size))
  have HZ6 : Hid (w5.heap.size ≤ w6.heap.size) := Lib.hid hb.size
  have HRf6 := Lib.hid (HRf0.out.below HB6.out (Nat.le_refl _))
  have HRw6 := Lib.hid (HRw5.out.below hb (Nat.le_refl _))
  have HOx6 := Lib.hid (HOx5.out.next hb)
  have HOg6 := Lib.hid (HOg5.out.next hb)
  have HBs3_6 : Hid (Below w3.heap.size w3 w6) := Lib.hid (HBs3_5.out.trans (hb.mono HBs3_5.out.size))
  clear hb
  go_wp2_with fail
  refine (toLessonS_any _ ps _ HRf6.out hn).mono ?_
  rintro e w7 ⟨⟨sy, rfl, ho⟩, hb⟩
  have HB7 : Hid (Below w.heap.size w w7) := Lib.hid (HB6.out.trans (hb.mono HB6.out.size))
  have HZ7 : Hid (w6.heap.size ≤ w7.heap.size) := Lib.hid hb.size
  have HRf7 := Lib.hid (HRf0.out.below HB7.out (Nat.le_refl _))
  have HRw7 := Lib.hid (HRw6.out.below hb (Nat.le_refl _))
  have HOx7 := Lib.hid (HOx6.out.next hb)
  have HOg7 := Lib.hid (HOg6.out.next hb)
  have HBs3_7 : Hid (Below w3.heap.size w3 w7) := Lib.hid (HBs3_6.out.trans (hb.mono HBs3_6.out.size))
  clear hb
  obtain ⟨py, ky, rfl⟩ := own_form ho
  have HCy := Lib.hid (RowsR.of_own lesC_len ho)
  clear ho
  go_wp2_with fail
  refine (eqLessonS_yes _ _ ps _ (RowsR.of_own lesC_len HOx7.out.1) HCy.out).mono ?_
  rintro e w8 ⟨rfl, hb⟩
  have HB8 : Hid (Below w.heap.size w w8) := Lib.hid (HB7.out.trans (hb.mono HB7.out.size))
  have HZ8 : Hid (w7.heap.size ≤ w8.heap.size) := Lib.hid hb.size
  have HRf8 := Lib.hid (HRf0.out.below HB8.out (Nat.le_refl _))
  have HRw8 := Lib.hid (HRw7.out.below hb (Nat.le_refl _))
  have HOx8 := Lib.hid (HOx7.out.next hb)
  have HOg8 := Lib.hid (HOg7.out.next hb)
  have HBs3_8 : Hid (Below w3.heap.size w3 w8) := Lib.hid (HBs3_7.out.trans (hb.mono HBs3_7.out.size))
  clear hb
  go_wp2_with fail
  have hxk : ¬ (1 + 7 * (ps.length : Int) < 0) := by omega
  refine (markLessonS_any _ ps.length 1 _ _ _ _ _ HOx8.out hn (by omega) (by have := HZ1.out; have := HZ2.out; have := HZ3.out; have := HZ4.out; have := HZ5.out; have := HZ6.out; have := HZ7.out; have := HZ8.out;  omega)).mono ?_
  rintro e w9 ⟨rfl, ho, hm⟩
  have HZ9 : Hid (w8.heap.size ≤ w9.heap.size) := Lib.hid hm.size
  have HB9 : Hid (Below w.heap.size w w9) := Lib.hid (HB8.out.trans (hm.below.mono (by have := HZ1.out; have := HZ2.out; have := HZ3.out; have := HZ4.out; have := HZ5.out; have := HZ6.out; have := HZ7.out; have := HZ8.out; have := HB0.out.size; omega)))
  have HRf9 := Lib.hid (HRf0.out.below HB9.out (Nat.le_refl _))
  have HRw9 := Lib.hid (HRw3.out.below (HBs3_8.out.trans (hm.below.mono (by have := HZ1.out; have := HZ2.out; have := HZ3.out; have := HZ4.out; have := HZ5.out; have := HZ6.out; have := HZ7.out; have := HZ8.out; omega))) (Nat.le_refl _))
  have HOg9 := Lib.hid (HOg8.out.btw hm (by have := HZ1.out; have := HZ2.out; have := HZ3.out; have := HZ4.out; have := HZ5.out; have := HZ6.out; have := HZ7.out; have := HZ8.out; omega))
  have HBs3_9 : Hid (Below w3.heap.size w3 w9) := Lib.hid (HBs3_8.out.trans (hm.below.mono (by have := HZ1.out; have := HZ2.out; have := HZ3.out; have := HZ4.out; have := HZ5.out; have := HZ6.out; have := HZ7.out; have := HZ8.out; omega)))
  clear hm
  clear ho
  go_wp2_with fail
  refine (eqIntS_yes _ _ qs _ (RowsR.of_own inC_len HOg9.out.1) HRw9.out).mono ?_
  rintro e w10 ⟨rfl, hb⟩
  have HB10 : Hid (Below w.heap.size w w10) := Lib.hid (HB9.out.trans (hb.mono HB9.out.size))
  have HZ10 : Hid (w9.heap.size ≤ w10.heap.size) := Lib.hid hb.size
  have HRf10 := Lib.hid (HRf0.out.below HB10.out (Nat.le_refl _))
  have HRw10 := Lib.hid (HRw9.out.below hb (Nat.le_refl _))
  have HOg10 := Lib.hid (HOg9.out.next hb)
  have HBs3_10 : Hid (Below w3.heap.size w3 w10) := Lib.hid (HBs3_9.out.trans (hb.mono HBs3_9.out.size))
  clear hb
  go_wp2_with fail
  refine (markIntS_any _ qs.length 1 _ _ _ _ _ HOg10.out (by omega) (by omega)).mono ?_
  rintro e w11 ⟨rfl, ho, hm⟩
  have HZ11 : Hid (w10.heap.size ≤ w11.heap.size) := Lib.hid hm.size
  have HB11 : Hid (Below w.heap.size w w11) := Lib.hid (HB10.out.trans (hm.below.mono (by have := HZ1.out; have := HZ2.out; have := HZ3.out; have := HZ4.out; have := HZ5.out; have := HZ6.out; have := HZ7.out; have := HZ8.out; have := HZ9.out; have := HZ10.out; have := HB0.out.size; omega)))
  have HRf11 := Lib.hid (HRf0.out.below HB11.out (Nat.le_refl _))
  have HRw11 := Lib.hid (HRw3.out.below (HBs3_10.out.trans (hm.below.mono (by have := HZ1.out; have := HZ2.out; have := HZ3.out; have := HZ4.out; have := HZ5.out; have := HZ6.out; have := HZ7.out; have := HZ8.out; have := HZ9.out; have := HZ10.out; omega))) (Nat.le_refl _))
  have HBs3_11 : Hid (Below w3.heap.size w3 w11) := Lib.hid (HBs3_10.out.trans (hm.below.mono (by have := HZ1.out; have := HZ2.out; have := HZ3.out; have := HZ4.out; have := HZ5.out; have := HZ6.out; have := HZ7.out; have := HZ8.out; have := HZ9.out; have := HZ10.out; omega)))
  clear hm
  have HOg11 := Lib.hid (ho)
  clear ho
  go_wp2_with fail
  refine (heldIntS_any _ qs.length 1 _ (RowsR.of_own inC_len (own_relen' (mksI_len 1 qs.length) HOg11.out.1)) (by omega) (by omega)).mono ?_
  rintro e w12 ⟨rfl, hb⟩
  have HB12 : Hid (Below w.heap.size w w12) := Lib.hid (HB11.out.trans (hb.mono HB11.out.size))
  have HZ12 : Hid (w11.heap.size ≤ w12.heap.size) := Lib.hid hb.size
  have HRf12 := Lib.hid (HRf0.out.below HB12.out (Nat.le_refl _))
  have HRw12 := Lib.hid (HRw11.out.below hb (Nat.le_refl _))
  have HOg12 := Lib.hid (HOg11.out.next hb)
  have HBs3_12 : Hid (Below w3.heap.size w3 w12) := Lib.hid (HBs3_11.out.trans (hb.mono HBs3_11.out.size))
  clear hb
  go_wp2_with fail
  refine (toLessonS_any _ ps _ HRf12.out hn).mono ?_
  rintro e w13 ⟨⟨sz, rfl, ho⟩, hb⟩
  have HB13 : Hid (Below w.heap.size w w13) := Lib.hid (HB12.out.trans (hb.mono HB12.out.size))
  have HZ13 : Hid (w12.heap.size ≤ w13.heap.size) := Lib.hid hb.size
  have HRf13 := Lib.hid (HRf0.out.below HB13.out (Nat.le_refl _))
  have HRw13 := Lib.hid (HRw12.out.below hb (Nat.le_refl _))
  have HOg13 := Lib.hid (HOg12.out.next hb)
  have HBs3_13 : Hid (Below w3.heap.size w3 w13) := Lib.hid (HBs3_12.out.trans (hb.mono HBs3_12.out.size))
  clear hb
  obtain ⟨pz, kz, rfl⟩ := own_form ho
  have HCz := Lib.hid (RowsR.of_own lesC_len ho)
  clear ho
  go_wp2_with fail
  refine (HI.out hn _ _ HCz.out).mono ?_
  rintro e w14 ⟨⟨sh, rfl, ho⟩, hb⟩
  have HB14 : Hid (Below w.heap.size w w14) := Lib.hid (HB13.out.trans (hb.mono HB13.out.size))
  have HZ14 : Hid (w13.heap.size ≤ w14.heap.size) := Lib.hid hb.size
  have HRf14 := Lib.hid (HRf0.out.below HB14.out (Nat.le_refl _))
  have HRw14 := Lib.hid (HRw13.out.below hb (Nat.le_refl _))
  have HOg14 := Lib.hid (HOg13.out.next hb)
  have HBs3_14 : Hid (Below w3.heap.size w3 w14) := Lib.hid (HBs3_13.out.trans (hb.mono HBs3_13.out.size))
  clear hb
  obtain ⟨ph, kh, rfl⟩ := own_form ho
  have HOh14 := Lib.hid (Ow.mk' ho)
  clear ho
  go_wp2_with fail
  refine (eqIntS_yes _ _ qs _ (RowsR.of_own inC_len HOh14.out.1) HRw14.out).mono ?_
  rintro e w15 ⟨rfl, hb⟩
  have HB15 : Hid (Below w.heap.size w w15) := Lib.hid (HB14.out.trans (hb.mono HB14.out.size))
  have HZ15 : Hid (w14.heap.size ≤ w15.heap.size) := Lib.hid hb.size
  have HRf15 := Lib.hid (HRf0.out.below HB15.out (Nat.le_refl _))
  have HRw15 := Lib.hid (HRw14.out.below hb (Nat.le_refl _))
  have HOg15 := Lib.hid (HOg14.out.next hb)
  have HOh15 := Lib.hid (HOh14.out.next hb)
  have HBs3_15 : Hid (Below w3.heap.size w3 w15) := Lib.hid (HBs3_14.out.trans (hb.mono HBs3_14.out.size))
  clear hb
  go_wp2_with fail
  refine (heldIntS_any _ qs.length 1 _ (RowsR.of_own inC_len (own_relen' (mksI_len 1 qs.length) HOg15.out.1)) (by omega) (by omega)).mono ?_
  rintro e w16 ⟨rfl, hb⟩
  have HB16 : Hid (Below w.heap.size w w16) := Lib.hid (HB15.out.trans (hb.mono HB15.out.size))
  have HZ16 : Hid (w15.heap.size ≤ w16.heap.size) := Lib.hid hb.size
  have HRf16 := Lib.hid (HRf0.out.below HB16.out (Nat.le_refl _))
  have HRw16 := Lib.hid (HRw15.out.below hb (Nat.le_refl _))
  have HOg16 := Lib.hid (HOg15.out.next hb)
  have HOh16 := Lib.hid (HOh15.out.next hb)
  have HBs3_16 : Hid (Below w3.heap.size w3 w16) := Lib.hid (HBs3_15.out.trans (hb.mono HBs3_15.out.size))
  clear hb
  go_wp2_with fail
  go_ret
  exact ⟨rfl, HB16.out⟩
end Go.Proofs.Ytblbeoeklkcamaa
