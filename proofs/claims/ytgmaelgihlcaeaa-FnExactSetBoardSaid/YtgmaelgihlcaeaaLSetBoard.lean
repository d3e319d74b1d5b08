/- The law on SetBoard: it returns true where the model and the program give one answer. -/
import Derived.Test.YtgmaelgihlcaeaaBoards
import Derived.Test.YtgmaelgihlcaeaaReg
import Derived.Deep.RegionHeld3
import Derived.Deep.Cut
namespace Go.Proofs.Ytgmaelgihlcaeaa
set_option linter.unusedVariables false
open Go.RowKit

set_option maxRecDepth 100000 in
set_option maxHeartbeats 3200000 in
theorem lawSetBoard (w : World) (a0 : Int) (a1 : Int) (qs qt : List Int) (hq : qs.length ≤ 1000 ∧ qt.length ≤ 1000) (r1 : Bool) 
    (hS : ∀ w, Calls Try.prog 22 #[.int .i64 a0, .int .i64 a1] w fun e w' => (∃ s1 t1, e = .returned (.tuple #[.agg #[s1, t1], .bool r1]) ∧ OwB w.heap.size w'.heap.size w' s1 t1 qs qt) ∧ Below w.heap.size w w') 
    (hI : ∀ w, Calls Try.prog 23 #[.int .i64 a0, .int .i64 a1] w fun e w' => (∃ s1 t1, e = .returned (.tuple #[.agg #[s1, t1], .bool r1]) ∧ OwB w.heap.size w'.heap.size w' s1 t1 qs qt) ∧ Below w.heap.size w w') :
    Calls Try.prog 6 #[.int .i64 a0, .int .i64 a1] w fun e w' => e = .returned (.bool true) ∧ Below w.heap.size w w' := by
  have HS := Lib.hid hS
  have HI := Lib.hid hI
  obtain ⟨hq1, hq2⟩ := hq
  have hqk : ¬ (1 + (qs.length : Int) + (qt.length : Int) < 0) := by omega
  have hqk' : ((1 + (qs.length : Int) + (qt.length : Int)) != (1 + (qs.length : Int) + (qt.length : Int))) = false := by simp
  have HB0 : Hid (Below w.heap.size w w) := Lib.hid (Below.refl _ _)
  clear hS hI
  have hr1 : (r1 != r1) = false := by simp
  go_enter Try.func6, Try.ntmps6
  go_wp2_with fail
  refine (HS.out _).mono ?_
  rintro e w1 ⟨⟨sw, tw, rfl, ho⟩, hb⟩
  have HB1 : Hid (Below w.heap.size w w1) := Lib.hid (HB0.out.trans (hb.mono HB0.out.size))
  have HZ1 : Hid (w.heap.size ≤ w1.heap.size) := Lib.hid hb.size
  clear hb
  obtain ⟨pw, kw, ppw, kkw, rfl, rfl⟩ := ho.form
  have HOw1 := Lib.hid (ho)
  clear ho
  go_wp2_with fail
  have hb : Below w1.heap.size w1 (w1.alloc (.cells #[.slice pw qs.length kw, .slice ppw qt.length kkw] 27)) := (Below.refl _ _).alloc (Nat.le_refl _) _
  have hk : (w1.alloc (.cells #[.slice pw qs.length kw, .slice ppw qt.length kkw] 27)).heap[w1.heap.size]? = some (.cells #[.slice pw qs.length kw, .slice ppw qt.length kkw] 27 (0, 0)) := alloc_at rfl
  have hz : (w1.alloc (.cells #[.slice pw qs.length kw, .slice ppw qt.length kkw] 27)).heap.size = w1.heap.size + 1 := by simp
  generalize w1.alloc (.cells #[.slice pw qs.length kw, .slice ppw qt.length kkw] 27) = w2 at hb hk hz ⊢
  have HB2 : Hid (Below w.heap.size w w2) := Lib.hid (HB1.out.trans (hb.mono HB1.out.size))
  have HZ2 : Hid (w1.heap.size ≤ w2.heap.size) := Lib.hid hb.size
  have HOw2 := Lib.hid (HOw1.out.next hb)
  have HKw02 := Lib.hid hk
  replace HZ2 : Hid (w1.heap.size < w2.heap.size) := Lib.hid (by omega)
  have HE2 := Lib.hid hz
  clear hb hk hz
  have ltw0 := lt_of_block HKw02.out
  obtain ⟨cw00, cw01, fw00, fw01⟩ := cell2 HKw02.out
  refine (HI.out _).mono ?_
  rintro e w3 ⟨⟨sg, tg, rfl, ho⟩, hb⟩
  have HB3 : Hid (Below w.heap.size w w3) := Lib.hid (HB2.out.trans (hb.mono HB2.out.size))
  have HZ3 : Hid (w2.heap.size ≤ w3.heap.size) := Lib.hid hb.size
  have HOw3 := Lib.hid (HOw2.out.next hb)
  have HKw03 := Lib.hid ((hb.block _ (lt_of_block HKw02.out)).trans HKw02.out)
  clear hb
  obtain ⟨pg, kg, ppg, kkg, rfl, rfl⟩ := ho.form
  have HOg3 := Lib.hid (ho)
  clear ho
  clear cw00 cw01 fw00 fw01 ltw0
  have ltw0 := lt_of_block HKw03.out
  obtain ⟨cw00, cw01, fw00, fw01⟩ := cell2 HKw03.out
  go_wp2_with fail
  have hb : Below w3.heap.size w3 (w3.alloc (.cells #[.slice pg qs.length kg, .slice ppg qt.length kkg] 27)) := (Below.refl _ _).alloc (Nat.le_refl _) _
  have hk : (w3.alloc (.cells #[.slice pg qs.length kg, .slice ppg qt.length kkg] 27)).heap[w3.heap.size]? = some (.cells #[.slice pg qs.length kg, .slice ppg qt.length kkg] 27 (0, 0)) := alloc_at rfl
  have hz : (w3.alloc (.cells #[.slice pg qs.length kg, .slice ppg qt.length kkg] 27)).heap.size = w3.heap.size + 1 := by simp
  generalize w3.alloc (.cells #[.slice pg qs.length kg, .slice ppg qt.length kkg] 27) = w4 at hb hk hz ⊢
  have HB4 : Hid (Below w.heap.size w w4) := Lib.hid (HB3.out.trans (hb.mono HB3.out.size))
  have HZ4 : Hid (w3.heap.size ≤ w4.heap.size) := Lib.hid hb.size
  have HOw4 := Lib.hid (HOw3.out.next hb)
  have HKw04 := Lib.hid ((hb.block _ (lt_of_block HKw03.out)).trans HKw03.out)
  have HOg4 := Lib.hid (HOg3.out.next hb)
  have HKg04 := Lib.hid hk
  replace HZ4 : Hid (w3.heap.size < w4.heap.size) := Lib.hid (by omega)
  have HE4 := Lib.hid hz
  clear hb hk hz
  refine (eqBoard_yes _ _ _ _ qs qt _ HOg4.out.reads HOw4.out.reads).mono ?_
  rintro e w5 ⟨rfl, hb⟩
  have HB5 : Hid (Below w.heap.size w w5) := Lib.hid (HB4.out.trans (hb.mono HB4.out.size))
  have HZ5 : Hid (w4.heap.size ≤ w5.heap.size) := Lib.hid hb.size
  have HOw5 := Lib.hid (HOw4.out.next hb)
  have HKw05 := Lib.hid ((hb.block _ (lt_of_block HKw04.out)).trans HKw04.out)
  have HOg5 := Lib.hid (HOg4.out.next hb)
  have HKg05 := Lib.hid ((hb.block _ (lt_of_block HKg04.out)).trans HKg04.out)
  clear hb
  clear cw00 cw01 fw00 fw01 ltw0
  have ltw0 := lt_of_block HKw05.out
  obtain ⟨cw00, cw01, fw00, fw01⟩ := cell2 HKw05.out
  have ltg0 := lt_of_block HKg05.out
  obtain ⟨cg00, cg01, fg00, fg01⟩ := cell2 HKg05.out
  go_wp2_with fail
  refine (markBoard_at _ _ qs qt _ _ _ HOg5.out (by omega) (by omega) 1 (by omega) (by have := HZ1.out; have := HZ2.out; have := HZ3.out; have := HZ4.out; have := HZ5.out;  omega) (by have := HZ1.out; have := HZ2.out; have := HZ3.out; have := HZ4.out; have := HZ5.out;  omega) (by have := HZ1.out; have := HZ2.out; have := HZ3.out; have := HZ4.out; have := HZ5.out;  omega)).mono ?_
  rintro e w6 ⟨rfl, ho, hm⟩
  have HZ6 : Hid (w5.heap.size ≤ w6.heap.size) := Lib.hid hm.size
  have HB6 : Hid (Below w.heap.size w w6) := Lib.hid (HB5.out.trans (hm.below.mono (by have := HZ1.out; have := HZ2.out; have := HZ3.out; have := HZ4.out; have := HZ5.out; have := HB0.out.size; omega)))
  have HOw6 := Lib.hid (HOw5.out.btw hm (by have := HZ1.out; have := HZ2.out; have := HZ3.out; have := HZ4.out; have := HZ5.out; omega))
  have HKw06 := Lib.hid ((hm.block _ (by have := lt_of_block HKw05.out; have := HZ1.out; have := HZ2.out; have := HZ3.out; have := HZ4.out; have := HZ5.out; omega)).trans HKw05.out)
  have HKg06 := Lib.hid ((hm.block _ (by have := lt_of_block HKg05.out; have := HZ1.out; have := HZ2.out; have := HZ3.out; have := HZ4.out; have := HZ5.out; omega)).trans HKg05.out)
  clear hm
  have HOg6 := Lib.hid (ho)
  clear ho
  clear cw00 cw01 fw00 fw01 ltw0 cg00 cg01 fg00 fg01 ltg0
  have ltw0 := lt_of_block HKw06.out
  obtain ⟨cw00, cw01, fw00, fw01⟩ := cell2 HKw06.out
  have ltg0 := lt_of_block HKg06.out
  obtain ⟨cg00, cg01, fg00, fg01⟩ := cell2 HKg06.out
  go_wp2_with fail
  refine (heldBoard_any _ _ qs.length qt.length 1 _ (by have := HOg6.out.reads; exact this) (by omega) (by omega) (by omega)).mono ?_
  rintro e w7 ⟨rfl, hb⟩
  have HB7 : Hid (Below w.heap.size w w7) := Lib.hid (HB6.out.trans (hb.mono HB6.out.size))
  have HZ7 : Hid (w6.heap.size ≤ w7.heap.size) := Lib.hid hb.size
  have HOw7 := Lib.hid (HOw6.out.next hb)
  have HKw07 := Lib.hid ((hb.block _ (lt_of_block HKw06.out)).trans HKw06.out)
  have HOg7 := Lib.hid (HOg6.out.next hb)
  have HKg07 := Lib.hid ((hb.block _ (lt_of_block HKg06.out)).trans HKg06.out)
  clear hb
  clear cw00 cw01 fw00 fw01 ltw0 cg00 cg01 fg00 fg01 ltg0
  have ltw0 := lt_of_block HKw07.out
  obtain ⟨cw00, cw01, fw00, fw01⟩ := cell2 HKw07.out
  have ltg0 := lt_of_block HKg07.out
  obtain ⟨cg00, cg01, fg00, fg01⟩ := cell2 HKg07.out
  go_wp2_with fail
  refine (HI.out _).mono ?_
  rintro e w8 ⟨⟨sh, th, rfl, ho⟩, hb⟩
  have HB8 : Hid (Below w.heap.size w w8) := Lib.hid (HB7.out.trans (hb.mono HB7.out.size))
  have HZ8 : Hid (w7.heap.size ≤ w8.heap.size) := Lib.hid hb.size
  have HOw8 := Lib.hid (HOw7.out.next hb)
  have HKw08 := Lib.hid ((hb.block _ (lt_of_block HKw07.out)).trans HKw07.out)
  have HOg8 := Lib.hid (HOg7.out.next hb)
  have HKg08 := Lib.hid ((hb.block _ (lt_of_block HKg07.out)).trans HKg07.out)
  clear hb
  obtain ⟨ph, kh, pph, kkh, rfl, rfl⟩ := ho.form
  have HOh8 := Lib.hid (ho)
  clear ho
  clear cw00 cw01 fw00 fw01 ltw0 cg00 cg01 fg00 fg01 ltg0
  have ltw0 := lt_of_block HKw08.out
  obtain ⟨cw00, cw01, fw00, fw01⟩ := cell2 HKw08.out
  have ltg0 := lt_of_block HKg08.out
  obtain ⟨cg00, cg01, fg00, fg01⟩ := cell2 HKg08.out
  go_wp2_with fail
  have hb : Below w8.heap.size w8 (w8.alloc (.cells #[.slice ph qs.length kh, .slice pph qt.length kkh] 27)) := (Below.refl _ _).alloc (Nat.le_refl _) _
  have hk : (w8.alloc (.cells #[.slice ph qs.length kh, .slice pph qt.length kkh] 27)).heap[w8.heap.size]? = some (.cells #[.slice ph qs.length kh, .slice pph qt.length kkh] 27 (0, 0)) := alloc_at rfl
  have hz : (w8.alloc (.cells #[.slice ph qs.length kh, .slice pph qt.length kkh] 27)).heap.size = w8.heap.size + 1 := by simp
  generalize w8.alloc (.cells #[.slice ph qs.length kh, .slice pph qt.length kkh] 27) = w9 at hb hk hz ⊢
  have HB9 : Hid (Below w.heap.size w w9) := Lib.hid (HB8.out.trans (hb.mono HB8.out.size))
  have HZ9 : Hid (w8.heap.size ≤ w9.heap.size) := Lib.hid hb.size
  have HOw9 := Lib.hid (HOw8.out.next hb)
  have HKw09 := Lib.hid ((hb.block _ (lt_of_block HKw08.out)).trans HKw08.out)
  have HOg9 := Lib.hid (HOg8.out.next hb)
  have HKg09 := Lib.hid ((hb.block _ (lt_of_block HKg08.out)).trans HKg08.out)
  have HOh9 := Lib.hid (HOh8.out.next hb)
  have HKh09 := Lib.hid hk
  replace HZ9 : Hid (w8.heap.size < w9.heap.size) := Lib.hid (by omega)
  have HE9 := Lib.hid hz
  clear hb hk hz
  refine (eqBoard_yes _ _ _ _ qs qt _ HOh9.out.reads HOw9.out.reads).mono ?_
  rintro e w10 ⟨rfl, hb⟩
  have HB10 : Hid (Below w.heap.size w w10) := Lib.hid (HB9.out.trans (hb.mono HB9.out.size))
  have HZ10 : Hid (w9.heap.size ≤ w10.heap.size) := Lib.hid hb.size
  have HOw10 := Lib.hid (HOw9.out.next hb)
  have HKw010 := Lib.hid ((hb.block _ (lt_of_block HKw09.out)).trans HKw09.out)
  have HOg10 := Lib.hid (HOg9.out.next hb)
  have HKg010 := Lib.hid ((hb.block _ (lt_of_block HKg09.out)).trans HKg09.out)
  have HOh10 := Lib.hid (HOh9.out.next hb)
  have HKh010 := Lib.hid ((hb.block _ (lt_of_block HKh09.out)).trans HKh09.out)
  clear hb
  clear cw00 cw01 fw00 fw01 ltw0 cg00 cg01 fg00 fg01 ltg0
  have ltw0 := lt_of_block HKw010.out
  obtain ⟨cw00, cw01, fw00, fw01⟩ := cell2 HKw010.out
  have ltg0 := lt_of_block HKg010.out
  obtain ⟨cg00, cg01, fg00, fg01⟩ := cell2 HKg010.out
  have lth0 := lt_of_block HKh010.out
  obtain ⟨ch00, ch01, fh00, fh01⟩ := cell2 HKh010.out
  go_wp2_with fail
  refine (heldBoard_any _ _ qs.length qt.length 1 _ (by have := HOg10.out.reads; exact this) (by omega) (by omega) (by omega)).mono ?_
  rintro e w11 ⟨rfl, hb⟩
  have HB11 : Hid (Below w.heap.size w w11) := Lib.hid (HB10.out.trans (hb.mono HB10.out.size))
  have HZ11 : Hid (w10.heap.size ≤ w11.heap.size) := Lib.hid hb.size
  have HOw11 := Lib.hid (HOw10.out.next hb)
  have HKw011 := Lib.hid ((hb.block _ (lt_of_block HKw010.out)).trans HKw010.out)
  have HOg11 := Lib.hid (HOg10.out.next hb)
  have HKg011 := Lib.hid ((hb.block _ (lt_of_block HKg010.out)).trans HKg010.out)
  have HOh11 := Lib.hid (HOh10.out.next hb)
  have HKh011 := Lib.hid ((hb.block _ (lt_of_block HKh010.out)).trans HKh010.out)
  clear hb
  clear cw00 cw01 fw00 fw01 ltw0 cg00 cg01 fg00 fg01 ltg0 ch00 ch01 fh00 fh01 lth0
  have ltw0 := lt_of_block HKw011.out
  obtain ⟨cw00, cw01, fw00, fw01⟩ := cell2 HKw011.out
  have ltg0 := lt_of_block HKg011.out
  obtain ⟨cg00, cg01, fg00, fg01⟩ := cell2 HKg011.out
  have lth0 := lt_of_block HKh011.out
  obtain ⟨ch00, ch01, fh00, fh01⟩ := cell2 HKh011.out
  go_wp2_with fail
  go_ret
  exact ⟨rfl, HB11.out⟩
end Go.Proofs.Ytgmaelgihlcaeaa
