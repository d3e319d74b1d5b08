/- The law on SplitString: it returns true where the model and the program give one answer. -/
import Derived.Test.YtfmkdfmholhnjaaStrm
import Derived.Test.YtfmkdfmholhnjaaFlat
namespace Go.Proofs.Ytfmkdfmholhnjaa
set_option linter.unusedVariables false
open Go.RowKit

theorem eqStringS_b (v1 v2 : Value) (ss : List ByteArray) (w : World) (h1 : SlR w v1 (ss.map Value.string)) (h2 : SlR w v2 (ss.map Value.string)) :
    Calls Try.prog 7 #[v1, v2] w fun e w' => e = .returned (.bool true) ∧ Below w.heap.size w w' :=
  (eqStringS_yes v1 v2 ss w h1 h2).mono fun e w' ⟨he, m, hw⟩ => ⟨he, by subst hw; exact bl_drewN (Below.refl _ _) m⟩
theorem slr_own {w : World} {B n : Nat} {e : TypeId} {v : Value} {xs : List Value} (h : w.ownsRow B e 1 v n xs) : SlR w v xs := by
  have hl : xs.length = n := by have := h.1; omega
  exact SlR.of_own (own_relen' hl h)
set_option maxRecDepth 100000 in
set_option maxHeartbeats 3200000 in
theorem lawSplitString (w : World) (a0 a1 : ByteArray) (b0 : a0.size ≤ maxLen) (b1 : a1.size ≤ maxLen) (qs : List ByteArray) (hq : qs.length ≤ 5000) (r1 : Bool)
    (hS : ∀ w, Calls Try.prog 5 #[.string a0, .string a1] w fun e w' => (∃ v, e = .returned (.tuple #[v, .bool r1]) ∧ w'.ownsRow w.heap.size 9 1 v qs.length (qs.map Value.string)) ∧ Below w.heap.size w w')
    (hI : ∀ w, Calls Try.prog 6 #[.string a0, .string a1] w fun e w' => (∃ v, e = .returned (.tuple #[v, .bool r1]) ∧ w'.ownsRow w.heap.size 9 1 v qs.length (qs.map Value.string)) ∧ Below w.heap.size w w') :
    Calls Try.prog 3 #[.string a0, .string a1] w fun e w' => e = .returned (.bool true) ∧ Below w.heap.size w w' := by
  unfold maxLen at b0 b1
  have HS := Lib.hid hS
  have HI := Lib.hid hI
  have hr1 : (r1 != r1) = false := by simp
  clear hS hI
  by_cases h0 : (1048576 : Int) < (a0.size : Int)
  · go_enter Try.func3, Try.ntmps3
    go_wp2_with fail
    go_ret
    exact ⟨rfl, Below.refl _ _⟩
  · by_cases h1 : (1048576 : Int) < (a1.size : Int)
    · go_enter Try.func3, Try.ntmps3
      go_wp2_with fail
      go_ret
      exact ⟨rfl, Below.refl _ _⟩
    · have hqk : ¬ (1 + (qs.length : Int) < 0) := by omega
      have hqk' : ((1 + (qs.length : Int)) != (1 + (qs.length : Int))) = false := by simp
      have HB0 : Hid (Below w.heap.size w w) := Lib.hid (Below.refl _ _)
      go_enter Try.func3, Try.ntmps3
      go_wp2_with fail
      refine (HS.out _).mono ?_
      rintro e w1 ⟨⟨v1, rfl, ho⟩, hb⟩
      have HB1 : Hid (Below w.heap.size w w1) := Lib.hid (HB0.out.trans (hb.mono HB0.out.size))
      have HZ1 : Hid (w.heap.size ≤ w1.heap.size) := Lib.hid hb.size
      clear hb
      have HOs1 := Lib.hid (Ow.mk' ho)
      clear ho
      go_wp2_with fail
      refine (HI.out _).mono ?_
      rintro e w2 ⟨⟨v2, rfl, ho⟩, hb⟩
      have HB2 : Hid (Below w.heap.size w w2) := Lib.hid (HB1.out.trans (hb.mono HB1.out.size))
      have HZ2 : Hid (w1.heap.size ≤ w2.heap.size) := Lib.hid hb.size
      have HOs2 := Lib.hid (HOs1.out.next hb)
      clear hb
      have HOg2 := Lib.hid (Ow.mk' ho)
      clear ho
      have hs12 : w1.heap.size ≤ w2.heap.size := by have := HZ1.out; have := HZ2.out;  omega
      go_wp2_with fail
      refine (eqStringS_b _ _ qs _ (slr_own HOg2.out.1) (slr_own HOs2.out.1)).mono ?_
      rintro e w3 ⟨rfl, hb⟩
      have HB3 : Hid (Below w.heap.size w w3) := Lib.hid (HB2.out.trans (hb.mono HB2.out.size))
      have HZ3 : Hid (w2.heap.size ≤ w3.heap.size) := Lib.hid hb.size
      have HOs3 := Lib.hid (HOs2.out.next hb)
      have HOg3 := Lib.hid (HOg2.out.next hb)
      clear hb
      go_wp2_with fail
      refine (markStringS_any _ qs.length 1 _ _ _ _ _ HOg3.out (by omega) (by omega) (by have := HZ1.out; have := HZ2.out; have := HZ3.out;  omega)).mono ?_
      rintro e w4 ⟨rfl, ho, hm⟩
      have HZ4 : Hid (w3.heap.size ≤ w4.heap.size) := Lib.hid hm.size
      have HB4 : Hid (Below w.heap.size w w4) := Lib.hid (HB3.out.trans (hm.below.mono (by have := HZ1.out; have := HZ2.out; have := HZ3.out; have := HB0.out.size; omega)))
      have HOs4 := Lib.hid (HOs3.out.btw hm (by have := HZ1.out; have := HZ2.out; have := HZ3.out; omega))
      clear hm
      have HOg4 := Lib.hid (ho)
      clear ho
      go_wp2_with fail
      refine (heldStringS_any _ qs.length 1 _ (slr_own HOg4.out.1) (by omega) (by omega)).mono ?_
      rintro e w5 ⟨rfl, hb⟩
      have HB5 : Hid (Below w.heap.size w w5) := Lib.hid (HB4.out.trans (hb.mono HB4.out.size))
      have HZ5 : Hid (w4.heap.size ≤ w5.heap.size) := Lib.hid hb.size
      have HOs5 := Lib.hid (HOs4.out.next hb)
      have HOg5 := Lib.hid (HOg4.out.next hb)
      clear hb
      go_wp2_with fail
      refine (HI.out _).mono ?_
      rintro e w6 ⟨⟨v3, rfl, ho⟩, hb⟩
      have HB6 : Hid (Below w.heap.size w w6) := Lib.hid (HB5.out.trans (hb.mono HB5.out.size))
      have HZ6 : Hid (w5.heap.size ≤ w6.heap.size) := Lib.hid hb.size
      have HOs6 := Lib.hid (HOs5.out.next hb)
      have HOg6 := Lib.hid (HOg5.out.next hb)
      clear hb
      have HOh6 := Lib.hid (Ow.mk' ho)
      clear ho
      go_wp2_with fail
      refine (eqStringS_b _ _ qs _ (slr_own HOh6.out.1) (slr_own HOs6.out.1)).mono ?_
      rintro e w7 ⟨rfl, hb⟩
      have HB7 : Hid (Below w.heap.size w w7) := Lib.hid (HB6.out.trans (hb.mono HB6.out.size))
      have HZ7 : Hid (w6.heap.size ≤ w7.heap.size) := Lib.hid hb.size
      have HOs7 := Lib.hid (HOs6.out.next hb)
      have HOg7 := Lib.hid (HOg6.out.next hb)
      have HOh7 := Lib.hid (HOh6.out.next hb)
      clear hb
      go_wp2_with fail
      refine (heldStringS_any _ qs.length 1 _ (slr_own HOg7.out.1) (by omega) (by omega)).mono ?_
      rintro e w8 ⟨rfl, hb⟩
      have HB8 : Hid (Below w.heap.size w w8) := Lib.hid (HB7.out.trans (hb.mono HB7.out.size))
      have HZ8 : Hid (w7.heap.size ≤ w8.heap.size) := Lib.hid hb.size
      have HOs8 := Lib.hid (HOs7.out.next hb)
      have HOg8 := Lib.hid (HOg7.out.next hb)
      have HOh8 := Lib.hid (HOh7.out.next hb)
      clear hb
      go_wp2_with fail
      go_ret
      exact ⟨rfl, HB8.out⟩
end Go.Proofs.Ytfmkdfmholhnjaa
