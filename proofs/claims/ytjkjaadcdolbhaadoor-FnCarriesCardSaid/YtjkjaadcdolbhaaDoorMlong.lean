/- The model's LongestCarry. -/
import Derived.Test.YtjkjaadcdolbhaaDoorKx
import Derived.Test.YtjkjaadcdolbhaaDoorChv
namespace Go.Proofs.YtjkjaadcdolbhaaDoor
set_option linter.unusedVariables false
open Go.RowKit

set_option maxRecDepth 100000 in
set_option maxHeartbeats 3200000 in
theorem speLongestCarry_no (up lo : Int) (sv : Value) (rs : List (Int × Int)) (q : Int) (w : World) (h : RodsR w sv rs) (hc : ¬ canD up lo rs q 1) :
    Calls Tryd.prog 16 #[.agg #[.int .i64 up, .int .i64 lo, sv], .int .i64 q] w fun e w' => e = .returned (.tuple #[.int .i64 0, .bool false]) ∧ Below w.heap.size w w' := by
  obtain ⟨a, cp, rfl⟩ : ∃ a c, sv = .slice a rs.length c := by obtain ⟨a, c, e, _⟩ := h; exact ⟨a, c, e⟩
  have HC := Lib.hid hc
  have HB0 : Hid (Below w.heap.size w w) := Lib.hid (Below.refl _ _)
  have HRf0 := Lib.hid (h)
  clear h hc
  go_enter Tryd.func16, Tryd.ntmps16
  go_wp2_with fail
  have hb : Below w.heap.size w (w.alloc (.cells #[.int .i64 up, .int .i64 lo, .slice a rs.length cp] 26)) := (Below.refl _ _).alloc (Nat.le_refl _) _
  have hk : (w.alloc (.cells #[.int .i64 up, .int .i64 lo, .slice a rs.length cp] 26)).heap[w.heap.size]? = some (.cells #[.int .i64 up, .int .i64 lo, .slice a rs.length cp] 26 (0, 0)) := alloc_at rfl
  have hz : (w.alloc (.cells #[.int .i64 up, .int .i64 lo, .slice a rs.length cp] 26)).heap.size = w.heap.size + 1 := by simp
  generalize w.alloc (.cells #[.int .i64 up, .int .i64 lo, .slice a rs.length cp] 26) = w1 at hb hk hz ⊢
  have HB1 : Hid (Below w.heap.size w w1) := Lib.hid (HB0.out.trans (hb.mono HB0.out.size))
  have HZ1 : Hid (w.heap.size ≤ w1.heap.size) := Lib.hid hb.size
  have HRf1 := Lib.hid (HRf0.out.below HB1.out (Nat.le_refl _))
  have HKf1 := Lib.hid hk
  replace HZ1 : Hid (w.heap.size < w1.heap.size) := Lib.hid (by omega)
  have HE1 := Lib.hid hz
  clear hb hk hz
  refine (l6CanD_no up lo _ rs q 1 _ HRf1.out HC.out).mono ?_
  rintro e w2 ⟨rfl, hb⟩
  have HB2 : Hid (Below w.heap.size w w2) := Lib.hid (HB1.out.trans (hb.mono HB1.out.size))
  have HZ2 : Hid (w1.heap.size ≤ w2.heap.size) := Lib.hid hb.size
  have HRf2 := Lib.hid (HRf0.out.below HB2.out (Nat.le_refl _))
  have HKf2 := Lib.hid ((hb.block _ (lt_of_block HKf1.out)).trans HKf1.out)
  clear hb
  have ltf := lt_of_block HKf2.out
  obtain ⟨cf0, cf1, cf2, ff0, ff1, ff2⟩ := cell3 HKf2.out
  go_wp2_with fail
  go_ret2
  exact ⟨rfl, HB2.out⟩
set_option maxRecDepth 100000 in
set_option maxHeartbeats 3200000 in
theorem speLongestCarry_yes (up lo : Int) (sv : Value) (rs : List (Int × Int)) (qn : Nat) (w : World) (h : RodsR w sv rs) (hc : canD up lo rs qn 1) :
    Calls Tryd.prog 16 #[.agg #[.int .i64 up, .int .i64 lo, sv], .int .i64 qn] w fun e w' => e = .returned (.tuple #[.int .i64 ((chC (qn + 1) 1 rs : Nat) + 1 : Int), .bool true]) ∧ Below w.heap.size w w' := by
  obtain ⟨a, cp, rfl⟩ : ∃ a c, sv = .slice a rs.length c := by obtain ⟨a, c, e, _⟩ := h; exact ⟨a, c, e⟩
  have hm : rs.length ≤ 9223372036854775807 := by obtain ⟨_, _, _, ⟨m, _⟩, _⟩ := h; exact m
  have RL : Hid (∀ w' : World, Below w.heap.size w w' → ∀ k, (hk : k < rs.length) → ∃ b o, a = some ⟨b, o, none⟩ ∧ w'.cell? ⟨b, o + k * 2, none⟩ = some (.int .i64 rs[k].1) ∧ w'.cell? ⟨b, o + k * 2 + 1, none⟩ = some (.int .i64 rs[k].2)) := Lib.hid (rods_at h)
  have HC := Lib.hid hc
  have hlen : rs.length ≤ 8 := hc.1.2.2.2.2
  have hql : qn < rs.length := by have := hc.2.2.1; omega
  have hv : ChV rs (0 + (chC (qn + 1) 1 rs : Nat)) qn 1 0 := ChV.start hc.2.1 hql (by omega) (by omega) (by omega) (by have := hc.2.2.2.2; rwa [Int.toNat_natCast] at this)
  have hcb := chC_le (qn + 1) 1 rs
  obtain ⟨CT, hCT⟩ : ∃ CT, CT = chC (qn + 1) 1 rs := ⟨_, rfl⟩
  rw [← hCT] at hcb hv ⊢
  rw [Int.zero_add] at hv
  have HV := Lib.hid hv
  have HST := Lib.hid hc.2.1
  have HB0 : Hid (Below w.heap.size w w) := Lib.hid (Below.refl _ _)
  have HRf0 := Lib.hid (h)
  clear h hc hv hCT
  go_enter Tryd.func16, Tryd.ntmps16
  go_wp2_with fail
  have hb : Below w.heap.size w (w.alloc (.cells #[.int .i64 up, .int .i64 lo, .slice a rs.length cp] 26)) := (Below.refl _ _).alloc (Nat.le_refl _) _
  have hk : (w.alloc (.cells #[.int .i64 up, .int .i64 lo, .slice a rs.length cp] 26)).heap[w.heap.size]? = some (.cells #[.int .i64 up, .int .i64 lo, .slice a rs.length cp] 26 (0, 0)) := alloc_at rfl
  have hz : (w.alloc (.cells #[.int .i64 up, .int .i64 lo, .slice a rs.length cp] 26)).heap.size = w.heap.size + 1 := by simp
  generalize w.alloc (.cells #[.int .i64 up, .int .i64 lo, .slice a rs.length cp] 26) = w1 at hb hk hz ⊢
  have HB1 : Hid (Below w.heap.size w w1) := Lib.hid (HB0.out.trans (hb.mono HB0.out.size))
  have HZ1 : Hid (w.heap.size ≤ w1.heap.size) := Lib.hid hb.size
  have HRf1 := Lib.hid (HRf0.out.below HB1.out (Nat.le_refl _))
  have HKf1 := Lib.hid hk
  replace HZ1 : Hid (w.heap.size < w1.heap.size) := Lib.hid (by omega)
  have HE1 := Lib.hid hz
  clear hb hk hz
  refine (l6CanD_yes up lo _ rs qn 1 _ HRf1.out HC.out).mono ?_
  rintro e w2 ⟨rfl, hb⟩
  have HB2 : Hid (Below w.heap.size w w2) := Lib.hid (HB1.out.trans (hb.mono HB1.out.size))
  have HZ2 : Hid (w1.heap.size ≤ w2.heap.size) := Lib.hid hb.size
  have HRf2 := Lib.hid (HRf0.out.below HB2.out (Nat.le_refl _))
  have HKf2 := Lib.hid ((hb.block _ (lt_of_block HKf1.out)).trans HKf1.out)
  clear hb
  have ltf := lt_of_block HKf2.out
  obtain ⟨cf0, cf1, cf2, ff0, ff1, ff2⟩ := cell3 HKf2.out
  go_wp2_with fail
  have HKF := Lib.hid HKf2.out
  have HB2 := Lib.hid HB2.out
  go_loopw [6] (fun nv wr => ∃ (j c : Nat), nv = .int .i64 ((c : Int) + 1) ∧ j + c = qn ∧ ChV rs CT j 1 c ∧ Below w2.heap.size w2 wr) (fun nv _ => rs.length + 2 - (intOf nv).toNat)
  case atStart => exact ⟨qn, 0, rfl, by omega, HV.out, Below.refl _ _⟩
  case round =>
    obtain ⟨j, c, rfl, hjc, hcv, hb⟩ := hrel
    have HCV := Lib.hid hcv
    have HBR := Lib.hid hb
    have HBW : Hid (Below w.heap.size w wr) := Lib.hid (HB2.out.trans (hb.mono HB2.out.size))
    have hjl := hcv.lt
    have hcd := hcv.bd.2
    obtain ⟨b1, o1, rfl, x0, x1⟩ := RL.out _ HBW.out j hjl
    obtain ⟨p0, p1, p2, -, -, -⟩ := cell3 ((hb.block _ (lt_of_block HKF.out)).trans HKF.out)
    have hr0 := HST.out j hjl
    have HVV : Hid (5 * rs[j].1 + rs[j].2 = vAt rs j) := Lib.hid (by rw [vAt_in hjl]; rfl)
    have hvb := vAt_bd HST.out j
    have z1 : (0 : Int) ≤ (j : Int) := by omega
    have z2 : (j : Int) < (rs.length : Int) := by omega
    have hq1 : (qn : Int) - ((c : Int) + 1) = (j : Int) - 1 := by omega
    have hq2 : (j : Int) - 1 + 1 = (j : Int) := by omega
    clear hcv hb
    by_cases hj : 0 < j
    · have y1 : 0 ≤ (j : Int) - 1 := by omega
      have hw1 : IntKind.i64.wrap ((qn : Int) - ((c : Int) + 1)) = (j : Int) - 1 := by rw [IntKind.wrap_i64]; omega
      have hw2 : IntKind.i64.wrap ((j : Int) - 1 + 1) = (j : Int) := by rw [IntKind.wrap_i64]; omega
      go_wp2_with fail
      refine (l2Value_any rs[j].1 rs[j].2 _ (by omega) (by omega) (by omega) (by omega)).mono ?_
      rintro e w4 ⟨rfl, hb⟩
      rw [HVV.out]
      have HB4 := Lib.hid (HBR.out.trans (hb.mono HBR.out.size))
      have HB4W := Lib.hid (HBW.out.trans (hb.mono HBW.out.size))
      clear hb x0 x1 p0 p1 p2
      by_cases h9 : vAt rs j = 9
      · obtain ⟨i, rfl, hcv⟩ := HCV.out.step (by omega)
        have HC2 := Lib.hid hcv
        have hv9 : (vAt rs (i + 1) == 9) = true := by simp [h9]
        clear hcv
        go_wp2_with fail
        go_roundw
        case rel => exact ⟨i, c + 1, by first | rfl | go_num, by omega, HC2.out, HB4.out⟩
        case measure => simp [intOf]; omega
      · have hce := HCV.out.last (by omega)
        have HCE : Hid ((c : Int) + 1 = (CT : Int) + 1) := Lib.hid (by omega)
        have hv9 : (vAt rs j == 9) = false := by simp [h9]
        clear hce
        go_wp2_with fail
        go_ret2
        exact ⟨ret_int2 HCE.out, HB4W.out⟩
    · have hj0 : j = 0 := by omega
      have hnn : vAt rs 0 + 1 ≤ 9 := by
        subst hj0
        rcases Int.lt_or_le 9 (vAt rs 0 + 1) with h | h
        · obtain ⟨i, hi, _⟩ := HCV.out.step h
          omega
        · exact h
      have hce := HCV.out.last (by rw [hj0]; exact hnn)
      have HCE : Hid ((c : Int) + 1 = (CT : Int) + 1) := Lib.hid (by omega)
      have y1 : ¬ 0 ≤ (j : Int) - 1 := by omega
      have hw1 : IntKind.i64.wrap ((qn : Int) - ((c : Int) + 1)) = (j : Int) - 1 := by rw [IntKind.wrap_i64]; omega
      clear hce hj0
      go_wp2_with fail
      go_ret2
      exact ⟨ret_int2 HCE.out, HBW.out⟩
end Go.Proofs.YtjkjaadcdolbhaaDoor
