/- The program's scalar functions on frames. -/
import Derived.Test.YthmbehknacjodaaKn
import Derived.Test.YthmbehknacjodaaSf
namespace Go.Proofs.Ythmbehknacjodaa
set_option linter.unusedVariables false
open Go.RowKit

theorem ret_bool2 {a b : Bool} {v : Value} (h : a = b) : Ending.returned (.tuple #[.bool a, v]) = .returned (.tuple #[.bool b, v]) := by rw [h]
set_option maxRecDepth 100000 in
set_option maxHeartbeats 1600000 in
theorem implNumberOn_no (up lo : Int) (sv : Value) (rs : List (Int × Int)) (w : World) (h : RodsR w sv rs) (hg : ¬ goodF up lo rs) :
    Calls Try.prog 34 #[.agg #[.int .i64 up, .int .i64 lo, sv]] w fun e w' => e = .returned (.tuple #[.int .i64 0, .bool false]) ∧ Below w.heap.size w w' := by
  obtain ⟨a, c, rfl⟩ : ∃ a c, sv = .slice a rs.length c := by obtain ⟨a, c, e, _⟩ := h; exact ⟨a, c, e⟩
  have HB0 : Hid (Below w.heap.size w w) := Lib.hid (Below.refl _ _)
  have HRf0 := Lib.hid (h)
  clear h
  go_enter Try.func34, Try.ntmps34
  go_wp2_with fail
  have hb : Below w.heap.size w (w.alloc (.cells #[.int .i64 up, .int .i64 lo, .slice a rs.length c] 42)) := (Below.refl _ _).alloc (Nat.le_refl _) _
  have hk : (w.alloc (.cells #[.int .i64 up, .int .i64 lo, .slice a rs.length c] 42)).heap[w.heap.size]? = some (.cells #[.int .i64 up, .int .i64 lo, .slice a rs.length c] 42 (0, 0)) := alloc_at rfl
  have hz : (w.alloc (.cells #[.int .i64 up, .int .i64 lo, .slice a rs.length c] 42)).heap.size = w.heap.size + 1 := by simp
  generalize w.alloc (.cells #[.int .i64 up, .int .i64 lo, .slice a rs.length c] 42) = w1 at hb hk hz ⊢
  have HB1 : Hid (Below w.heap.size w w1) := Lib.hid (HB0.out.trans (hb.mono HB0.out.size))
  have HZ1 : Hid (w.heap.size ≤ w1.heap.size) := Lib.hid hb.size
  have HRf1 := Lib.hid (HRf0.out.below HB1.out (Nat.le_refl _))
  have HKf1 := Lib.hid hk
  replace HZ1 : Hid (w.heap.size < w1.heap.size) := Lib.hid (by omega)
  have HE1 := Lib.hid hz
  clear hb hk hz
  refine (implIsFrame_no up lo _ rs _ HRf1.out hg).mono ?_
  rintro e w2 ⟨rfl, hb⟩
  have HB2 : Hid (Below w.heap.size w w2) := Lib.hid (HB1.out.trans (hb.mono HB1.out.size))
  have HZ2 : Hid (w1.heap.size ≤ w2.heap.size) := Lib.hid hb.size
  have HRf2 := Lib.hid (HRf0.out.below HB2.out (Nat.le_refl _))
  have HKf2 := Lib.hid ((hb.block _ (lt_of_block HKf1.out)).trans HKf1.out)
  clear hb
  have ltf := lt_of_block HKf2.out
  obtain ⟨cf0, cf1, cf2, ff0, ff1, ff2⟩ := cell3 HKf2.out
  go_wp2_with fail
  go_ret2
  exact ⟨rfl, HB2.out⟩

set_option maxRecDepth 100000 in
set_option maxHeartbeats 1600000 in
theorem valueOf_sgn (x y : Int) (w : World) (h : (-1000 ≤ x ∧ x ≤ 1000) ∧ (-1000 ≤ y ∧ y ≤ 1000)) :
    Calls Try.prog 119 #[.agg #[.int .i64 x, .int .i64 y]] w fun e w' => e = .returned (.int .i64 (5 * x + y)) ∧ Below w.heap.size w w' := by
  obtain ⟨⟨h1, h2⟩, h3, h4⟩ := h
  go_enter Try.func119, Try.ntmps119
  go_wp2_with fail
  go_ret
  exact ⟨rfl, (Below.refl _ _).alloc (Nat.le_refl _) _⟩
set_option maxRecDepth 100000 in
set_option maxHeartbeats 1600000 in
theorem numberOf_any (sv : Value) (rs : List (Int × Int)) (w : World) (h : RodsR w sv rs) (hb9 : ∀ k (h : k < rs.length), (-1000 ≤ rs[k].1 ∧ rs[k].1 ≤ 1000) ∧ (-1000 ≤ rs[k].2 ∧ rs[k].2 ≤ 1000)) (hn : ∀ k, k ≤ rs.length → -1000000000000 ≤ numF (rs.take k) ∧ numF (rs.take k) ≤ 1000000000000) :
    Calls Try.prog 92 #[sv] w fun e w' => e = .returned (.int .i64 (numF rs)) ∧ Below w.heap.size w w' := by
  have hm : rs.length ≤ 9223372036854775807 := by obtain ⟨_, _, _, ⟨m, _⟩, _⟩ := h; exact m
  obtain ⟨a, c, rfl⟩ : ∃ a c, sv = .slice a rs.length c := by obtain ⟨a, c, e, _⟩ := h; exact ⟨a, c, e⟩
  have HN := Lib.hid hn
  have HG := Lib.hid hb9
  have RL : Hid (∀ w' : World, Below w.heap.size w w' → ∀ k, (hk : k < rs.length) → ∃ b o, a = some ⟨b, o, none⟩ ∧ w'.cell? ⟨b, o + k * 2, none⟩ = some (.int .i64 rs[k].1) ∧ w'.cell? ⟨b, o + k * 2 + 1, none⟩ = some (.int .i64 rs[k].2)) := Lib.hid (rods_at h)
  have HB0 : Hid (Below w.heap.size w w) := Lib.hid (Below.refl _ _)
  have HRf0 := Lib.hid (h)
  clear h hn hb9
  go_enter Try.func92, Try.ntmps92
  go_wp2_with fail
  go_loopw [3, 8] (fun n i wr => ∃ k : Nat, k ≤ rs.length ∧ i = .int .i64 k ∧ n = .int .i64 (numF (rs.take k)) ∧ Below w.heap.size w wr) (fun _ i _ => rs.length - (intOf i).toNat)
  case atStart => exact ⟨0, Nat.zero_le _, rfl, rfl, HB0.out⟩
  case round =>
    obtain ⟨k, hk, rfl, rfl, hb⟩ := hrel
    obtain ⟨n1, n2⟩ := HN.out k hk
    by_cases hlt : k < rs.length
    · obtain ⟨b1, o1, rfl, p1, p2⟩ := RL.out _ hb k hlt
      obtain ⟨⟨d1, d2⟩, d3, d4⟩ := HG.out k hlt
      have HS := Lib.hid (numF_snoc rs k hlt)
      have z1 : (0 : Int) ≤ (k : Int) := by omega
      have z2 : (k : Int) < (rs.length : Int) := by omega
      have HB10 : Hid (Below w.heap.size w wr) := Lib.hid hb
      have HRf10 := Lib.hid (HRf0.out.below HB10.out (Nat.le_refl _))
      clear hb
      go_wp2_with fail
      have hb : Below wr.heap.size wr (wr.alloc (.cells #[.int .i64 rs[k].1, .int .i64 rs[k].2] 77)) := (Below.refl _ _).alloc (Nat.le_refl _) _
      have hk : (wr.alloc (.cells #[.int .i64 rs[k].1, .int .i64 rs[k].2] 77)).heap[wr.heap.size]? = some (.cells #[.int .i64 rs[k].1, .int .i64 rs[k].2] 77 (0, 0)) := alloc_at rfl
      have hz : (wr.alloc (.cells #[.int .i64 rs[k].1, .int .i64 rs[k].2] 77)).heap.size = wr.heap.size + 1 := by simp
      generalize wr.alloc (.cells #[.int .i64 rs[k].1, .int .i64 rs[k].2] 77) = w11 at hb hk hz ⊢
      have HB11 : Hid (Below w.heap.size w w11) := Lib.hid (HB10.out.trans (hb.mono HB10.out.size))
      have HZ11 : Hid (wr.heap.size ≤ w11.heap.size) := Lib.hid hb.size
      have HRf11 := Lib.hid (HRf0.out.below HB11.out (Nat.le_refl _))
      have HKr11 := Lib.hid hk
      replace HZ11 : Hid (wr.heap.size < w11.heap.size) := Lib.hid (by omega)
      have HE11 := Lib.hid hz
      clear hb hk hz
      refine (valueOf_sgn _ _ _ ⟨⟨d1, d2⟩, d3, d4⟩).mono ?_
      rintro e w12 ⟨rfl, hb⟩
      have HB12 : Hid (Below w.heap.size w w12) := Lib.hid (HB11.out.trans (hb.mono HB11.out.size))
      have HZ12 : Hid (w11.heap.size ≤ w12.heap.size) := Lib.hid hb.size
      have HRf12 := Lib.hid (HRf0.out.below HB12.out (Nat.le_refl _))
      have HKr12 := Lib.hid ((hb.block _ (lt_of_block HKr11.out)).trans HKr11.out)
      clear hb
      have ltr := lt_of_block HKr12.out
      obtain ⟨cr0, cr1, fr0, fr1⟩ := cell2 HKr12.out
      go_wp2_with fail
      go_roundw
      case rel => exact ⟨k + 1, by omega, by go_num, by rw [HS.out]; rfl, HB12.out⟩
      case measure => simp [intOf]; omega
    · have HT : Hid (numF (rs.take k) = numF rs) := Lib.hid (by rw [List.take_of_length_le (by omega)])
      have HB := Lib.hid hb
      clear hb
      go_wp2_with fail
      go_ret
      exact ⟨ret_int HT.out, HB.out⟩
set_option maxRecDepth 100000 in
set_option maxHeartbeats 1600000 in
theorem implNumberOn_yes (up lo : Int) (sv : Value) (rs : List (Int × Int)) (w : World) (h : RodsR w sv rs) (hg : goodF up lo rs) :
    Calls Try.prog 34 #[.agg #[.int .i64 up, .int .i64 lo, sv]] w fun e w' => e = .returned (.tuple #[.int .i64 (numF rs), .bool true]) ∧ Below w.heap.size w w' := by
  obtain ⟨a, c, rfl⟩ : ∃ a c, sv = .slice a rs.length c := by obtain ⟨a, c, e, _⟩ := h; exact ⟨a, c, e⟩
  have HN : Hid (∀ k, k ≤ rs.length → -1000000000000 ≤ numF (rs.take k) ∧ numF (rs.take k) ≤ 1000000000000) := Lib.hid (fun k hk => by have := numF_max up lo rs hg k hk; omega)
  have HG := Lib.hid hg
  have HD : Hid (∀ k (h : k < rs.length), (-1000 ≤ rs[k].1 ∧ rs[k].1 ≤ 1000) ∧ (-1000 ≤ rs[k].2 ∧ rs[k].2 ≤ 1000)) := Lib.hid (fun k hk => by
    have h1 := hg.1 k hk; have h2 := hg.2.1; have h3 := hg.2.2.1; unfold rodOk at h1; omega)
  have HB0 : Hid (Below w.heap.size w w) := Lib.hid (Below.refl _ _)
  have HRf0 := Lib.hid (h)
  clear h hg
  go_enter Try.func34, Try.ntmps34
  go_wp2_with fail
  have hb : Below w.heap.size w (w.alloc (.cells #[.int .i64 up, .int .i64 lo, .slice a rs.length c] 42)) := (Below.refl _ _).alloc (Nat.le_refl _) _
  have hk : (w.alloc (.cells #[.int .i64 up, .int .i64 lo, .slice a rs.length c] 42)).heap[w.heap.size]? = some (.cells #[.int .i64 up, .int .i64 lo, .slice a rs.length c] 42 (0, 0)) := alloc_at rfl
  have hz : (w.alloc (.cells #[.int .i64 up, .int .i64 lo, .slice a rs.length c] 42)).heap.size = w.heap.size + 1 := by simp
  generalize w.alloc (.cells #[.int .i64 up, .int .i64 lo, .slice a rs.length c] 42) = w1 at hb hk hz ⊢
  have HB1 : Hid (Below w.heap.size w w1) := Lib.hid (HB0.out.trans (hb.mono HB0.out.size))
  have HZ1 : Hid (w.heap.size ≤ w1.heap.size) := Lib.hid hb.size
  have HRf1 := Lib.hid (HRf0.out.below HB1.out (Nat.le_refl _))
  have HKf1 := Lib.hid hk
  replace HZ1 : Hid (w.heap.size < w1.heap.size) := Lib.hid (by omega)
  have HE1 := Lib.hid hz
  clear hb hk hz
  refine (implIsFrame_yes up lo _ rs _ HRf1.out HG.out).mono ?_
  rintro e w2 ⟨rfl, hb⟩
  have HB2 : Hid (Below w.heap.size w w2) := Lib.hid (HB1.out.trans (hb.mono HB1.out.size))
  have HZ2 : Hid (w1.heap.size ≤ w2.heap.size) := Lib.hid hb.size
  have HRf2 := Lib.hid (HRf0.out.below HB2.out (Nat.le_refl _))
  have HKf2 := Lib.hid ((hb.block _ (lt_of_block HKf1.out)).trans HKf1.out)
  clear hb
  have ltf := lt_of_block HKf2.out
  obtain ⟨cf0, cf1, cf2, ff0, ff1, ff2⟩ := cell3 HKf2.out
  go_wp2_with fail
  refine (numberOf_any _ rs _ HRf2.out HD.out HN.out).mono ?_
  rintro e w3 ⟨rfl, hb⟩
  have HB3 : Hid (Below w.heap.size w w3) := Lib.hid (HB2.out.trans (hb.mono HB2.out.size))
  have HZ3 : Hid (w2.heap.size ≤ w3.heap.size) := Lib.hid hb.size
  have HRf3 := Lib.hid (HRf0.out.below HB3.out (Nat.le_refl _))
  have HKf3 := Lib.hid ((hb.block _ (lt_of_block HKf2.out)).trans HKf2.out)
  clear hb
  clear cf0 cf1 cf2 ff0 ff1 ff2 ltf
  have ltf := lt_of_block HKf3.out
  obtain ⟨cf0, cf1, cf2, ff0, ff1, ff2⟩ := cell3 HKf3.out
  go_wp2_with fail
  go_ret2
  exact ⟨rfl, HB3.out⟩

set_option maxRecDepth 100000 in
set_option maxHeartbeats 1600000 in
theorem hasRod_bad (up lo : Int) (sv : Value) (rs : List (Int × Int)) (w : World) (h : RodsR w sv rs) (q : Int) (hg : ¬ goodF up lo rs) :
    Calls Try.prog 142 #[.agg #[.int .i64 up, .int .i64 lo, sv], .int .i64 q] w fun e w' => e = .returned (.bool false) ∧ Below w.heap.size w w' := by
  have hm : rs.length ≤ 9223372036854775807 := by obtain ⟨_, _, _, ⟨m, _⟩, _⟩ := h; exact m
  obtain ⟨a, c, rfl⟩ : ∃ a c, sv = .slice a rs.length c := by obtain ⟨a, c, e, _⟩ := h; exact ⟨a, c, e⟩
  have HG := Lib.hid hg
  have RL : Hid (∀ w' : World, Below w.heap.size w w' → ∀ k, (hk : k < rs.length) → ∃ b o, a = some ⟨b, o, none⟩ ∧ w'.cell? ⟨b, o + k * 2, none⟩ = some (.int .i64 rs[k].1) ∧ w'.cell? ⟨b, o + k * 2 + 1, none⟩ = some (.int .i64 rs[k].2)) := Lib.hid (rods_at h)
  have HB0 : Hid (Below w.heap.size w w) := Lib.hid (Below.refl _ _)
  have HRf0 := Lib.hid (h)
  clear h hg
  go_enter Try.func142, Try.ntmps142
  go_wp2_with fail
  have hb : Below w.heap.size w (w.alloc (.cells #[.int .i64 up, .int .i64 lo, .slice a rs.length c] 42)) := (Below.refl _ _).alloc (Nat.le_refl _) _
  have hk : (w.alloc (.cells #[.int .i64 up, .int .i64 lo, .slice a rs.length c] 42)).heap[w.heap.size]? = some (.cells #[.int .i64 up, .int .i64 lo, .slice a rs.length c] 42 (0, 0)) := alloc_at rfl
  have hz : (w.alloc (.cells #[.int .i64 up, .int .i64 lo, .slice a rs.length c] 42)).heap.size = w.heap.size + 1 := by simp
  generalize w.alloc (.cells #[.int .i64 up, .int .i64 lo, .slice a rs.length c] 42) = w1 at hb hk hz ⊢
  have HB1 : Hid (Below w.heap.size w w1) := Lib.hid (HB0.out.trans (hb.mono HB0.out.size))
  have HZ1 : Hid (w.heap.size ≤ w1.heap.size) := Lib.hid hb.size
  have HRf1 := Lib.hid (HRf0.out.below HB1.out (Nat.le_refl _))
  have HKf1 := Lib.hid hk
  replace HZ1 : Hid (w.heap.size < w1.heap.size) := Lib.hid (by omega)
  have HE1 := Lib.hid hz
  clear hb hk hz
  refine (implIsFrame_no up lo _ rs _ HRf1.out HG.out).mono ?_
  rintro e w2 ⟨rfl, hb⟩
  have HB2 : Hid (Below w.heap.size w w2) := Lib.hid (HB1.out.trans (hb.mono HB1.out.size))
  have HZ2 : Hid (w1.heap.size ≤ w2.heap.size) := Lib.hid hb.size
  have HRf2 := Lib.hid (HRf0.out.below HB2.out (Nat.le_refl _))
  have HKf2 := Lib.hid ((hb.block _ (lt_of_block HKf1.out)).trans HKf1.out)
  clear hb
  have ltf := lt_of_block HKf2.out
  obtain ⟨cf0, cf1, cf2, ff0, ff1, ff2⟩ := cell3 HKf2.out
  go_wp2_with fail
  go_ret
  exact ⟨rfl, HB2.out⟩
set_option maxRecDepth 100000 in
set_option maxHeartbeats 1600000 in
theorem hasRod_good (up lo : Int) (sv : Value) (rs : List (Int × Int)) (w : World) (h : RodsR w sv rs) (q : Int) (hg : goodF up lo rs) :
    Calls Try.prog 142 #[.agg #[.int .i64 up, .int .i64 lo, sv], .int .i64 q] w fun e w' => e = .returned (.bool (inB q 0 ((rs.length : Int) - 1))) ∧ Below w.heap.size w w' := by
  have hm : rs.length ≤ 9223372036854775807 := by obtain ⟨_, _, _, ⟨m, _⟩, _⟩ := h; exact m
  obtain ⟨a, c, rfl⟩ : ∃ a c, sv = .slice a rs.length c := by obtain ⟨a, c, e, _⟩ := h; exact ⟨a, c, e⟩
  have HG := Lib.hid hg
  have RL : Hid (∀ w' : World, Below w.heap.size w w' → ∀ k, (hk : k < rs.length) → ∃ b o, a = some ⟨b, o, none⟩ ∧ w'.cell? ⟨b, o + k * 2, none⟩ = some (.int .i64 rs[k].1) ∧ w'.cell? ⟨b, o + k * 2 + 1, none⟩ = some (.int .i64 rs[k].2)) := Lib.hid (rods_at h)
  have HB0 : Hid (Below w.heap.size w w) := Lib.hid (Below.refl _ _)
  have HRf0 := Lib.hid (h)
  clear h hg
  go_enter Try.func142, Try.ntmps142
  go_wp2_with fail
  have hb : Below w.heap.size w (w.alloc (.cells #[.int .i64 up, .int .i64 lo, .slice a rs.length c] 42)) := (Below.refl _ _).alloc (Nat.le_refl _) _
  have hk : (w.alloc (.cells #[.int .i64 up, .int .i64 lo, .slice a rs.length c] 42)).heap[w.heap.size]? = some (.cells #[.int .i64 up, .int .i64 lo, .slice a rs.length c] 42 (0, 0)) := alloc_at rfl
  have hz : (w.alloc (.cells #[.int .i64 up, .int .i64 lo, .slice a rs.length c] 42)).heap.size = w.heap.size + 1 := by simp
  generalize w.alloc (.cells #[.int .i64 up, .int .i64 lo, .slice a rs.length c] 42) = w1 at hb hk hz ⊢
  have HB1 : Hid (Below w.heap.size w w1) := Lib.hid (HB0.out.trans (hb.mono HB0.out.size))
  have HZ1 : Hid (w.heap.size ≤ w1.heap.size) := Lib.hid hb.size
  have HRf1 := Lib.hid (HRf0.out.below HB1.out (Nat.le_refl _))
  have HKf1 := Lib.hid hk
  replace HZ1 : Hid (w.heap.size < w1.heap.size) := Lib.hid (by omega)
  have HE1 := Lib.hid hz
  clear hb hk hz
  refine (implIsFrame_yes up lo _ rs _ HRf1.out HG.out).mono ?_
  rintro e w2 ⟨rfl, hb⟩
  have HB2 : Hid (Below w.heap.size w w2) := Lib.hid (HB1.out.trans (hb.mono HB1.out.size))
  have HZ2 : Hid (w1.heap.size ≤ w2.heap.size) := Lib.hid hb.size
  have HRf2 := Lib.hid (HRf0.out.below HB2.out (Nat.le_refl _))
  have HKf2 := Lib.hid ((hb.block _ (lt_of_block HKf1.out)).trans HKf1.out)
  clear hb
  by_cases h1 : q < 0
  · have hi : inB q 0 ((rs.length : Int) - 1) = false := inB_no (by omega)
    have ltf := lt_of_block HKf2.out
    obtain ⟨cf0, cf1, cf2, ff0, ff1, ff2⟩ := cell3 HKf2.out
    go_wp2_with fail
    go_ret
    exact ⟨rfl, HB2.out⟩
  by_cases h2 : q < (rs.length : Int)
  · have hi : inB q 0 ((rs.length : Int) - 1) = true := inB_yes (by omega) (by omega)
    have ltf := lt_of_block HKf2.out
    obtain ⟨cf0, cf1, cf2, ff0, ff1, ff2⟩ := cell3 HKf2.out
    go_wp2_with fail
    go_ret
    exact ⟨by simp [hi]; try omega, HB2.out⟩
  · have hi : inB q 0 ((rs.length : Int) - 1) = false := inB_no (by omega)
    have ltf := lt_of_block HKf2.out
    obtain ⟨cf0, cf1, cf2, ff0, ff1, ff2⟩ := cell3 HKf2.out
    go_wp2_with fail
    go_ret
    exact ⟨by simp [hi]; try omega, HB2.out⟩
set_option maxRecDepth 100000 in
set_option maxHeartbeats 1600000 in
theorem implIsStandard_no (up lo : Int) (sv : Value) (rs : List (Int × Int)) (w : World) (h : RodsR w sv rs) (hg : ¬ goodF up lo rs) :
    Calls Try.prog 133 #[.agg #[.int .i64 up, .int .i64 lo, sv]] w fun e w' => e = .returned (.tuple #[.bool false, .bool false]) ∧ Below w.heap.size w w' := by
  have hm : rs.length ≤ 9223372036854775807 := by obtain ⟨_, _, _, ⟨m, _⟩, _⟩ := h; exact m
  obtain ⟨a, c, rfl⟩ : ∃ a c, sv = .slice a rs.length c := by obtain ⟨a, c, e, _⟩ := h; exact ⟨a, c, e⟩
  have HG := Lib.hid hg
  have RL : Hid (∀ w' : World, Below w.heap.size w w' → ∀ k, (hk : k < rs.length) → ∃ b o, a = some ⟨b, o, none⟩ ∧ w'.cell? ⟨b, o + k * 2, none⟩ = some (.int .i64 rs[k].1) ∧ w'.cell? ⟨b, o + k * 2 + 1, none⟩ = some (.int .i64 rs[k].2)) := Lib.hid (rods_at h)
  have HB0 : Hid (Below w.heap.size w w) := Lib.hid (Below.refl _ _)
  have HRf0 := Lib.hid (h)
  clear h hg
  go_enter Try.func133, Try.ntmps133
  go_wp2_with fail
  have hb : Below w.heap.size w (w.alloc (.cells #[.int .i64 up, .int .i64 lo, .slice a rs.length c] 42)) := (Below.refl _ _).alloc (Nat.le_refl _) _
  have hk : (w.alloc (.cells #[.int .i64 up, .int .i64 lo, .slice a rs.length c] 42)).heap[w.heap.size]? = some (.cells #[.int .i64 up, .int .i64 lo, .slice a rs.length c] 42 (0, 0)) := alloc_at rfl
  have hz : (w.alloc (.cells #[.int .i64 up, .int .i64 lo, .slice a rs.length c] 42)).heap.size = w.heap.size + 1 := by simp
  generalize w.alloc (.cells #[.int .i64 up, .int .i64 lo, .slice a rs.length c] 42) = w1 at hb hk hz ⊢
  have HB1 : Hid (Below w.heap.size w w1) := Lib.hid (HB0.out.trans (hb.mono HB0.out.size))
  have HZ1 : Hid (w.heap.size ≤ w1.heap.size) := Lib.hid hb.size
  have HRf1 := Lib.hid (HRf0.out.below HB1.out (Nat.le_refl _))
  have HKf1 := Lib.hid hk
  replace HZ1 : Hid (w.heap.size < w1.heap.size) := Lib.hid (by omega)
  have HE1 := Lib.hid hz
  clear hb hk hz
  refine (implIsFrame_no up lo _ rs _ HRf1.out HG.out).mono ?_
  rintro e w2 ⟨rfl, hb⟩
  have HB2 : Hid (Below w.heap.size w w2) := Lib.hid (HB1.out.trans (hb.mono HB1.out.size))
  have HZ2 : Hid (w1.heap.size ≤ w2.heap.size) := Lib.hid hb.size
  have HRf2 := Lib.hid (HRf0.out.below HB2.out (Nat.le_refl _))
  have HKf2 := Lib.hid ((hb.block _ (lt_of_block HKf1.out)).trans HKf1.out)
  clear hb
  have ltf := lt_of_block HKf2.out
  obtain ⟨cf0, cf1, cf2, ff0, ff1, ff2⟩ := cell3 HKf2.out
  go_wp2_with fail
  go_ret2
  exact ⟨rfl, HB2.out⟩
set_option maxRecDepth 100000 in
set_option maxHeartbeats 1600000 in
theorem implIsStandard_scan (up lo : Int) (sv : Value) (rs : List (Int × Int)) (w : World) (h : RodsR w sv rs) (hg : goodF up lo rs) (p : Nat) (hp : p ≤ rs.length) (hpre : ∀ i (h : i < rs.length), i < p → stdR rs[i]) (hx : ∀ h : p < rs.length, ¬ stdR rs[p]) :
    Calls Try.prog 133 #[.agg #[.int .i64 up, .int .i64 lo, sv]] w fun e w' => e = .returned (.tuple #[.bool (decide (p = rs.length)), .bool true]) ∧ Below w.heap.size w w' := by
  have hm : rs.length ≤ 9223372036854775807 := by obtain ⟨_, _, _, ⟨m, _⟩, _⟩ := h; exact m
  obtain ⟨a, c, rfl⟩ : ∃ a c, sv = .slice a rs.length c := by obtain ⟨a, c, e, _⟩ := h; exact ⟨a, c, e⟩
  have HG := Lib.hid hg
  have P1 := Lib.hid hpre
  have X1 := Lib.hid hx
  clear hpre hx
  have RL : Hid (∀ w' : World, Below w.heap.size w w' → ∀ k, (hk : k < rs.length) → ∃ b o, a = some ⟨b, o, none⟩ ∧ w'.cell? ⟨b, o + k * 2, none⟩ = some (.int .i64 rs[k].1) ∧ w'.cell? ⟨b, o + k * 2 + 1, none⟩ = some (.int .i64 rs[k].2)) := Lib.hid (rods_at h)
  have HB0 : Hid (Below w.heap.size w w) := Lib.hid (Below.refl _ _)
  have HRf0 := Lib.hid (h)
  clear h hg
  go_enter Try.func133, Try.ntmps133
  go_wp2_with fail
  have hb : Below w.heap.size w (w.alloc (.cells #[.int .i64 up, .int .i64 lo, .slice a rs.length c] 42)) := (Below.refl _ _).alloc (Nat.le_refl _) _
  have hk : (w.alloc (.cells #[.int .i64 up, .int .i64 lo, .slice a rs.length c] 42)).heap[w.heap.size]? = some (.cells #[.int .i64 up, .int .i64 lo, .slice a rs.length c] 42 (0, 0)) := alloc_at rfl
  have hz : (w.alloc (.cells #[.int .i64 up, .int .i64 lo, .slice a rs.length c] 42)).heap.size = w.heap.size + 1 := by simp
  generalize w.alloc (.cells #[.int .i64 up, .int .i64 lo, .slice a rs.length c] 42) = w1 at hb hk hz ⊢
  have HB1 : Hid (Below w.heap.size w w1) := Lib.hid (HB0.out.trans (hb.mono HB0.out.size))
  have HZ1 : Hid (w.heap.size ≤ w1.heap.size) := Lib.hid hb.size
  have HRf1 := Lib.hid (HRf0.out.below HB1.out (Nat.le_refl _))
  have HKf1 := Lib.hid hk
  replace HZ1 : Hid (w.heap.size < w1.heap.size) := Lib.hid (by omega)
  have HE1 := Lib.hid hz
  clear hb hk hz
  refine (implIsFrame_yes up lo _ rs _ HRf1.out HG.out).mono ?_
  rintro e w2 ⟨rfl, hb⟩
  have HB2 : Hid (Below w.heap.size w w2) := Lib.hid (HB1.out.trans (hb.mono HB1.out.size))
  have HZ2 : Hid (w1.heap.size ≤ w2.heap.size) := Lib.hid hb.size
  have HRf2 := Lib.hid (HRf0.out.below HB2.out (Nat.le_refl _))
  have HKf2 := Lib.hid ((hb.block _ (lt_of_block HKf1.out)).trans HKf1.out)
  clear hb
  have ltf := lt_of_block HKf2.out
  obtain ⟨cf0, cf1, cf2, ff0, ff1, ff2⟩ := cell3 HKf2.out
  go_wp2_with fail
  refine (standardRod_any 9 _ ⟨by omega, by omega⟩).mono ?_
  rintro e w3 ⟨rfl, hb⟩
  have HB3 : Hid (Below w.heap.size w w3) := Lib.hid (HB2.out.trans (hb.mono HB2.out.size))
  have HZ3 : Hid (w2.heap.size ≤ w3.heap.size) := Lib.hid hb.size
  have HRf3 := Lib.hid (HRf0.out.below HB3.out (Nat.le_refl _))
  have HKf3 := Lib.hid ((hb.block _ (lt_of_block HKf2.out)).trans HKf2.out)
  clear hb
  clear cf0 cf1 cf2 ff0 ff1 ff2 ltf
  have ltf := lt_of_block HKf3.out
  obtain ⟨cf0, cf1, cf2, ff0, ff1, ff2⟩ := cell3 HKf3.out
  go_wp2_with fail
  have hb : Below w3.heap.size w3 (w3.alloc (.cells #[.int .i64 1, .int .i64 4] 77)) := (Below.refl _ _).alloc (Nat.le_refl _) _
  have hk : (w3.alloc (.cells #[.int .i64 1, .int .i64 4] 77)).heap[w3.heap.size]? = some (.cells #[.int .i64 1, .int .i64 4] 77 (0, 0)) := alloc_at rfl
  have hz : (w3.alloc (.cells #[.int .i64 1, .int .i64 4] 77)).heap.size = w3.heap.size + 1 := by simp
  generalize w3.alloc (.cells #[.int .i64 1, .int .i64 4] 77) = w4 at hb hk hz ⊢
  have HB4 : Hid (Below w.heap.size w w4) := Lib.hid (HB3.out.trans (hb.mono HB3.out.size))
  have HZ4 : Hid (w3.heap.size ≤ w4.heap.size) := Lib.hid hb.size
  have HRf4 := Lib.hid (HRf0.out.below HB4.out (Nat.le_refl _))
  have HKf4 := Lib.hid ((hb.block _ (lt_of_block HKf3.out)).trans HKf3.out)
  have HKs4 := Lib.hid hk
  replace HZ4 : Hid (w3.heap.size < w4.heap.size) := Lib.hid (by omega)
  have HE4 := Lib.hid hz
  clear hb hk hz
  go_loopw [14] (fun i wr => ∃ k : Nat, k ≤ p ∧ i = .int .i64 k ∧ wr.heap[w3.heap.size]? = some (.cells #[.int .i64 1, .int .i64 4] 77 (0, 0)) ∧ Below w.heap.size w wr) (fun i _ => rs.length - (intOf i).toNat)
  case atStart => exact ⟨0, Nat.zero_le _, rfl, HKs4.out, HB4.out⟩
  case round =>
    obtain ⟨k, hk, rfl, hs, hb⟩ := hrel
    by_cases hlt : k < rs.length
    · obtain ⟨b1, o1, rfl, p1, p2⟩ := RL.out _ hb k hlt
      obtain ⟨⟨d1, d2⟩, d3, d4⟩ := HG.out.1 k hlt
      have z1 : (0 : Int) ≤ (k : Int) := by omega
      have z2 : (k : Int) < (rs.length : Int) := by omega
      have HB10 : Hid (Below w.heap.size w wr) := Lib.hid hb
      have HRf10 := Lib.hid (HRf0.out.below HB10.out (Nat.le_refl _))
      have HKs10 := Lib.hid (hs)
      clear hb hs
      have lts := lt_of_block HKs10.out
      obtain ⟨cs0, cs1, fs0, fs1⟩ := cell2 HKs10.out
      go_wp2_with fail
      have hb : Below wr.heap.size wr (wr.alloc (.cells #[.int .i64 rs[k].1, .int .i64 rs[k].2] 77)) := (Below.refl _ _).alloc (Nat.le_refl _) _
      have hk : (wr.alloc (.cells #[.int .i64 rs[k].1, .int .i64 rs[k].2] 77)).heap[wr.heap.size]? = some (.cells #[.int .i64 rs[k].1, .int .i64 rs[k].2] 77 (0, 0)) := alloc_at rfl
      have hz : (wr.alloc (.cells #[.int .i64 rs[k].1, .int .i64 rs[k].2] 77)).heap.size = wr.heap.size + 1 := by simp
      generalize wr.alloc (.cells #[.int .i64 rs[k].1, .int .i64 rs[k].2] 77) = w11 at hb hk hz ⊢
      have HB11 : Hid (Below w.heap.size w w11) := Lib.hid (HB10.out.trans (hb.mono HB10.out.size))
      have HZ11 : Hid (wr.heap.size ≤ w11.heap.size) := Lib.hid hb.size
      have HRf11 := Lib.hid (HRf0.out.below HB11.out (Nat.le_refl _))
      have HKs11 := Lib.hid ((hb.block _ (lt_of_block HKs10.out)).trans HKs10.out)
      have HKr11 := Lib.hid hk
      replace HZ11 : Hid (wr.heap.size < w11.heap.size) := Lib.hid (by omega)
      have HE11 := Lib.hid hz
      clear hb hk hz
      clear cs0 cs1 fs0 fs1 lts
      have lts := lt_of_block HKs11.out
      obtain ⟨cs0, cs1, fs0, fs1⟩ := cell2 HKs11.out
      have ltr := lt_of_block HKr11.out
      obtain ⟨cr0, cr1, fr0, fr1⟩ := cell2 HKr11.out
      go_wp2_with fail
      by_cases hkp : k < p
      · have hq := P1.out k hlt hkp
        refine (hasAtMost_yes _ _ _ _ _ ⟨⟨d1, hq.1⟩, d3, hq.2⟩).mono ?_
        rintro e w12 ⟨rfl, hb⟩
        have HB12 : Hid (Below w.heap.size w w12) := Lib.hid (HB11.out.trans (hb.mono HB11.out.size))
        have HZ12 : Hid (w11.heap.size ≤ w12.heap.size) := Lib.hid hb.size
        have HRf12 := Lib.hid (HRf0.out.below HB12.out (Nat.le_refl _))
        have HKs12 := Lib.hid ((hb.block _ (lt_of_block HKs11.out)).trans HKs11.out)
        have HKr12 := Lib.hid ((hb.block _ (lt_of_block HKr11.out)).trans HKr11.out)
        clear hb
        clear cs0 cs1 fs0 fs1 lts cr0 cr1 fr0 fr1 ltr
        have lts := lt_of_block HKs12.out
        obtain ⟨cs0, cs1, fs0, fs1⟩ := cell2 HKs12.out
        have ltr := lt_of_block HKr12.out
        obtain ⟨cr0, cr1, fr0, fr1⟩ := cell2 HKr12.out
        go_wp2_with fail
        go_roundw
        case rel => exact ⟨k + 1, by omega, by go_num, HKs12.out, HB12.out⟩
        case measure => simp [intOf]; omega
      · have hke : k = p := by omega
        subst hke
        refine (hasAtMost_no _ _ _ _ _ (fun h' => X1.out hlt ⟨h'.1.2, h'.2.2⟩)).mono ?_
        rintro e w12 ⟨rfl, hb⟩
        have HB12 : Hid (Below w.heap.size w w12) := Lib.hid (HB11.out.trans (hb.mono HB11.out.size))
        have HZ12 : Hid (w11.heap.size ≤ w12.heap.size) := Lib.hid hb.size
        have HRf12 := Lib.hid (HRf0.out.below HB12.out (Nat.le_refl _))
        have HKs12 := Lib.hid ((hb.block _ (lt_of_block HKs11.out)).trans HKs11.out)
        have HKr12 := Lib.hid ((hb.block _ (lt_of_block HKr11.out)).trans HKr11.out)
        clear hb
        clear cs0 cs1 fs0 fs1 lts cr0 cr1 fr0 fr1 ltr
        have lts := lt_of_block HKs12.out
        obtain ⟨cs0, cs1, fs0, fs1⟩ := cell2 HKs12.out
        have ltr := lt_of_block HKr12.out
        obtain ⟨cr0, cr1, fr0, fr1⟩ := cell2 HKr12.out
        go_wp2_with fail
        go_ret2
        exact ⟨ret_bool2 (by simp; omega), HB12.out⟩
    · have hke : p = rs.length := by omega
      subst hke
      have HB := Lib.hid hb
      clear hb hs
      go_wp2_with fail
      go_ret2
      exact ⟨ret_bool2 (by simp), HB.out⟩
theorem implIsStandard_good (up lo : Int) (sv : Value) (rs : List (Int × Int)) (w : World) (h : RodsR w sv rs) (hg : goodF up lo rs) :
    ∃ b, (b = true ↔ ∀ i (h : i < rs.length), stdR rs[i]) ∧ Calls Try.prog 133 #[.agg #[.int .i64 up, .int .i64 lo, sv]] w fun e w' => e = .returned (.tuple #[.bool b, .bool true]) ∧ Below w.heap.size w w' := by
  obtain ⟨p, hp, hpre, hx⟩ := first_bad rs.length (fun i h => stdR rs[i])
  refine ⟨_, ?_, implIsStandard_scan up lo sv rs w h hg p hp hpre hx⟩
  constructor
  · intro e i h
    have e' : p = rs.length := by simpa using e
    exact hpre i h (by omega)
  · intro ha
    have : ¬ p < rs.length := fun h => hx h (ha p h)
    simp; omega
end Go.Proofs.Ythmbehknacjodaa
