/- The program's scalar functions on frames. -/
import Derived.Test.YtmkocinknhaniaaKn
import Derived.Test.YtmkocinknhaniaaSf
namespace Go.Proofs.Ytmkocinknhaniaa
set_option linter.unusedVariables false
open Go.RowKit

theorem ret_bool2 {a b : Bool} {v : Value} (h : a = b) : Ending.returned (.tuple #[.bool a, v]) = .returned (.tuple #[.bool b, v]) := by rw [h]
set_option maxRecDepth 100000 in
set_option maxHeartbeats 1600000 in
theorem valueOf_sgn (x y : Int) (w : World) (h : (-1000 ≤ x ∧ x ≤ 1000) ∧ (-1000 ≤ y ∧ y ≤ 1000)) :
    Calls Try.prog 48 #[.agg #[.int .i64 x, .int .i64 y]] w fun e w' => e = .returned (.int .i64 (5 * x + y)) ∧ Below w.heap.size w w' := by
  obtain ⟨⟨h1, h2⟩, h3, h4⟩ := h
  go_enter Try.func48, Try.ntmps48
  go_wp2_with fail
  go_ret
  exact ⟨rfl, (Below.refl _ _).alloc (Nat.le_refl _) _⟩
set_option maxRecDepth 100000 in
set_option maxHeartbeats 1600000 in
theorem numberOf_any (sv : Value) (rs : List (Int × Int)) (w : World) (h : RodsR w sv rs) (hb9 : ∀ k (h : k < rs.length), (-1000 ≤ rs[k].1 ∧ rs[k].1 ≤ 1000) ∧ (-1000 ≤ rs[k].2 ∧ rs[k].2 ≤ 1000)) (hn : ∀ k, k ≤ rs.length → -1000000000000 ≤ numF (rs.take k) ∧ numF (rs.take k) ≤ 1000000000000) :
    Calls Try.prog 38 #[sv] w fun e w' => e = .returned (.int .i64 (numF rs)) ∧ Below w.heap.size w w' := by
  have hm : rs.length ≤ 9223372036854775807 := by obtain ⟨_, _, _, ⟨m, _⟩, _⟩ := h; exact m
  obtain ⟨a, c, rfl⟩ : ∃ a c, sv = .slice a rs.length c := by obtain ⟨a, c, e, _⟩ := h; exact ⟨a, c, e⟩
  have HN := Lib.hid hn
  have HG := Lib.hid hb9
  have RL : Hid (∀ w' : World, Below w.heap.size w w' → ∀ k, (hk : k < rs.length) → ∃ b o, a = some ⟨b, o, none⟩ ∧ w'.cell? ⟨b, o + k * 2, none⟩ = some (.int .i64 rs[k].1) ∧ w'.cell? ⟨b, o + k * 2 + 1, none⟩ = some (.int .i64 rs[k].2)) := Lib.hid (rods_at h)
  have HB0 : Hid (Below w.heap.size w w) := Lib.hid (Below.refl _ _)
  have HRf0 := Lib.hid (h)
  clear h hn hb9
  go_enter Try.func38, Try.ntmps38
  go_wp2_with fail
  go_loopw [3, 8] (fun n i wr => ∃ k : Nat, k ≤ rs.length ∧ i = .int .i64 k ∧ n = .int .i64 (numF (rs.take k)) ∧ Below w.heap.size w wr) (fun _ i _ => rs.length - (intOf i).toNat)
  case atStart => exact ⟨0, Nat.zero_le _, rfl, rfl, HB0.out⟩
  case round =>
    obtain ⟨k, hk, rfl, rfl, hb⟩ := hrel
    obtain ⟨n1, n2⟩ := HN.out k hk
    by_cases hlt : k < rs.length
    · obtain ⟨b1, o1, rfl, p1, p2⟩ := RL.out _ hb k hlt
      obtain ⟨⟨d1, d2⟩, d3, d4⟩ := HG.out k hlt
      have HS := Lib.hid (numF_snoc rs k hlt)
      have z1 : (0 : Int) ≤ (k : Int) := by omega
      have z2 : (k : Int) < (rs.length : Int) := by omega
      have HB10 : Hid (Below w.heap.size w wr) := Lib.hid hb
      have HRf10 := Lib.hid (HRf0.out.below HB10.out (Nat.le_refl _))
      clear hb
      go_wp2_with fail
      have hb : Below wr.heap.size wr (wr.alloc (.cells #[.int .i64 rs[k].1, .int .i64 rs[k].2] 62)) := (Below.refl _ _).alloc (Nat.le_refl _) _
      have hk : (wr.alloc (.cells #[.int .i64 rs[k].1, .int .i64 rs[k].2] 62)).heap[wr.heap.size]? = some (.cells #[.int .i64 rs[k].1, .int .i64 rs[k].2] 62 (0, 0)) := alloc_at rfl
      have hz : (wr.alloc (.cells #[.int .i64 rs[k].1, .int .i64 rs[k].2] 62)).heap.size = wr.heap.size + 1 := by simp
      generalize wr.alloc (.cells #[.int .i64 rs[k].1, .int .i64 rs[k].2] 62) = w11 at hb hk hz ⊢
      have HB11 : Hid (Below w.heap.size w w11) := Lib.hid (HB10.out.trans (hb.mono HB10.out.size))
      have HZ11 : Hid (wr.heap.size ≤ w11.heap.size) := Lib.hid hb.size
      have HRf11 := Lib.hid (HRf0.out.below HB11.out (Nat.le_refl _))
      have HKr11 := Lib.hid hk
      replace HZ11 : Hid (wr.heap.size < w11.heap.size) := Lib.hid (by omega)
      have HE11 := Lib.hid hz
      clear hb hk hz
      refine (valueOf_sgn _ _ _ ⟨⟨d1, d2⟩, d3, d4⟩).mono ?_
      rintro e w12 ⟨rfl, hb⟩
      have HB12 : Hid (Below w.heap.size w w12) := Lib.hid (HB11.out.trans (hb.mono HB11.out.size))
      have HZ12 : Hid (w11.heap.size ≤ w12.heap.size) := Lib.hid hb.size
      have HRf12 := Lib.hid (HRf0.out.below HB12.out (Nat.le_refl _))
      have HKr12 := Lib.hid ((hb.block _ (lt_of_block HKr11.out)).trans HKr11.out)
      clear hb
      have ltr := lt_of_block HKr12.out
      obtain ⟨cr0, cr1, fr0, fr1⟩ := cell2 HKr12.out
      go_wp2_with fail
      go_roundw
      case rel => exact ⟨k + 1, by omega, by go_num, by rw [HS.out]; rfl, HB12.out⟩
      case measure => simp [intOf]; omega
    · have HT : Hid (numF (rs.take k) = numF rs) := Lib.hid (by rw [List.take_of_length_le (by omega)])
      have HB := Lib.hid hb
      clear hb
      go_wp2_with fail
      go_ret
      exact ⟨ret_int HT.out, HB.out⟩
end Go.Proofs.Ytmkocinknhaniaa
