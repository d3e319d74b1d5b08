/- The model's l4Read at a word of four bytes. -/
import Derived.Test.YtmkocinknhaniaaMread
import Derived.Test.YtmkocinknhaniaaOwn
namespace Go.Proofs.Ytmkocinknhaniaa
set_option linter.unusedVariables false
open Go.RowKit

set_option maxRecDepth 100000 in
set_option maxHeartbeats 800000 in
theorem l4Read_yes (s : ByteArray) (w : World) (h : s.size = 4) (a b c d : UInt8) (ha : s[0] = a) (hbq : s[1] = b) (hc : s[2] = c) (hd : s[3] = d) :
    Calls Try.prog 34 #[.string s] w fun e w' => e = .returned (mvV (rdM a b c d)) ∧ Below w.heap.size w w' := by
  have hm : s.size ≤ 9223372036854775807 := by omega
  have hbn : ((s.size : Int) != 4) = false := by simp [h]
  have i0 : (0 : Int) < (s.size : Int) := by omega
  have i1 : (1 : Int) < (s.size : Int) := by omega
  have i2 : (2 : Int) < (s.size : Int) := by omega
  have i3 : (3 : Int) < (s.size : Int) := by omega
  obtain ⟨rr, hrr⟩ : ∃ rr : Int, (a.toNat : Int) - 48 = rr := ⟨_, rfl⟩
  obtain ⟨dd, hdd⟩ : ∃ dd : Int, (d.toNat : Int) - 48 = dd := ⟨_, rfl⟩
  have w0 : IntKind.i64.wrap (a.toNat : Int) = a.toNat := by have := a.toNat_lt; rw [IntKind.wrap_i64]; omega
  have w1' : IntKind.i64.wrap ((a.toNat : Int) - 48) = rr := by have := a.toNat_lt; rw [hrr, IntKind.wrap_i64]; omega
  have w2' : IntKind.i64.wrap (d.toNat : Int) = d.toNat := by have := d.toNat_lt; rw [IntKind.wrap_i64]; omega
  have w3' : IntKind.i64.wrap ((d.toNat : Int) - 48) = dd := by have := d.toNat_lt; rw [hdd, IntKind.wrap_i64]; omega
  have w4' : IntKind.i64.wrap (-dd) = -dd := by have := d.toNat_lt; rw [IntKind.wrap_i64]; omega
  have HRR := Lib.hid hrr
  have HDD := Lib.hid hdd
  clear hrr hdd
  have HB0 : Hid (Below w.heap.size w w) := Lib.hid (Below.refl _ _)
  go_enter Try.func34, Try.ntmps34
  go_wp2_with fail
  go_region
  clear w0 w1' w2' w3' ha hd i0 i3
  have hb : Below w.heap.size w (w.alloc (.cells #[.int .i64 0, .int .i64 0, .int .i64 0] 40)) := (Below.refl _ _).alloc (Nat.le_refl _) _
  have hk : (w.alloc (.cells #[.int .i64 0, .int .i64 0, .int .i64 0] 40)).heap[w.heap.size]? = some (.cells #[.int .i64 0, .int .i64 0, .int .i64 0] 40 (0, 0)) := alloc_at rfl
  have hz : (w.alloc (.cells #[.int .i64 0, .int .i64 0, .int .i64 0] 40)).heap.size = w.heap.size + 1 := by simp
  generalize w.alloc (.cells #[.int .i64 0, .int .i64 0, .int .i64 0] 40) = w1 at hb hk hz ⊢
  have HB1 : Hid (Below w.heap.size w w1) := Lib.hid (HB0.out.trans (hb.mono HB0.out.size))
  have HZ1 : Hid (w.heap.size ≤ w1.heap.size) := Lib.hid hb.size
  have HKz1 := Lib.hid hk
  replace HZ1 : Hid (w.heap.size < w1.heap.size) := Lib.hid (by omega)
  have HE1 := Lib.hid hz
  clear hb hk hz
  have hb : Below w1.heap.size w1 (w1.alloc (.cells #[.int .i64 rr, .int .i64 0, .int .i64 dd] 40)) := (Below.refl _ _).alloc (Nat.le_refl _) _
  have hk : (w1.alloc (.cells #[.int .i64 rr, .int .i64 0, .int .i64 dd] 40)).heap[w.heap.size + 1]? = some (.cells #[.int .i64 rr, .int .i64 0, .int .i64 dd] 40 (0, 0)) := alloc_at (by have := HE1.out; omega)
  have hz : (w1.alloc (.cells #[.int .i64 rr, .int .i64 0, .int .i64 dd] 40)).heap.size = w1.heap.size + 1 := by simp
  generalize w1.alloc (.cells #[.int .i64 rr, .int .i64 0, .int .i64 dd] 40) = w2 at hb hk hz ⊢
  have HB2 : Hid (Below w.heap.size w w2) := Lib.hid (HB1.out.trans (hb.mono HB1.out.size))
  have HZ2 : Hid (w1.heap.size ≤ w2.heap.size) := Lib.hid hb.size
  have HKz2 := Lib.hid ((hb.block _ (lt_of_block HKz1.out)).trans HKz1.out)
  have HKm2 := Lib.hid hk
  replace HZ2 : Hid (w1.heap.size < w2.heap.size) := Lib.hid (by omega)
  have HE2 := Lib.hid hz
  clear hb hk hz
  have hb9 : Below w2.heap.size w2 w2.drew := Below.drew (Below.refl _ _)
  generalize w2.drew = w3 at hb9 ⊢
  have hb := hb9
  clear hb9
  have HB3 : Hid (Below w.heap.size w w3) := Lib.hid (HB2.out.trans (hb.mono HB2.out.size))
  have HZ3 : Hid (w2.heap.size ≤ w3.heap.size) := Lib.hid hb.size
  have HKz3 := Lib.hid ((hb.block _ (lt_of_block HKz2.out)).trans HKz2.out)
  have HKm3 := Lib.hid ((hb.block _ (lt_of_block HKm2.out)).trans HKm2.out)
  clear hb
  have ltz := lt_of_block HKz3.out
  obtain ⟨cz0, cz1, cz2, fz0, fz1, fz2⟩ := cell3 HKz3.out
  have ltm := lt_of_block HKm3.out
  obtain ⟨cm0, cm1, cm2, fm0, fm1, fm2⟩ := cell3 HKm3.out
  by_cases hb1 : b = 108
  · by_cases hc1 : c = 45
    · have hB : Hid (mvV (rdM a b c d) = .agg #[.int .i64 rr, .int .i64 1, .int .i64 (-dd)]) := Lib.hid (by unfold mvV rdM; dsimp only; rw [if_pos hb1, if_pos hc1, HRR.out, HDD.out])
      have hbb : ((b.toNat : Int) == 108) = true := by rw [hb1]; rfl
      have hcb : ((c.toNat : Int) == 45) = true := by rw [hc1]; rfl
      clear hb1 hc1
      go_wp2_with fail
      exact bodyPost_ret (v := .agg #[.int .i64 rr, .int .i64 1, .int .i64 (-dd)]) (by simp [results, Try.results34, go_sem, cz0, cz1, cz2]) rfl ⟨by rw [hB.out], by first | exact bl_set3 ((HB3.out.setCell (p := ⟨w.heap.size + 1, 1, none⟩) (Nat.le_succ _) _).setCell (p := ⟨w.heap.size + 1, 2, none⟩) (Nat.le_succ _) _) (Nat.le_refl _) _ _ _⟩
    · have hB : Hid (mvV (rdM a b c d) = .agg #[.int .i64 rr, .int .i64 1, .int .i64 dd]) := Lib.hid (by unfold mvV rdM; dsimp only; rw [if_pos hb1, if_neg hc1, HRR.out, HDD.out])
      have hbb : ((b.toNat : Int) == 108) = true := by rw [hb1]; rfl
      have hcb : ((c.toNat : Int) == 45) = false := by rw [beq_eq_false_iff_ne]; intro e; exact hc1 (UInt8.toNat_inj.1 (by have : (45 : UInt8).toNat = 45 := rfl; omega))
      clear hb1 hc1
      go_wp2_with fail
      exact bodyPost_ret (v := .agg #[.int .i64 rr, .int .i64 1, .int .i64 dd]) (by simp [results, Try.results34, go_sem, cz0, cz1, cz2]) rfl ⟨by rw [hB.out], by first | exact bl_set3 (HB3.out.setCell (p := ⟨w.heap.size + 1, 1, none⟩) (Nat.le_succ _) _) (Nat.le_refl _) _ _ _⟩
  · by_cases hc1 : c = 45
    · have hB : Hid (mvV (rdM a b c d) = .agg #[.int .i64 rr, .int .i64 0, .int .i64 (-dd)]) := Lib.hid (by unfold mvV rdM; dsimp only; rw [if_neg hb1, if_pos hc1, HRR.out, HDD.out])
      have hbb : ((b.toNat : Int) == 108) = false := by rw [beq_eq_false_iff_ne]; intro e; exact hb1 (UInt8.toNat_inj.1 (by have : (108 : UInt8).toNat = 108 := rfl; omega))
      have hcb : ((c.toNat : Int) == 45) = true := by rw [hc1]; rfl
      clear hb1 hc1
      go_wp2_with fail
      exact bodyPost_ret (v := .agg #[.int .i64 rr, .int .i64 0, .int .i64 (-dd)]) (by simp [results, Try.results34, go_sem, cz0, cz1, cz2]) rfl ⟨by rw [hB.out], by first | exact bl_set3 (HB3.out.setCell (p := ⟨w.heap.size + 1, 2, none⟩) (Nat.le_succ _) _) (Nat.le_refl _) _ _ _⟩
    · have hB : Hid (mvV (rdM a b c d) = .agg #[.int .i64 rr, .int .i64 0, .int .i64 dd]) := Lib.hid (by unfold mvV rdM; dsimp only; rw [if_neg hb1, if_neg hc1, HRR.out, HDD.out])
      have hbb : ((b.toNat : Int) == 108) = false := by rw [beq_eq_false_iff_ne]; intro e; exact hb1 (UInt8.toNat_inj.1 (by have : (108 : UInt8).toNat = 108 := rfl; omega))
      have hcb : ((c.toNat : Int) == 45) = false := by rw [beq_eq_false_iff_ne]; intro e; exact hc1 (UInt8.toNat_inj.1 (by have : (45 : UInt8).toNat = 45 := rfl; omega))
      clear hb1 hc1
      go_wp2_with fail
      exact bodyPost_ret (v := .agg #[.int .i64 rr, .int .i64 0, .int .i64 dd]) (by simp [results, Try.results34, go_sem, cz0, cz1, cz2]) rfl ⟨by rw [hB.out], by first | exact bl_set3 HB3.out (Nat.le_refl _) _ _ _⟩
theorem l4Read_any (s : ByteArray) (w : World) (hs : s.size ≤ maxLen) :
    Calls Try.prog 34 #[.string s] w fun e w' => e = .returned (mvV (readM s)) ∧ Below w.heap.size w w' := by
  unfold readM
  by_cases h : s.size = 4
  · rw [dif_pos h]; exact l4Read_yes s w h _ _ _ _ rfl rfl rfl rfl
  · rw [dif_neg h]; exact l4Read_no s w hs h
end Go.Proofs.Ytmkocinknhaniaa
