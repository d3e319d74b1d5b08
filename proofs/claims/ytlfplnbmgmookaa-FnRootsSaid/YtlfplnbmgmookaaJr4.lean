/- The program's odd numbers and third roots. -/
import Derived.Test.YtlfplnbmgmookaaJr1
namespace Go.Proofs.Ytlfplnbmgmookaa
set_option linter.unusedVariables false
open Go.RowKit

set_option maxRecDepth 100000 in
set_option maxHeartbeats 1600000 in
theorem impOddsTaken_yes (n r : Nat) (w : World) (h : isRt n r) (hn : n ≤ 99999999) :
    Calls Try.prog 21 #[.int .i64 (n : Int)] w fun e w' => e = .returned (.tuple #[.int .i64 (r : Int), .bool true]) ∧ Below w.heap.size w w' := by
  have HOK : Hid (okN (n : Int)) := Lib.hid ⟨by omega, by omega⟩
  have HF := Lib.hid (fun (k : Nat) hk => odd_facts (k := k) h hn hk)
  have h1 : r < 10000 := isRt_le h (by omega)
  clear h
  go_enter Try.func21, Try.ntmps21
  go_wp2_with fail
  refine (canT_yes _ w HOK.out).mono ?_
  rintro e w2 ⟨rfl, rfl⟩
  go_wp2_with fail
  go_loopw [0, 4, 5] (fun fv nv ov wr => ∃ (k : Nat), k ≤ r ∧ nv = .int .i64 (k : Int) ∧ ov = .int .i64 (2 * (k : Int) + 1) ∧ fv = .int .i64 ((n : Int) - ((k * k : Nat) : Int)) ∧ wr = w) (fun _ nv _ _ => r - (intOf nv).toNat)
  case atStart => exact ⟨0, Nat.zero_le _, rfl, rfl, by simp, rfl⟩
  case round =>
    obtain ⟨k, hk, rfl, rfl, rfl, rfl⟩ := hrel
    obtain ⟨F, V, W, e0, e1, e2, e3, e4, e5, e6, e7, e8, e9⟩ := HF.out k hk
    rw [← e0]
    have HW := Lib.hid e7
    clear e0 e7
    by_cases hlt : k < r
    · have z1 := e8.2 hlt
      clear e8
      go_wp2_with fail
      go_roundw
      case rel => exact ⟨k + 1, hlt, by go_num, by first | go_num | (congr 1; omega), by rw [HW.out], trivial⟩
      case measure => simp [intOf]; omega
    · have z1 := mt e8.1 hlt
      obtain rfl : k = r := by omega
      clear e8
      go_wp2_with fail
      go_ret2
      exact ⟨rfl, Below.refl _ _⟩
set_option maxRecDepth 100000 in
set_option maxHeartbeats 800000 in
theorem impOddsTaken_no (a : Int) (w : World) (h : ¬ okN a) :
    Calls Try.prog 21 #[.int .i64 a] w fun e w' => e = .returned (.tuple #[.int .i64 0, .bool false]) ∧ Below w.heap.size w w' := by
  go_enter Try.func21, Try.ntmps21
  go_wp2_with fail
  refine (canT_no _ w h).mono ?_
  rintro e w2 ⟨rfl, rfl⟩
  go_wp2_with fail
  go_ret2
  exact ⟨rfl, Below.refl _ _⟩
set_option maxRecDepth 100000 in
set_option maxHeartbeats 1600000 in
theorem impCubeRoot_yes (n r : Nat) (w : World) (h : isCb n r) (hn : n ≤ 99999999) :
    Calls Try.prog 38 #[.int .i64 (n : Int)] w fun e w' => e = .returned (.tuple #[.int .i64 (r : Int), .bool true]) ∧ Below w.heap.size w w' := by
  have HOK : Hid (okN (n : Int)) := Lib.hid ⟨by omega, by omega⟩
  obtain ⟨W, hW, hW9, hrW, h27⟩ := width_facts h hn
  have HBL : Hid (∀ w, Calls Try.prog 65 #[.int .u64 (n : Int)] w fun e w' => e = .returned (.int .i64 (Lib.bitLen n : Int)) ∧ w = w') := Lib.hid (fun w => by
    refine (Try.bits_Len n w (by omega) (by omega)).mono ?_
    rintro e w' ⟨rfl, rfl⟩
    exact ⟨by rw [Int.toNat_natCast], rfl⟩)
  have hq : IntKind.i64.wrap (((Lib.bitLen n : Int) + 2).tdiv 3) = (W : Int) := by rw [Int.tdiv_eq_ediv_of_nonneg (by omega), IntKind.wrap_i64]; omega
  have hq2 : IntKind.i64.wrap (((Lib.bitLen n : Int) + 2) / 3) = (W : Int) := by rw [IntKind.wrap_i64]; omega
  have ha : IntKind.i64.wrap ((Lib.bitLen n : Int) + 2) = (Lib.bitLen n : Int) + 2 := by rw [IntKind.wrap_i64]; omega
  have hu : IntKind.u64.wrap (n : Int) = (n : Int) := by rw [IntKind.wrap_u64]; omega
  have HFT : Hid (∀ (b : Nat) (w : World), w.cell? ⟨b, 0, none⟩ = some (.int .i64 (n : Int)) → Calls Try.prog 66 #[.int .i64 (W : Int), .func (.func 67) #[] #[.pointer (some ⟨b, 0, none⟩)]] w fun e w' => e = .returned (.int .i64 (r : Int)) ∧ Below w.heap.size w w') := Lib.hid (fun b w hc => by
    refine fitCube_any r W b w (by omega) hrW (fun w' m hb hm => ?_)
    have h9 : (2 : Nat) ^ W ≤ 2 ^ 9 := Nat.pow_le_pow_right (by omega) hW9
    exact cubeFits_any n r m b w' h hn (by omega) ((hb.cell (p := ⟨b, 0, none⟩) (cell_lt hc)).trans hc))
  generalize (Lib.bitLen n : Int) = BL at HBL hq hq2 ha
  obtain ⟨S, hS⟩ : ∃ S, BL + 2 = S := ⟨_, rfl⟩
  rw [hS] at hq hq2 ha
  have ha2 : IntKind.i64.wrap (BL + 2) = S := by rw [hS]; exact ha
  obtain ⟨D, hD⟩ : ∃ D : Int, (W : Int) = D := ⟨_, rfl⟩
  rw [hD] at hq hq2 HFT
  clear h hW hW9 hrW h27 hS ha hD
  have HB0 : Hid (Below w.heap.size w w) := Lib.hid (Below.refl _ _)
  go_enter Try.func38, Try.ntmps38
  go_wp2_with fail
  have hb : Below w.heap.size w (w.alloc (.cells #[.int .i64 (n : Int)] 3)) := (Below.refl _ _).alloc (Nat.le_refl _) _
  have hk : (w.alloc (.cells #[.int .i64 (n : Int)] 3)).heap[w.heap.size]? = some (.cells #[.int .i64 (n : Int)] 3 (0, 0)) := alloc_at rfl
  have hz : (w.alloc (.cells #[.int .i64 (n : Int)] 3)).heap.size = w.heap.size + 1 := by simp
  generalize w.alloc (.cells #[.int .i64 (n : Int)] 3) = w1 at hb hk hz ⊢
  have HB1 : Hid (Below w.heap.size w w1) := Lib.hid (HB0.out.trans (hb.mono HB0.out.size))
  have HZ1 : Hid (w.heap.size ≤ w1.heap.size) := Lib.hid hb.size
  have HKn1 := Lib.hid hk
  replace HZ1 : Hid (w.heap.size < w1.heap.size) := Lib.hid (by omega)
  have HE1 := Lib.hid hz
  clear hb hk hz
  have ltn := lt_of_block HKn1.out
  obtain ⟨cn0, fn0⟩ := cell1 HKn1.out
  go_wp2_with fail
  refine (canT_yes _ _ HOK.out).mono ?_
  rintro e w9 ⟨rfl, rfl⟩
  go_wp2_with fail
  refine (HBL.out _).mono ?_
  rintro e w9 ⟨rfl, rfl⟩
  go_wp2_with fail
  refine (HFT.out _ _ cn0).mono ?_
  rintro e w2 ⟨rfl, hb⟩
  have HB2 : Hid (Below w.heap.size w w2) := Lib.hid (HB1.out.trans (hb.mono HB1.out.size))
  have HZ2 : Hid (w1.heap.size ≤ w2.heap.size) := Lib.hid hb.size
  have HKn2 := Lib.hid ((hb.block _ (lt_of_block HKn1.out)).trans HKn1.out)
  clear hb
  clear cn0 fn0 ltn
  have ltn := lt_of_block HKn2.out
  obtain ⟨cn0, fn0⟩ := cell1 HKn2.out
  go_wp2_with fail
  go_ret2
  exact ⟨rfl, HB2.out⟩
set_option maxRecDepth 100000 in
set_option maxHeartbeats 800000 in
theorem impCubeRoot_no (a : Int) (w : World) (h : ¬ okN a) :
    Calls Try.prog 38 #[.int .i64 a] w fun e w' => e = .returned (.tuple #[.int .i64 0, .bool false]) ∧ Below w.heap.size w w' := by
  have HB0 : Hid (Below w.heap.size w w) := Lib.hid (Below.refl _ _)
  go_enter Try.func38, Try.ntmps38
  go_wp2_with fail
  have hb : Below w.heap.size w (w.alloc (.cells #[.int .i64 a] 3)) := (Below.refl _ _).alloc (Nat.le_refl _) _
  have hk : (w.alloc (.cells #[.int .i64 a] 3)).heap[w.heap.size]? = some (.cells #[.int .i64 a] 3 (0, 0)) := alloc_at rfl
  have hz : (w.alloc (.cells #[.int .i64 a] 3)).heap.size = w.heap.size + 1 := by simp
  generalize w.alloc (.cells #[.int .i64 a] 3) = w1 at hb hk hz ⊢
  have HB1 : Hid (Below w.heap.size w w1) := Lib.hid (HB0.out.trans (hb.mono HB0.out.size))
  have HZ1 : Hid (w.heap.size ≤ w1.heap.size) := Lib.hid hb.size
  have HKn1 := Lib.hid hk
  replace HZ1 : Hid (w.heap.size < w1.heap.size) := Lib.hid (by omega)
  have HE1 := Lib.hid hz
  clear hb hk hz
  have ltn := lt_of_block HKn1.out
  obtain ⟨cn0, fn0⟩ := cell1 HKn1.out
  go_wp2_with fail
  refine (canT_no _ _ h).mono ?_
  rintro e w9 ⟨rfl, rfl⟩
  go_wp2_with fail
  go_ret2
  exact ⟨rfl, HB1.out⟩
end Go.Proofs.Ytlfplnbmgmookaa
