/- The law FnTrialNeverLess. -/
import Derived.Test.YthmbehknacjodaaJd2
import Derived.Test.YthmbehknacjodaaNd4
import Derived.Test.YthmbehknacjodaaVin
namespace Go.Proofs.Ythmbehknacjodaa
set_option linter.unusedVariables false
open Go.RowKit
set_option linter.unusedSimpArgs false

theorem qtL_take (T : List Tr) (k : Nat) (h : k < T.length) : qtL (T.take (k + 1)) = 10 * qtL (T.take k) + T[k].k := by rw [takeS T k h, qtL_snoc]
theorem qt_nn (T : List Tr) (h : ∀ t ∈ T, 0 ≤ t.k) : ∀ k, 0 ≤ qtL (T.take k)
  | 0 => by simp [qtL, vlL]
  | k + 1 => by
    have ih := qt_nn T h k
    by_cases hk : k < T.length
    · rw [qtL_take T k hk]; have := h _ (List.getElem_mem hk); omega
    · rw [List.take_of_length_le (by omega)] at ih ⊢; exact ih
theorem qt_le (T : List Tr) (h : ∀ t ∈ T, 0 ≤ t.k) (k : Nat) : ∀ m, qtL (T.take k) ≤ qtL (T.take (k + m))
  | 0 => Int.le_refl _
  | m + 1 => by
    have ih := qt_le T h k m
    by_cases hk : k + m < T.length
    · rw [← Nat.add_assoc, qtL_take T _ hk]; have := h _ (List.getElem_mem hk); have := qt_nn T h (k + m); omega
    · rw [show T.take (k + (m + 1)) = T.take (k + m) by rw [List.take_of_length_le (by omega), List.take_of_length_le (by omega)]]; exact ih
set_option maxRecDepth 100000 in
set_option maxHeartbeats 3200000 in
theorem lawTrial_yes (m d : Nat) (w : World) (hm : m ≤ 99999999) (hd : 1 ≤ d ∧ d ≤ 9999) :
    Calls Try.prog 6 #[.int .i64 (m : Int), .int .i64 (d : Int)] w fun e w' => e = .returned (.bool true) ∧ Below w.heap.size w w' := by
  have hok : okD (m : Int) (d : Int) := ⟨by omega, by omega⟩
  have HI := Lib.hid (fun w => impTrialDigits_yes m d w hm hd)
  have HS := Lib.hid (fun w => speTrialDigits_yes m d w hm hd)
  have HQ := Lib.hid (fun w => impQuotientOf_yes (m : Int) (d : Int) w hok)
  have hokT := stL_ok (d := (d : Int)) (by omega) (dgL m) 0 ⟨by omega, by omega⟩ (fun x hx => dgL_bd m x hx)
  have hdiv := dgL_div m (d := (d : Int)) (by omega)
  have hl8 : (stL (d : Int) 0 (dgL m)).length ≤ 8 := by rw [stL_len]; exact dgL_len 8 m (by omega)
  obtain ⟨f1, f2, f3, f4, f5, f6⟩ := div_facts (b := (m : Int)) (d := (d : Int)) ⟨by omega, by omega⟩ (by omega)
  have hsum := Int.mul_ediv_add_emod (m : Int) (d : Int)
  generalize stL (d : Int) 0 (dgL m) = T at HI HS hokT hdiv hl8
  obtain ⟨Q, hQ⟩ : ∃ Q : Nat → Int, (∀ k, Q k = qtL (T.take k)) := ⟨_, fun _ => rfl⟩
  have hQ0 : Q 0 = 0 := by rw [hQ]; rfl
  have hQn : Q T.length = (m : Int) / (d : Int) := by rw [hQ, List.take_length]; exact hdiv.1
  have hnn : ∀ t ∈ T, 0 ≤ t.k := fun t ht => (hokT t ht).2.1.1
  have HQB : Hid (∀ k, k ≤ T.length → 0 ≤ Q k ∧ Q k ≤ 99999999) := Lib.hid (fun k hk => by
    refine ⟨by rw [hQ]; exact qt_nn T hnn k, ?_⟩
    have h1 := qt_le T hnn k (T.length - k)
    rw [show k + (T.length - k) = T.length by omega, ← hQ, ← hQ, hQn] at h1
    omega)
  have HQS : Hid (∀ k (h : k < T.length), Q (k + 1) = 10 * Q k + T[k].k ∧ (0 ≤ T[k].k ∧ T[k].k ≤ 9) ∧ T[k].k ≤ trI d T[k] ∧ trI d T[k] ≤ 9) := Lib.hid (fun k h => by
    have h1 := hokT _ (List.getElem_mem h)
    exact ⟨by rw [hQ, hQ, qtL_take T k h], h1.2.1, trI_ge hd.1 h1, (trI_bd d _).2⟩)
  have HTA := Lib.hid (fun k h => tsL_at d T k h)
  have htl := tsL_len d T
  obtain ⟨q, hq⟩ : ∃ q, (m : Int) / (d : Int) = q := ⟨_, rfl⟩
  obtain ⟨r, hr⟩ : ∃ r, (m : Int) % (d : Int) = r := ⟨_, rfl⟩
  rw [hq, hr] at HQ hsum
  rw [hq] at hQn f3 f4
  rw [hr] at f5 f6
  obtain ⟨M, hM⟩ : ∃ M : Int, (m : Int) = M := ⟨_, rfl⟩
  obtain ⟨D, hD⟩ : ∃ D : Int, (d : Int) = D := ⟨_, rfl⟩
  rw [hM, hD] at HI HS HQ hsum ⊢
  rw [hM] at f4
  rw [hD] at f6
  have hw1 : IntKind.i64.wrap (q * D) = q * D := by rw [Int.mul_comm q D, IntKind.wrap_i64]; omega
  have hw2 : IntKind.i64.wrap (q * D + r) = M := by rw [Int.mul_comm q D, IntKind.wrap_i64]; omega
  have hmm : (M != M) = false := by simp
  have hr0 : ¬ r < 0 := by omega
  have hrd : ¬ D ≤ r := by omega
  have htt : (true != true) = false := rfl
  have HQ0 := Lib.hid hQ0
  have HQN := Lib.hid hQn
  clear hokT hdiv hQ hnn hq hr hsum f1 f2 f3 f4 f5 f6 hQ0 hQn hok
  have HB0 : Hid (Below w.heap.size w w) := Lib.hid (Below.refl _ _)
  go_enter Try.func6, Try.ntmps6
  go_wp2_with fail
  refine (HI.out _).mono ?_
  rintro e w1 ⟨⟨sg, rfl, ho⟩, hb⟩
  have HB1 : Hid (Below w.heap.size w w1) := Lib.hid (HB0.out.trans (hb.mono HB0.out.size))
  have HZ1 : Hid (w.heap.size ≤ w1.heap.size) := Lib.hid hb.size
  clear hb
  obtain ⟨pg, kg, rfl⟩ := own_form ho
  have HRg1 := Lib.hid ((RowsR.of_own inC_len ho))
  have HBs1_1 : Hid (Below w1.heap.size w1 w1) := Lib.hid (Below.refl _ _)
  clear ho
  go_wp2_with fail
  refine (HS.out _).mono ?_
  rintro e w2 ⟨⟨sw, rfl, ho⟩, hb⟩
  have HB2 : Hid (Below w.heap.size w w2) := Lib.hid (HB1.out.trans (hb.mono HB1.out.size))
  have HZ2 : Hid (w1.heap.size ≤ w2.heap.size) := Lib.hid hb.size
  have HRg2 := Lib.hid (HRg1.out.below hb (Nat.le_refl _))
  have HBs1_2 : Hid (Below w1.heap.size w1 w2) := Lib.hid (HBs1_1.out.trans (hb.mono HBs1_1.out.size))
  clear hb
  obtain ⟨pw, kw, rfl⟩ := ho.form
  clear ho
  go_wp2_with fail
  refine (HQ.out _).mono ?_
  rintro e w3 ⟨rfl, hb⟩
  have HB3 : Hid (Below w.heap.size w w3) := Lib.hid (HB2.out.trans (hb.mono HB2.out.size))
  have HZ3 : Hid (w2.heap.size ≤ w3.heap.size) := Lib.hid hb.size
  have HRg3 := Lib.hid (HRg2.out.below hb (Nat.le_refl _))
  have HBs1_3 : Hid (Below w1.heap.size w1 w3) := Lib.hid (HBs1_2.out.trans (hb.mono HBs1_2.out.size))
  clear hb
  go_wp2_with fail
  have hml : T.length ≤ 9223372036854775807 := by omega
  go_loopw [9, 12] (fun qv iv wr => ∃ j : Nat, j ≤ T.length ∧ iv = .int .i64 ((j : Int) - 1) ∧ qv = .int .i64 (Q j) ∧ wr = w3) (fun _ iv _ => (intOf iv + 1).toNat)
  case atStart => exact ⟨T.length, Nat.le_refl _, rfl, by rw [HQN.out], rfl⟩
  case round =>
    obtain ⟨j, hj, rfl, rfl, hw⟩ := hrel
    subst wr
    cases j with
    | zero =>
      have hq0 : (Q 0 == 0) = true := by rw [HQ0.out]; rfl
      have hneg : ¬ (0 : Int) ≤ ((0 : Nat) : Int) - 1 := by omega
      go_wp2_with fail
      go_ret
      exact ⟨rfl, HB3.out⟩
    | succ k =>
      have hlt : k < T.length := by omega
      obtain ⟨a0, b0, o0, c0, he0, rfl, hbl, hcell⟩ := ints_at HRg3.out k (by rw [htl]; exact hlt)
      injection he0 with he0 _ _
      subst he0
      rw [HTA.out k hlt] at hcell
      obtain ⟨h1, h2, h3, h4⟩ := HQS.out k hlt
      have h5 := HQB.out k (by omega)
      obtain ⟨t, ht⟩ : ∃ t, trI d T[k] = t := ⟨_, rfl⟩
      obtain ⟨x, hx⟩ : ∃ x, T[k].k = x := ⟨_, rfl⟩
      obtain ⟨A, hA⟩ : ∃ A, Q k = A := ⟨_, rfl⟩
      obtain ⟨B, hB⟩ : ∃ B, Q (k + 1) = B := ⟨_, rfl⟩
      rw [ht] at hcell h3 h4
      rw [hx] at h1 h2 h3
      rw [hA] at h1 h5
      rw [hB] at h1
      have HA := Lib.hid hA
      have e1 : (((k + 1 : Nat) : Int) - 1) = (k : Int) := by omega
      rw [e1, hB]
      have y1 : B % 10 = x := by omega
      have y2 : B / 10 = A := by omega
      have y3 : B.tmod 10 = x := by rw [Int.tmod_eq_emod_of_nonneg (by omega)]; exact y1
      have y0 : 0 ≤ B := by omega
      have hn1 : ¬ t < x := by omega
      have hn2 : ¬ (9 : Int) < t := by omega
      have z1 : (0 : Int) ≤ (k : Int) := by omega
      have z2 : (k : Int) < (T.length : Int) := by omega
      have hd1 : decide (t < x) = false := decide_eq_false hn1
      have hd2 : decide ((9 : Int) < t) = false := decide_eq_false hn2
      clear ht hx hA hB h1
      go_wp2_with fail
      exact ⟨⟨k, by omega, rfl, by rw [y2, HA.out], trivial⟩, by first | (simp [intOf]; done) | (simp [intOf]; omega)⟩
theorem lawTrial_no (a b : Int) (w : World) (h : ¬ okD a b) :
    Calls Try.prog 6 #[.int .i64 a, .int .i64 b] w fun e w' => e = .returned (.bool true) ∧ Below w.heap.size w w' := by
  have HI := Lib.hid (fun w => impTrialDigits_no a b w h)
  have HS := Lib.hid (fun w => speTrialDigits_no a b w h)
  have HQ := Lib.hid (fun w => impQuotientOf_no a b w h)
  have htt : (false != false) = false := rfl
  clear h
  have HB0 : Hid (Below w.heap.size w w) := Lib.hid (Below.refl _ _)
  go_enter Try.func6, Try.ntmps6
  go_wp2_with fail
  refine (HI.out _).mono ?_
  rintro e w1 ⟨⟨sg, rfl, ho⟩, hb⟩
  have HB1 : Hid (Below w.heap.size w w1) := Lib.hid (HB0.out.trans (hb.mono HB0.out.size))
  have HZ1 : Hid (w.heap.size ≤ w1.heap.size) := Lib.hid hb.size
  clear hb
  obtain ⟨pg, kg, rfl⟩ := own_form ho
  clear ho
  go_wp2_with fail
  refine (HS.out _).mono ?_
  rintro e w2 ⟨⟨sw, rfl, ho⟩, hb⟩
  have HB2 : Hid (Below w.heap.size w w2) := Lib.hid (HB1.out.trans (hb.mono HB1.out.size))
  have HZ2 : Hid (w1.heap.size ≤ w2.heap.size) := Lib.hid hb.size
  clear hb
  obtain ⟨pw, kw, rfl⟩ := ho.form
  clear ho
  go_wp2_with fail
  refine (HQ.out _).mono ?_
  rintro e w3 ⟨rfl, hb⟩
  have HB3 : Hid (Below w.heap.size w w3) := Lib.hid (HB2.out.trans (hb.mono HB2.out.size))
  have HZ3 : Hid (w2.heap.size ≤ w3.heap.size) := Lib.hid hb.size
  clear hb
  go_wp2_with fail
  go_ret
  exact ⟨rfl, HB3.out⟩
end Go.Proofs.Ythmbehknacjodaa
