/- The model's side of roots: whole roots, odd numbers, decimals, next squares, third roots. -/
import Derived.Test.YtlfplnbmgmookaaTrt
import Derived.Test.YtlfplnbmgmookaaKw
namespace Go.Proofs.Ytlfplnbmgmookaa
set_option linter.unusedVariables false
open Go.RowKit

/-- The number has roots here. -/
def okN (a : Int) : Prop := 0 ≤ a ∧ a ≤ 99999999
theorem okN_nat {a : Int} (h : okN a) : ∃ n : Nat, a = (n : Int) ∧ n ≤ 99999999 := ⟨a.toNat, by have := h.1; omega, by have := h.2; omega⟩
set_option maxRecDepth 100000 in
set_option maxHeartbeats 400000 in
theorem l12Good_yes (a : Int) (w : World) (h : okN a) :
    Calls Try.prog 55 #[.int .i64 a] w fun e w' => e = .returned (.bool true) ∧ w = w' := by
  have ha := inB_yes h.1 h.2
  go_enter Try.func55, Try.ntmps55
  go_wp2_with fail
  refine (l1In_any a 0 99999999 w).mono ?_
  rintro e w' ⟨rfl, rfl⟩
  rw [ha]
  go_wp2_with fail
  go_ret
  exact ⟨rfl, rfl⟩
set_option maxRecDepth 100000 in
set_option maxHeartbeats 400000 in
theorem l12Good_no (a : Int) (w : World) (h : ¬ okN a) :
    Calls Try.prog 55 #[.int .i64 a] w fun e w' => e = .returned (.bool false) ∧ w = w' := by
  have ha : inB a 0 99999999 = false := inB_no h
  go_enter Try.func55, Try.ntmps55
  go_wp2_with fail
  refine (l1In_any a 0 99999999 w).mono ?_
  rintro e w' ⟨rfl, rfl⟩
  rw [ha]
  go_wp2_with fail
  go_ret
  exact ⟨rfl, rfl⟩

/-- What the model reckons in a step of its search. -/
theorem mid_facts {lo hi : Nat} (h : lo < hi) (hh : hi ≤ 200000000) : ∃ S S1 M Q : Int, IntKind.i64.wrap ((lo : Int) + (hi : Int)) = S ∧ IntKind.i64.wrap (S + 1) = S1 ∧ IntKind.i64.wrap (S1.tdiv 2) = M ∧ IntKind.i64.wrap (S1 / 2) = M ∧ IntKind.i64.wrap (M * M) = Q ∧ IntKind.i64.wrap (M - 1) = M - 1 ∧ M = (((lo + hi + 1) / 2 : Nat) : Int) ∧ Q = ((((lo + hi + 1) / 2) * ((lo + hi + 1) / 2) : Nat) : Int) := by
  have hm : (lo + hi + 1) / 2 ≤ 200000000 := by omega
  have hq : ((lo + hi + 1) / 2) * ((lo + hi + 1) / 2) ≤ 200000000 * 200000000 := Nat.mul_le_mul hm hm
  have e : (((lo + hi + 1) / 2 : Nat) : Int) = ((lo : Int) + (hi : Int) + 1) / 2 := by omega
  have e2 : ((lo : Int) + (hi : Int) + 1).tdiv 2 = (((lo + hi + 1) / 2 : Nat) : Int) := by rw [Int.tdiv_eq_ediv_of_nonneg (by omega), e]
  refine ⟨(lo : Int) + (hi : Int), (lo : Int) + (hi : Int) + 1, (((lo + hi + 1) / 2 : Nat) : Int), _, ?_, ?_, ?_, ?_, rfl, ?_, rfl, ?_⟩
  · rw [IntKind.wrap_i64]; omega
  · rw [IntKind.wrap_i64]; omega
  · rw [e2, IntKind.wrap_i64]; omega
  · rw [← e, IntKind.wrap_i64]; omega
  · rw [IntKind.wrap_i64]; omega
  · rw [← Int.natCast_mul]
    generalize ((lo + hi + 1) / 2) * ((lo + hi + 1) / 2) = q at hq ⊢
    rw [IntKind.wrap_i64]; omega
set_option maxRecDepth 100000 in
set_option maxHeartbeats 1600000 in
theorem l12Root_any (n r : Nat) (w : World) (h : isRt n r) (hn : n < 40000000000000000) :
    Calls Try.prog 56 #[.int .i64 (n : Int)] w fun e w' => e = .returned (.int .i64 (r : Int)) ∧ w' = w := by
  have hr : r < 200000000 := isRt_le h (by omega)
  have HI := Lib.hid (isRt_iff h)
  clear h
  go_enter Try.func56, Try.ntmps56
  go_wp2_with fail
  go_loopw [3, 4] (fun lv hv wr => ∃ (lo hi : Nat), lv = .int .i64 (lo : Int) ∧ hv = .int .i64 (hi : Int) ∧ lo ≤ r ∧ r ≤ hi ∧ hi ≤ 200000000 ∧ wr = w) (fun lv hv _ => (intOf hv - intOf lv).toNat)
  case atStart => exact ⟨0, 200000000, rfl, rfl, by omega, by omega, by omega, rfl⟩
  case round =>
    obtain ⟨lo, hi, rfl, rfl, h1, h2, h3, rfl⟩ := hrel
    by_cases hlt : lo < hi
    · obtain ⟨S, S1, M, Q, e1, e2, e3, e4, e5, e6, e7, e8⟩ := mid_facts hlt h3
      obtain ⟨m, hm⟩ : ∃ m, (lo + hi + 1) / 2 = m := ⟨_, rfl⟩
      have hm1 : lo < m ∧ m ≤ hi := by omega
      rw [hm] at e7 e8
      have z1 : (lo : Int) < (hi : Int) := by omega
      by_cases hq : m * m ≤ n
      · have hmr := (HI.out m).1 hq
        have z2 : Q ≤ (n : Int) := by omega
        have HM := Lib.hid e7
        clear hq e7 e8 hm
        go_wp2_with fail
        go_roundw
        case rel => exact ⟨m, hi, by rw [HM.out], rfl, hmr, h2, h3, trivial⟩
        case measure => rw [HM.out]; simp [intOf]; omega
      · have hmr := mt (HI.out m).2 hq
        have z2 : ¬ Q ≤ (n : Int) := by omega
        have HM := Lib.hid e7
        clear hq e7 e8 hm
        go_wp2_with fail
        go_roundw
        case rel => exact ⟨lo, m - 1, rfl, by rw [HM.out]; congr 1; omega, h1, by omega, by omega, trivial⟩
        case measure => rw [HM.out]; simp [intOf]; omega
    · obtain rfl : lo = r := by omega
      have z1 : ¬ (lo : Int) < (hi : Int) := by omega
      go_wp2_with fail
      go_ret
      exact ⟨rfl, rfl⟩
theorem sq_facts {r n : Nat} (h : isRt n r) (hn : n ≤ 99999999) : r ≤ 9999 ∧ IntKind.i64.wrap ((r : Int) * (r : Int)) = (r : Int) * (r : Int) ∧ (r : Int) * (r : Int) = ((r * r : Nat) : Int) ∧ r * r ≤ n := by
  have h1 : r < 10000 := isRt_le h (by omega)
  have h2 := h.1
  refine ⟨by omega, ?_, by rw [Int.natCast_mul], h2⟩
  rw [← Int.natCast_mul, IntKind.wrap_i64]; omega
set_option maxRecDepth 100000 in
set_option maxHeartbeats 800000 in
theorem speWholeRoot_yes (n r : Nat) (w : World) (h : isRt n r) (hn : n ≤ 99999999) :
    Calls Try.prog 17 #[.int .i64 (n : Int)] w fun e w' => e = .returned (.tuple #[.int .i64 (r : Int), .int .i64 ((n : Int) - (r : Int) * (r : Int)), .bool true]) ∧ Below w.heap.size w w' := by
  obtain ⟨g1, g2, g3, g4⟩ := sq_facts h hn
  have HOK : Hid (okN (n : Int)) := Lib.hid ⟨by omega, by omega⟩
  have HR := Lib.hid (fun w => l12Root_any n r w h (by omega))
  obtain ⟨R, hR⟩ : ∃ R : Int, (r : Int) = R := ⟨_, rfl⟩
  rw [hR] at g2 g3 HR ⊢
  obtain ⟨Q, hQ⟩ : ∃ Q, R * R = Q := ⟨_, rfl⟩
  rw [hQ] at g2 g3 ⊢
  have g5 : IntKind.i64.wrap ((n : Int) - Q) = (n : Int) - Q := by rw [IntKind.wrap_i64]; omega
  clear h hR g3
  go_enter Try.func17, Try.ntmps17
  go_wp2_with fail
  refine (l12Good_yes _ w HOK.out).mono ?_
  rintro e w2 ⟨rfl, rfl⟩
  go_wp2_with fail
  refine (HR.out w).mono ?_
  rintro e w2 ⟨rfl, rfl⟩
  go_wp2_with fail
  try rw [hQ]
  try rw [g2]
  try go_wp2_with fail
  exact bodyPost_ret (v := .tuple #[.int .i64 R, .int .i64 ((n : Int) - Q), .bool true]) (by simp [results, Try.results17, go_sem]) rfl ⟨rfl, Below.refl _ _⟩
set_option maxRecDepth 100000 in
set_option maxHeartbeats 800000 in
theorem speWholeRoot_no (a : Int) (w : World) (h : ¬ okN a) :
    Calls Try.prog 17 #[.int .i64 a] w fun e w' => e = .returned (.tuple #[.int .i64 0, .int .i64 0, .bool false]) ∧ Below w.heap.size w w' := by
  go_enter Try.func17, Try.ntmps17
  go_wp2_with fail
  refine (l12Good_no _ w h).mono ?_
  rintro e w2 ⟨rfl, rfl⟩
  go_wp2_with fail
  exact bodyPost_ret (v := .tuple #[.int .i64 0, .int .i64 0, .bool false]) (by simp [results, Try.results17, go_sem]) rfl ⟨rfl, Below.refl _ _⟩
set_option maxRecDepth 100000 in
set_option maxHeartbeats 800000 in
theorem speIsSquare_yes (n r : Nat) (w : World) (h : isRt n r) (hn : n ≤ 99999999) :
    Calls Try.prog 41 #[.int .i64 (n : Int)] w fun e w' => e = .returned (.tuple #[.bool (decide (r * r = n)), .bool true]) ∧ Below w.heap.size w w' := by
  obtain ⟨g1, g2, g3, g4⟩ := sq_facts h hn
  have HOK : Hid (okN (n : Int)) := Lib.hid ⟨by omega, by omega⟩
  have HR := Lib.hid (fun w => l12Root_any n r w h (by omega))
  have HE : Hid (((r : Int) * (r : Int) == (n : Int)) = decide (r * r = n)) := Lib.hid (by rw [g3, Bool.eq_iff_iff, beq_iff_eq, decide_eq_true_iff]; omega)
  obtain ⟨R, hR⟩ : ∃ R : Int, (r : Int) = R := ⟨_, rfl⟩
  rw [hR] at g2 HR HE
  clear h hR g3
  obtain ⟨N, hN⟩ : ∃ N : Int, (n : Int) = N := ⟨_, rfl⟩
  rw [hN] at HOK HR HE ⊢
  clear hN
  obtain ⟨Q, hQ⟩ : ∃ Q, R * R = Q := ⟨_, rfl⟩
  rw [hQ] at HE
  have g2' := g2.trans hQ
  have HQ := Lib.hid hQ
  clear hQ g2
  go_enter Try.func41, Try.ntmps41
  go_wp2_with fail
  refine (l12Good_yes _ w HOK.out).mono ?_
  rintro e w2 ⟨rfl, rfl⟩
  go_wp2_with fail
  refine (HR.out w).mono ?_
  rintro e w2 ⟨rfl, rfl⟩
  try rw [HQ.out]
  go_wp2_with fail
  go_ret2
  exact ⟨by first | exact congrArg (fun b => Ending.returned (.tuple #[.bool b, .bool true])) HE.out | (rw [← HE.out]; rfl), Below.refl _ _⟩
set_option maxRecDepth 100000 in
set_option maxHeartbeats 800000 in
theorem speIsSquare_no (a : Int) (w : World) (h : ¬ okN a) :
    Calls Try.prog 41 #[.int .i64 a] w fun e w' => e = .returned (.tuple #[.bool false, .bool false]) ∧ Below w.heap.size w w' := by
  go_enter Try.func41, Try.ntmps41
  go_wp2_with fail
  refine (l12Good_no _ w h).mono ?_
  rintro e w2 ⟨rfl, rfl⟩
  go_wp2_with fail
  go_ret2
  exact ⟨rfl, Below.refl _ _⟩

/-- What is left when some odd numbers are taken. -/
theorem odd_facts {n r k : Nat} (h : isRt n r) (hn : n ≤ 99999999) (hk : k ≤ r) : ∃ F V W : Int, F = (n : Int) - ((k * k : Nat) : Int) ∧ IntKind.i64.wrap (2 * (k : Int)) = 2 * (k : Int) ∧ IntKind.i64.wrap (2 * (k : Int) + 1) = 2 * (k : Int) + 1 ∧ IntKind.i64.wrap (F - 2 * (k : Int)) = V ∧ IntKind.i64.wrap (V - 1) = W ∧ IntKind.i64.wrap (F - (2 * (k : Int) + 1)) = W ∧ IntKind.i64.wrap (2 * (k : Int) + 1 + 2) = 2 * (k : Int) + 1 + 2 ∧ W = (n : Int) - (((k + 1) * (k + 1) : Nat) : Int) ∧ (2 * (k : Int) + 1 ≤ F ↔ k < r) ∧ 0 ≤ F := by
  have h1 : r < 10000 := isRt_le h (by omega)
  have h2 := Nat.le_trans (sq_le hk) h.1
  have h3 := isRt_iff h (k + 1)
  have e : (k + 1) * (k + 1) = k * k + 2 * k + 1 := by grind
  rw [e] at h3 ⊢
  generalize k * k = q at h2 h3 ⊢
  refine ⟨(n : Int) - (q : Int), (n : Int) - (q : Int) - 2 * (k : Int), (n : Int) - (q : Int) - 2 * (k : Int) - 1, rfl, ?_, ?_, ?_, ?_, ?_, ?_, by omega, by omega, by omega⟩ <;> rw [IntKind.wrap_i64] <;> omega
set_option maxRecDepth 100000 in
set_option maxHeartbeats 1600000 in
theorem speOddsTaken_yes (n r : Nat) (w : World) (h : isRt n r) (hn : n ≤ 99999999) :
    Calls Try.prog 25 #[.int .i64 (n : Int)] w fun e w' => e = .returned (.tuple #[.int .i64 (r : Int), .bool true]) ∧ Below w.heap.size w w' := by
  have HOK : Hid (okN (n : Int)) := Lib.hid ⟨by omega, by omega⟩
  have HF := Lib.hid (fun (k : Nat) hk => odd_facts (k := k) h hn hk)
  have h1 : r < 10000 := isRt_le h (by omega)
  clear h
  go_enter Try.func25, Try.ntmps25
  go_wp2_with fail
  refine (l12Good_yes _ w HOK.out).mono ?_
  rintro e w2 ⟨rfl, rfl⟩
  go_wp2_with fail
  go_loopw [4, 5] (fun nv fv wr => ∃ (k : Nat), k ≤ r ∧ nv = .int .i64 (k : Int) ∧ fv = .int .i64 ((n : Int) - ((k * k : Nat) : Int)) ∧ wr = w) (fun nv _ _ => r - (intOf nv).toNat)
  case atStart => exact ⟨0, Nat.zero_le _, rfl, by simp, rfl⟩
  case round =>
    obtain ⟨k, hk, rfl, rfl, rfl⟩ := hrel
    obtain ⟨F, V, W, e0, e1, e2, e3, e4, e5, e6, e7, e8, e9⟩ := HF.out k hk
    rw [← e0]
    have HW := Lib.hid e7
    clear e0 e7
    by_cases hlt : k < r
    · have z1 := e8.2 hlt
      clear e8
      go_wp2_with fail
      go_roundw
      case rel => exact ⟨k + 1, hlt, by go_num, by rw [HW.out], trivial⟩
      case measure => simp [intOf]; omega
    · have z1 := mt e8.1 hlt
      obtain rfl : k = r := by omega
      clear e8
      go_wp2_with fail
      go_ret2
      exact ⟨rfl, Below.refl _ _⟩
set_option maxRecDepth 100000 in
set_option maxHeartbeats 800000 in
theorem speOddsTaken_no (a : Int) (w : World) (h : ¬ okN a) :
    Calls Try.prog 25 #[.int .i64 a] w fun e w' => e = .returned (.tuple #[.int .i64 0, .bool false]) ∧ Below w.heap.size w w' := by
  go_enter Try.func25, Try.ntmps25
  go_wp2_with fail
  refine (l12Good_no _ w h).mono ?_
  rintro e w2 ⟨rfl, rfl⟩
  go_wp2_with fail
  go_ret2
  exact ⟨rfl, Below.refl _ _⟩
set_option maxRecDepth 100000 in
set_option maxHeartbeats 800000 in
theorem speNextSquare_yes (n r : Nat) (w : World) (h : isRt n r) (hn : n ≤ 99999999) :
    Calls Try.prog 43 #[.int .i64 (n : Int)] w fun e w' => e = .returned (.tuple #[.int .i64 (((r : Int) + 1) * ((r : Int) + 1)), .bool true]) ∧ Below w.heap.size w w' := by
  obtain ⟨g1, _, _, _⟩ := sq_facts h hn
  have HOK : Hid (okN (n : Int)) := Lib.hid ⟨by omega, by omega⟩
  have HR := Lib.hid (fun w => l12Root_any n r w h (by omega))
  have g2 : IntKind.i64.wrap (((r : Int) + 1) * ((r : Int) + 1)) = ((r : Int) + 1) * ((r : Int) + 1) := by
    have := Nat.mul_le_mul (show r + 1 ≤ 10000 by omega) (show r + 1 ≤ 10000 by omega)
    rw [show ((r : Int) + 1) * ((r : Int) + 1) = (((r + 1) * (r + 1) : Nat) : Int) by rw [Int.natCast_mul, Int.natCast_add]; rfl, IntKind.wrap_i64]; omega
  have g3 : IntKind.i64.wrap ((r : Int) + 1) = (r : Int) + 1 := by rw [IntKind.wrap_i64]; omega
  obtain ⟨P, hP⟩ : ∃ P : Int, (r : Int) + 1 = P := ⟨_, rfl⟩
  obtain ⟨Q, hQ⟩ : ∃ Q : Int, P * P = Q := ⟨_, rfl⟩
  have g4 := g3.trans hP
  rw [hP] at g2 ⊢
  have g5 := g2.trans hQ
  rw [hQ]
  have HP := Lib.hid hP
  clear h hP hQ g2 g3
  go_enter Try.func43, Try.ntmps43
  go_wp2_with fail
  refine (l12Good_yes _ w HOK.out).mono ?_
  rintro e w2 ⟨rfl, rfl⟩
  go_wp2_with fail
  refine (HR.out w).mono ?_
  rintro e w2 ⟨rfl, rfl⟩
  go_wp2_with fail
  try (rw [HP.out]; go_wp2_with fail)
  go_ret2
  exact ⟨by first | rfl | rw [HP.out], Below.refl _ _⟩
set_option maxRecDepth 100000 in
set_option maxHeartbeats 800000 in
theorem speNextSquare_no (a : Int) (w : World) (h : ¬ okN a) :
    Calls Try.prog 43 #[.int .i64 a] w fun e w' => e = .returned (.tuple #[.int .i64 0, .bool false]) ∧ Below w.heap.size w w' := by
  go_enter Try.func43, Try.ntmps43
  go_wp2_with fail
  refine (l12Good_no _ w h).mono ?_
  rintro e w2 ⟨rfl, rfl⟩
  go_wp2_with fail
  go_ret2
  exact ⟨rfl, Below.refl _ _⟩

/-- What is reckoned for decimals of roots. -/
theorem hund_facts {n p : Nat} (hn : n ≤ 99999999) (hp : p ≤ 4) : ∃ Z N : Int, (10 : Int) ^ (2 * p) = Z ∧ N = ((n * 100 ^ p : Nat) : Int) ∧ IntKind.i64.wrap ((n : Int) * Z) = N ∧ n * 100 ^ p < 10000000000000000 ∧ IntKind.i64.wrap (2 * (p : Int)) = ((2 * p : Nat) : Int) := by
  have h1 : (100 : Nat) ^ p ≤ 100 ^ 4 := Nat.pow_le_pow_right (by omega) hp
  have h2 := Nat.mul_le_mul hn h1
  have e : (10 : Int) ^ (2 * p) = ((100 ^ p : Nat) : Int) := by rw [Int.pow_mul]; simp
  refine ⟨_, _, rfl, rfl, ?_, by omega, by rw [IntKind.wrap_i64]; omega⟩
  rw [e, ← Int.natCast_mul, IntKind.wrap_i64]; omega
set_option maxRecDepth 100000 in
set_option maxHeartbeats 800000 in
theorem speRootDecimals_yes (n p r : Nat) (w : World) (h : isRt (n * 100 ^ p) r) (hn : n ≤ 99999999) (hp : p ≤ 4) :
    Calls Try.prog 32 #[.int .i64 (n : Int), .int .i64 (p : Int)] w fun e w' => e = .returned (.tuple #[.int .i64 (r : Int), .bool true]) ∧ Below w.heap.size w w' := by
  have HOK : Hid (okN (n : Int)) := Lib.hid ⟨by omega, by omega⟩
  have hpi : inB (p : Int) 0 4 = true := inB_yes (by omega) (by omega)
  obtain ⟨Z, N, e1, e2, e3, e4, e5⟩ := hund_facts hn hp
  have HP : Hid (∀ w, Calls Try.prog 64 #[.int .i64 ((2 * p : Nat) : Int)] w fun e w' => e = .returned (.int .i64 Z) ∧ w' = w) := Lib.hid (fun w => by rw [← e1]; exact l2Power_any (2 * p) w (by omega))
  have HR : Hid (∀ w, Calls Try.prog 56 #[.int .i64 N] w fun e w' => e = .returned (.int .i64 (r : Int)) ∧ w' = w) := Lib.hid (fun w => by rw [e2]; exact l12Root_any _ r w h (by omega))
  obtain ⟨T, hT⟩ : ∃ T : Int, ((2 * p : Nat) : Int) = T := ⟨_, rfl⟩
  rw [hT] at HP e5
  clear h e1 e2 e4 hT
  go_enter Try.func32, Try.ntmps32
  go_wp2_with fail
  refine (l12Good_yes _ w HOK.out).mono ?_
  rintro e w2 ⟨rfl, rfl⟩
  go_wp2_with fail
  refine (l1In_any (p : Int) 0 4 w).mono ?_
  rintro e w2 ⟨rfl, rfl⟩
  rw [hpi]
  go_wp2_with fail
  refine (HP.out w).mono ?_
  rintro e w2 ⟨rfl, rfl⟩
  go_wp2_with fail
  refine (HR.out w2).mono ?_
  rintro e w3 ⟨rfl, rfl⟩
  go_wp2_with fail
  go_ret2
  exact ⟨rfl, Below.refl _ _⟩
def okNP (a p : Int) : Prop := okN a ∧ (0 ≤ p ∧ p ≤ 4)
set_option maxRecDepth 100000 in
set_option maxHeartbeats 800000 in
theorem speRootDecimals_no (a p : Int) (w : World) (h : ¬ okNP a p) :
    Calls Try.prog 32 #[.int .i64 a, .int .i64 p] w fun e w' => e = .returned (.tuple #[.int .i64 0, .bool false]) ∧ Below w.heap.size w w' := by
  by_cases hk : okN a
  · have hpi : inB p 0 4 = false := inB_no (fun h1 => h ⟨hk, h1⟩)
    have HK := Lib.hid hk
    clear h hk
    go_enter Try.func32, Try.ntmps32
    go_wp2_with fail
    refine (l12Good_yes _ w HK.out).mono ?_
    rintro e w2 ⟨rfl, rfl⟩
    go_wp2_with fail
    refine (l1In_any p 0 4 w).mono ?_
    rintro e w2 ⟨rfl, rfl⟩
    rw [hpi]
    go_wp2_with fail
    go_ret2
    exact ⟨rfl, Below.refl _ _⟩
  · have HK := Lib.hid hk
    clear h hk
    go_enter Try.func32, Try.ntmps32
    go_wp2_with fail
    refine (l12Good_no _ w HK.out).mono ?_
    rintro e w2 ⟨rfl, rfl⟩
    go_wp2_with fail
    go_ret2
    exact ⟨rfl, Below.refl _ _⟩

/-- What is reckoned for third roots. -/
theorem cube_facts {n r k : Nat} (h : isCb n r) (hn : n ≤ 99999999) (hk : k ≤ 1023) : ∃ Q C : Int, IntKind.i64.wrap ((k : Int) * (k : Int)) = Q ∧ IntKind.i64.wrap (Q * (k : Int)) = C ∧ (C ≤ (n : Int) ↔ k ≤ r) ∧ C = ((k * k * k : Nat) : Int) ∧ Q = ((k * k : Nat) : Int) := by
  have h2 := isCb_iff h k
  have h3 := Nat.mul_le_mul hk hk
  have h4 := Nat.mul_le_mul h3 hk
  refine ⟨((k * k : Nat) : Int), ((k * k * k : Nat) : Int), ?_, ?_, ?_, rfl, rfl⟩
  · rw [← Int.natCast_mul, IntKind.wrap_i64]; omega
  · rw [← Int.natCast_mul, IntKind.wrap_i64]; omega
  · rw [← h2]; omega
set_option maxRecDepth 100000 in
set_option maxHeartbeats 1600000 in
theorem speCubeRoot_yes (n r : Nat) (w : World) (h : isCb n r) (hn : n ≤ 99999999) :
    Calls Try.prog 39 #[.int .i64 (n : Int)] w fun e w' => e = .returned (.tuple #[.int .i64 (r : Int), .bool true]) ∧ Below w.heap.size w w' := by
  have HOK : Hid (okN (n : Int)) := Lib.hid ⟨by omega, by omega⟩
  have hr : r < 465 := isCb_lt h (by omega)
  have HF := Lib.hid (fun (k : Nat) hk => cube_facts (k := k) h hn hk)
  clear h
  go_enter Try.func39, Try.ntmps39
  go_wp2_with fail
  refine (l12Good_yes _ w HOK.out).mono ?_
  rintro e w2 ⟨rfl, rfl⟩
  go_wp2_with fail
  go_loopw [4] (fun nv wr => ∃ (k : Nat), k ≤ r ∧ nv = .int .i64 (k : Int) ∧ wr = w) (fun nv _ => r - (intOf nv).toNat)
  case atStart => exact ⟨0, Nat.zero_le _, rfl, rfl⟩
  case round =>
    obtain ⟨k, hk, rfl, rfl⟩ := hrel
    obtain ⟨Q, C, e1, e2, e3, e4, e5⟩ := HF.out (k + 1) (by omega)
    clear e4 e5
    have e0 : IntKind.i64.wrap ((k : Int) + 1) = ((k + 1 : Nat) : Int) := by rw [IntKind.wrap_i64]; omega
    obtain ⟨P, hP⟩ : ∃ P : Int, ((k + 1 : Nat) : Int) = P := ⟨_, rfl⟩
    rw [hP] at e0 e1 e2
    have HP := Lib.hid hP
    clear hP
    by_cases hlt : k < r
    · have z1 := e3.2 hlt
      clear e3
      go_wp2_with fail
      go_roundw
      case rel => exact ⟨k + 1, hlt, by first | go_num | rw [HP.out] | (rw [e0, HP.out]), trivial⟩
      case measure => have := HP.out; simp [intOf]; omega
    · have z1 := mt e3.1 (by omega)
      obtain rfl : k = r := by omega
      clear e3
      go_wp2_with fail
      go_ret2
      exact ⟨rfl, Below.refl _ _⟩
set_option maxRecDepth 100000 in
set_option maxHeartbeats 800000 in
theorem speCubeRoot_no (a : Int) (w : World) (h : ¬ okN a) :
    Calls Try.prog 39 #[.int .i64 a] w fun e w' => e = .returned (.tuple #[.int .i64 0, .bool false]) ∧ Below w.heap.size w w' := by
  go_enter Try.func39, Try.ntmps39
  go_wp2_with fail
  refine (l12Good_no _ w h).mono ?_
  rintro e w2 ⟨rfl, rfl⟩
  go_wp2_with fail
  go_ret2
  exact ⟨rfl, Below.refl _ _⟩
end Go.Proofs.Ytlfplnbmgmookaa
