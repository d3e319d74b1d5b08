/- The program's divisors, check, decimals. -/
import Derived.Test.YtocaiddpeoimhaaJd2
namespace Go.Proofs.Ytocaiddpeoimhaa
set_option linter.unusedVariables false
open Go.RowKit

set_option maxRecDepth 100000 in
set_option maxHeartbeats 1600000 in
theorem impDivisorsOf_yes (a : Int) (w : World) (h : 0 ≤ a ∧ a ≤ 99999999) :
    Calls Try.prog 42 #[.int .i64 a] w fun e w' => (∃ sq, e = .returned (.tuple #[sq, .bool true]) ∧ w'.ownsRow w.heap.size 3 1 sq (dvL a 99).length (flatC inC (dvL a 99))) ∧ Below w.heap.size w w' := by
  obtain ⟨i0, hi, hz0, hz1, hz2⟩ := info_parts Try.infoI9
  have HK : Hid (okD a 1) := Lib.hid ⟨h, by omega⟩
  obtain ⟨h1, h2⟩ := h
  go_enter Try.func42, Try.ntmps42
  go_wp2_with fail
  refine (canD_yes _ _ w HK.out).mono ?_
  rintro e w9 ⟨rfl, rfl⟩
  go_wp2_with fail
  have HO0 : Hid (OutA w.heap.size 0 0 (w.alloc (.cells #[] 3)) 3 1 w.heap.size 0 0 []) := Lib.hid (outA_made w _ 1 (Nat.le_refl _) (Nat.zero_le _))
  have HB0 : Hid (Below w.heap.size w (w.alloc (.cells #[] 3))) := Lib.hid ((Below.refl _ _).alloc (Nat.le_refl _) _)
  generalize w.alloc (.cells #[] 3) = w1 at HO0 HB0 ⊢
  go_wp2_with fail
  go_loopw [4, 5] (fun ov iv wr => ∃ (k g c : Nat) (ys : List Int), k ≤ 99 ∧ iv = .int .i64 ((k : Int) + 1) ∧ ov = .slice (some ⟨g, 0, none⟩) ys.length c ∧ Hid (ys = dvL a k) ∧ OutA w.heap.size 0 0 wr 3 1 g ys.length c (flatC inC ys) ∧ Below w.heap.size w wr) (fun _ iv _ => 200 - (intOf iv).toNat)
  case atStart => exact ⟨0, w.heap.size, 0, [], by omega, rfl, rfl, Lib.hid rfl, HO0.out, HB0.out⟩
  case round =>
    obtain ⟨k, g, c, ys, hk, rfl, rfl, HY, hO, hb⟩ := hrel
    have HO := Lib.hid hO
    have HB := Lib.hid hb
    have hyl : ys.length ≤ 99 := by have := dvL_len a k; rw [← HY.out] at this; omega
    obtain ⟨D, hD⟩ : ∃ D : Int, (k : Int) + 1 = D := ⟨_, rfl⟩
    have hst : dvL a (k + 1) = ys ++ if a % D = 0 then [D] else [] := by rw [dvL, HY.out, hD]
    by_cases hlt : k < 99
    · have z1 : D ≤ 99 := by omega
      have z3 : (D == 0) = false := beq_eq_false_iff_ne.2 (by omega)
      have z4 : D ≠ 0 := by omega
      have z5 : 1 ≤ D := by omega
      obtain ⟨f1, f2, f3, f4, f5, f6⟩ := div_facts (b := a) (d := D) ⟨by omega, by omega⟩ z5
      obtain ⟨m, hm⟩ : ∃ m, a % D = m := ⟨_, rfl⟩
      rw [hm] at hst f2 f5 f6
      rw [hD]
      clear hO hb f1 f3 f4
      by_cases hm0 : m = 0
      · subst hm0
        rw [if_pos rfl] at hst
        have HST := Lib.hid hst.symm
        have HDD := Lib.hid hD
        clear hst hD
        go_wp2_with (at_builtin; refine wpList_push (wr := wr) rfl _ _ 32 rfl w.heap.size 0 0 w 3 i0 (.int .i64 0) 1 8 Try.underlying32 hi hz0 hz1 hz2 rfl (by decide) g ys.length c (flatC inC ys) [.int .i64 D] rfl rfl rfl ?c1 ?c2 (by decide) HO.out HB.out ?_)
        case c1 => first | rfl | exact ⟨rfl, rfl⟩ | exact ⟨rfl, rfl, rfl⟩ | (intro u hu; simp only [List.mem_cons, List.not_mem_nil, or_false] at hu; subst hu; rfl)
        case c2 => omega
        intro g3 c3 w3 hO3 hB3 hK3
        have HO3 : Hid (OutA w.heap.size 0 0 w3 3 1 g3 (ys ++ [D]).length c3 (flatC inC (ys ++ [D]))) := Lib.hid (by rw [List.length_append, flatC_app]; exact hO3)
        have hlen : ys.length + 1 = (ys ++ [D]).length := by rw [List.length_append]; rfl
        rw [hlen]
        have HB3 := Lib.hid hB3
        clear hO3 hB3 hK3 hlen
        generalize ys ++ [D] = ys2 at HO3 HST ⊢
        go_wp2_with fail
        go_roundw
        case rel => exact ⟨k + 1, g3, c3, ys2, by omega, by first | (rw [← HDD.out]; go_num) | (have := HDD.out; go_num), rfl, HST, HO3.out, HB3.out⟩
        case measure => have := HDD.out; simp [intOf]; omega
      · rw [if_neg hm0, List.append_nil] at hst
        have hm1 : (m == 0) = false := beq_eq_false_iff_ne.2 hm0
        have HST := Lib.hid hst.symm
        have HDD := Lib.hid hD
        clear hst hD
        go_wp2_with fail
        go_roundw
        case rel => exact ⟨k + 1, g, c, ys, by omega, by first | (rw [← HDD.out]; go_num) | (have := HDD.out; go_num), rfl, HST, HO.out, HB.out⟩
        case measure => have := HDD.out; simp [intOf]; omega
    · obtain rfl : k = 99 := by omega
      have HE : Hid (wr.ownsRow w.heap.size 3 1 (.slice (some ⟨g, 0, none⟩) ys.length c) (dvL a 99).length (flatC inC (dvL a 99))) := Lib.hid (by rw [← HY.out]; exact hO.own)
      clear hO hb hst
      subst hD
      go_wp2_with fail
      go_ret2
      exact ⟨⟨_, rfl, HE.out⟩, HB.out⟩
set_option maxRecDepth 100000 in
set_option maxHeartbeats 800000 in
theorem impDivisorsOf_no (a : Int) (w : World) (h : ¬ (0 ≤ a ∧ a ≤ 99999999)) :
    Calls Try.prog 42 #[.int .i64 a] w fun e w' => (∃ sq, e = .returned (.tuple #[sq, .bool false]) ∧ w'.ownsRow w.heap.size 3 1 sq ([] : List Int).length (flatC inC ([] : List Int))) ∧ Below w.heap.size w w' := by
  go_enter Try.func42, Try.ntmps42
  go_wp2_with fail
  refine (canD_no _ _ w (fun hk => h hk.1)).mono ?_
  rintro e w9 ⟨rfl, rfl⟩
  go_wp2_with fail
  go_ret2
  exact ⟨⟨_, rfl, World.ownsRow_made (base := w.heap.size) (e := 3) (size := 1) w #[] 0 (Nat.le_refl _) (Nat.zero_le _) (by simp)⟩, (Below.refl _ _).alloc (Nat.le_refl _) _⟩
set_option maxRecDepth 100000 in
set_option maxHeartbeats 1600000 in
theorem impCheckDivision_yes (a b q r : Int) (w : World) (h : okC10 a b q r) (hq : q = a / b) (hr : r = a % b) :
    Calls Try.prog 26 #[.int .i64 a, .int .i64 b, .int .i64 q, .int .i64 r] w fun e w' => e = .returned (.tuple #[.bool true, .bool true]) ∧ Below w.heap.size w w' := by
  obtain ⟨f1, f2, f3, f4, f5, f6⟩ := div_facts (b := a) (d := b) ⟨h.1.1.1, by have := h.1.1.2; omega⟩ h.1.2.1
  have HK := Lib.hid h.1
  obtain ⟨g1, g2⟩ := h.2.1
  obtain ⟨g3, g4⟩ := h.2.2
  have z1 : (b == 0) = false := beq_eq_false_iff_ne.2 (by have := h.1.2.1; omega)
  have z2 : b ≠ 0 := by have := h.1.2.1; omega
  clear h
  obtain ⟨Q, hQ⟩ : ∃ q, a / b = q := ⟨_, rfl⟩
  obtain ⟨R, hR⟩ : ∃ r, a % b = r := ⟨_, rfl⟩
  rw [hQ] at f1 f3 f4 hq
  rw [hR] at f2 f5 f6 hr
  have y1 : (q == Q) = true := by simpa using hq
  have y2 : (r == R) = true := by simpa using hr
  clear hq hr hQ hR
  go_enter Try.func26, Try.ntmps26
  go_wp2_with fail
  refine (canD_yes _ _ w HK.out).mono ?_
  rintro e w2 ⟨rfl, rfl⟩
  go_wp2_with fail
  go_ret2
  exact ⟨rfl, Below.refl _ _⟩
set_option maxRecDepth 100000 in
set_option maxHeartbeats 1600000 in
theorem impCheckDivision_rest (a b q r : Int) (w : World) (h : okC10 a b q r) (hq : q = a / b) (hr : ¬ r = a % b) :
    Calls Try.prog 26 #[.int .i64 a, .int .i64 b, .int .i64 q, .int .i64 r] w fun e w' => e = .returned (.tuple #[.bool false, .bool true]) ∧ Below w.heap.size w w' := by
  obtain ⟨f1, f2, f3, f4, f5, f6⟩ := div_facts (b := a) (d := b) ⟨h.1.1.1, by have := h.1.1.2; omega⟩ h.1.2.1
  have HK := Lib.hid h.1
  obtain ⟨g1, g2⟩ := h.2.1
  obtain ⟨g3, g4⟩ := h.2.2
  have z1 : (b == 0) = false := beq_eq_false_iff_ne.2 (by have := h.1.2.1; omega)
  have z2 : b ≠ 0 := by have := h.1.2.1; omega
  clear h
  obtain ⟨Q, hQ⟩ : ∃ q, a / b = q := ⟨_, rfl⟩
  obtain ⟨R, hR⟩ : ∃ r, a % b = r := ⟨_, rfl⟩
  rw [hQ] at f1 f3 f4 hq
  rw [hR] at f2 f5 f6 hr
  have y1 : (q == Q) = true := by simpa using hq
  have y2 : (r == R) = false := by simpa using hr
  clear hq hr hQ hR
  go_enter Try.func26, Try.ntmps26
  go_wp2_with fail
  refine (canD_yes _ _ w HK.out).mono ?_
  rintro e w2 ⟨rfl, rfl⟩
  go_wp2_with fail
  go_ret2
  exact ⟨rfl, Below.refl _ _⟩
set_option maxRecDepth 100000 in
set_option maxHeartbeats 1600000 in
theorem impCheckDivision_quot (a b q r : Int) (w : World) (h : okC10 a b q r) (hq : ¬ q = a / b) (hr : a % b = a % b) :
    Calls Try.prog 26 #[.int .i64 a, .int .i64 b, .int .i64 q, .int .i64 r] w fun e w' => e = .returned (.tuple #[.bool false, .bool true]) ∧ Below w.heap.size w w' := by
  obtain ⟨f1, f2, f3, f4, f5, f6⟩ := div_facts (b := a) (d := b) ⟨h.1.1.1, by have := h.1.1.2; omega⟩ h.1.2.1
  have HK := Lib.hid h.1
  obtain ⟨g1, g2⟩ := h.2.1
  obtain ⟨g3, g4⟩ := h.2.2
  have z1 : (b == 0) = false := beq_eq_false_iff_ne.2 (by have := h.1.2.1; omega)
  have z2 : b ≠ 0 := by have := h.1.2.1; omega
  clear h
  obtain ⟨Q, hQ⟩ : ∃ q, a / b = q := ⟨_, rfl⟩
  obtain ⟨R, hR⟩ : ∃ r, a % b = r := ⟨_, rfl⟩
  rw [hQ] at f1 f3 f4 hq
  rw [hR] at f2 f5 f6 hr
  have y1 : (q == Q) = false := by simpa using hq
  have y2 : (r == R) = (r == R) := by rfl
  clear hq hr hQ hR
  go_enter Try.func26, Try.ntmps26
  go_wp2_with fail
  refine (canD_yes _ _ w HK.out).mono ?_
  rintro e w2 ⟨rfl, rfl⟩
  go_wp2_with fail
  go_ret2
  exact ⟨rfl, Below.refl _ _⟩
set_option maxRecDepth 100000 in
set_option maxHeartbeats 800000 in
theorem impCheckDivision_no1 (a b q r : Int) (w : World) (h : ¬ okD a b) :
    Calls Try.prog 26 #[.int .i64 a, .int .i64 b, .int .i64 q, .int .i64 r] w fun e w' => e = .returned (.tuple #[.bool false, .bool false]) ∧ Below w.heap.size w w' := by
  have HK := Lib.hid h
  clear h
  go_enter Try.func26, Try.ntmps26
  go_wp2_with fail
  refine (canD_no _ _ w HK.out).mono ?_
  rintro e w2 ⟨rfl, rfl⟩
  go_wp2_with fail
  go_ret2
  exact ⟨rfl, Below.refl _ _⟩
set_option maxRecDepth 100000 in
set_option maxHeartbeats 800000 in
theorem impCheckDivision_no2 (a b q r : Int) (w : World) (h : okD a b) (h2 : q < 0) :
    Calls Try.prog 26 #[.int .i64 a, .int .i64 b, .int .i64 q, .int .i64 r] w fun e w' => e = .returned (.tuple #[.bool false, .bool false]) ∧ Below w.heap.size w w' := by
  have HK := Lib.hid h
  clear h
  go_enter Try.func26, Try.ntmps26
  go_wp2_with fail
  refine (canD_yes _ _ w HK.out).mono ?_
  rintro e w2 ⟨rfl, rfl⟩
  go_wp2_with fail
  go_ret2
  exact ⟨rfl, Below.refl _ _⟩
set_option maxRecDepth 100000 in
set_option maxHeartbeats 800000 in
theorem impCheckDivision_no3 (a b q r : Int) (w : World) (h : okD a b) (h1 : 0 ≤ q) (h2 : 99999999 < q) :
    Calls Try.prog 26 #[.int .i64 a, .int .i64 b, .int .i64 q, .int .i64 r] w fun e w' => e = .returned (.tuple #[.bool false, .bool false]) ∧ Below w.heap.size w w' := by
  have HK := Lib.hid h
  clear h
  go_enter Try.func26, Try.ntmps26
  go_wp2_with fail
  refine (canD_yes _ _ w HK.out).mono ?_
  rintro e w2 ⟨rfl, rfl⟩
  go_wp2_with fail
  go_ret2
  exact ⟨rfl, Below.refl _ _⟩
set_option maxRecDepth 100000 in
set_option maxHeartbeats 800000 in
theorem impCheckDivision_no4 (a b q r : Int) (w : World) (h : okD a b) (h1 : 0 ≤ q) (h2 : q ≤ 99999999) (h3 : r < 0) :
    Calls Try.prog 26 #[.int .i64 a, .int .i64 b, .int .i64 q, .int .i64 r] w fun e w' => e = .returned (.tuple #[.bool false, .bool false]) ∧ Below w.heap.size w w' := by
  have HK := Lib.hid h
  clear h
  go_enter Try.func26, Try.ntmps26
  go_wp2_with fail
  refine (canD_yes _ _ w HK.out).mono ?_
  rintro e w2 ⟨rfl, rfl⟩
  go_wp2_with fail
  go_ret2
  exact ⟨rfl, Below.refl _ _⟩
set_option maxRecDepth 100000 in
set_option maxHeartbeats 800000 in
theorem impCheckDivision_no5 (a b q r : Int) (w : World) (h : okD a b) (h1 : 0 ≤ q) (h2 : q ≤ 99999999) (h3 : 0 ≤ r) (h4 : 9999 < r) :
    Calls Try.prog 26 #[.int .i64 a, .int .i64 b, .int .i64 q, .int .i64 r] w fun e w' => e = .returned (.tuple #[.bool false, .bool false]) ∧ Below w.heap.size w w' := by
  have HK := Lib.hid h
  clear h
  go_enter Try.func26, Try.ntmps26
  go_wp2_with fail
  refine (canD_yes _ _ w HK.out).mono ?_
  rintro e w2 ⟨rfl, rfl⟩
  go_wp2_with fail
  go_ret2
  exact ⟨rfl, Below.refl _ _⟩
theorem impCheckDivision_no (a b q r : Int) (w : World) (h : ¬ okC10 a b q r) :
    Calls Try.prog 26 #[.int .i64 a, .int .i64 b, .int .i64 q, .int .i64 r] w fun e w' => e = .returned (.tuple #[.bool false, .bool false]) ∧ Below w.heap.size w w' := by
  by_cases h1 : okD a b
  · rcases Int.lt_or_le q 0 with h2 | h2
    · exact impCheckDivision_no2 a b q r w h1 h2
    · rcases Int.lt_or_le 99999999 q with h3 | h3
      · exact impCheckDivision_no3 a b q r w h1 h2 h3
      · rcases Int.lt_or_le r 0 with h4 | h4
        · exact impCheckDivision_no4 a b q r w h1 h2 h3 h4
        · rcases Int.lt_or_le 9999 r with h5 | h5
          · exact impCheckDivision_no5 a b q r w h1 h2 h3 h4 h5
          · exact absurd ⟨h1, ⟨h2, h3⟩, ⟨h4, h5⟩⟩ h
  · exact impCheckDivision_no1 a b q r w h1
theorem KeepB.setLow {lo hi : Nat} {a w : World} (h : KeepB lo hi a w) {p : Addr} (hp : p.block < lo) (u : Value) : KeepB lo hi a (w.setCell p u) := fun q h1 h2 =>
  (Below.heap_setCell w p u q (by omega)).trans (h q h1 h2)
/-- The row of decimals, as it is filled. -/
theorem stL_zeros (d r : Int) (p : Nat) : (stL d r (List.replicate p 0)).length = p := by rw [stL_len, List.length_replicate]
set_option maxRecDepth 100000 in
set_option maxHeartbeats 3200000 in
theorem impDecimalsOf_yes (a b : Int) (p : Nat) (w : World) (h : okD a b) (hp : p ≤ 12) :
    Calls Try.prog 38 #[.int .i64 a, .int .i64 b, .int .i64 (p : Int)] w fun e w' => (∃ sq, e = .returned (.tuple #[sq, .bool true]) ∧ w'.ownsRow w.heap.size 3 1 sq (dcL b (a % b) p).length (flatC inC (dcL b (a % b) p))) ∧ Below w.heap.size w w' := by
  obtain ⟨i0, hi, hz0, hz1, hz2⟩ := info_parts Try.infoI9
  have HOK := Lib.hid h
  have z3 : (b == 0) = false := beq_eq_false_iff_ne.2 (by have := h.2.1; omega)
  have z4 : b ≠ 0 := by have := h.2.1; omega
  have hb9 : 1 ≤ b ∧ b ≤ 9999 := h.2
  obtain ⟨hz8, hz7⟩ := h.1
  obtain ⟨f1, f2, f3, f4, f5, f6⟩ := div_facts (b := a) (d := b) ⟨h.1.1, by have := h.1.2; omega⟩ h.2.1
  obtain ⟨r0, hr0⟩ : ∃ r, a % b = r := ⟨_, rfl⟩
  rw [hr0] at f2 f5 f6 ⊢
  have HSO := Lib.hid (fun v w h => stepsOf_any v (List.replicate p 0) r0 b w h (by rw [List.length_replicate]; omega) ⟨f5, f6⟩ (fun i h => by rw [List.getElem_replicate]; omega) hb9)
  obtain ⟨F, HF0, HFE, HFL, HFS⟩ := fill_map (stL b r0 (List.replicate p 0)) (fun t => t.k)
  have hTl := stL_zeros b r0 p
  rw [dcL_len, show dcL b r0 p = (stL b r0 (List.replicate p 0)).map (fun t => t.k) from rfl, ← HFE]
  generalize stL b r0 (List.replicate p 0) = T at HSO HF0 HFE HFL HFS hTl ⊢
  subst hTl
  have HF0 := Lib.hid HF0
  have HFL := Lib.hid HFL
  have HFS := Lib.hid HFS
  clear h f1 f3 f4 f5 f6 HFE
  go_enter Try.func38, Try.ntmps38
  go_wp2_with fail
  refine (canD_yes _ _ w HOK.out).mono ?_
  rintro e w9 ⟨rfl, rfl⟩
  go_wp2_with (at_make; refine wpList_make_full _ rfl _ _ 32 rfl w.heap.size 3 i0 (.int .i64 0) 1 Try.underlying32 hi hz0 hz1 _ _ _ _ T.length rfl rfl rfl rfl ?b2 ?b3 (Nat.le_refl _) ?_)
  case b2 => rw [hz2]; omega
  case b3 => unfold maxLen; omega
  intro w1 hown hgrow
  have hm := made_int T.length
  rw [Nat.mul_one] at hm
  rw [hm] at hown
  have hb1 : Below w.heap.size w w1 := (Below.refl _ _).grown hgrow (Nat.le_refl _) (fun k h => by cases h)
  have HZR := Lib.hid (RowsR.of_own inC_len (own_relen' (show (List.replicate T.length (0 : Int)).length = T.length from List.length_replicate) hown))
  have HB1 := Lib.hid hb1
  have HZB : Hid (w.heap.size < w1.heap.size) := Lib.hid (hown.lt _ rfl).2
  clear hown hgrow hb1
  go_wp2_with (at_make; refine wpList_make_full _ rfl _ _ 32 rfl w1.heap.size 3 i0 (.int .i64 0) 1 Try.underlying32 hi hz0 hz1 _ _ _ _ T.length rfl rfl rfl rfl ?b2 ?b3 (Nat.le_refl _) ?_)
  case b2 => rw [hz2]; omega
  case b3 => unfold maxLen; omega
  intro w2 hown hgrow
  try rw [hm] at hown
  rw [← HF0.out] at hown
  have hb2 : Below w1.heap.size w1 w2 := (Below.refl _ _).grown hgrow (Nat.le_refl _) (fun k h => by cases h)
  have HO2 := Lib.hid hown
  have HB2 : Hid (Below w.heap.size w w2) := Lib.hid (HB1.out.trans (hb2.mono HB1.out.size))
  have HZR2 := Lib.hid (RowsR.below HZR.out hb2 (Nat.le_refl _))
  clear hown hgrow hm hb2
  obtain ⟨G, hG⟩ : ∃ G, w1.heap.size = G := ⟨_, rfl⟩
  rw [hG] at HO2 HZB ⊢
  clear hG HB1 HZR
  have HGL : Hid (G < w2.heap.size) := Lib.hid (HO2.out.lt _ rfl).2
  have HZ : Hid (T.length ≤ 9223372036854775807) := Lib.hid (by omega)
  go_wp2_with fail
  refine (HSO.out _ w2 HZR2.out).mono ?_
  rintro e w3 ⟨⟨sd, rfl, od⟩, hb3⟩
  obtain ⟨ad, cd, rfl⟩ := own_form od
  have HR := Lib.hid (fun (wr : World) (hk : KeepB w2.heap.size w3.heap.size w3 wr) i (hi : i < T.length) => own_read trC_len od rfl hk i hi)
  have HO3 := Lib.hid (own_below HO2.out hb3)
  have HB3 : Hid (Below w.heap.size w w3) := Lib.hid (HB2.out.trans (hb3.mono HB2.out.size))
  have HWL : Hid (w2.heap.size ≤ w3.heap.size) := Lib.hid hb3.size
  clear od hb3
  obtain ⟨J, hJ⟩ : ∃ J, w3.heap.size = J := ⟨_, rfl⟩
  have HJ := Lib.hid hJ
  rw [hJ] at HR HWL
  obtain ⟨I, hI⟩ : ∃ I, w2.heap.size = I := ⟨_, rfl⟩
  rw [hI] at HR HGL HWL
  clear hJ hI HSO HZR2 HO2 HB2
  go_wp2_with fail
  go_loopw [36] (fun iv wr => ∃ (k : Nat), k ≤ T.length ∧ iv = .int .i64 (k : Int) ∧ wr.ownsRow G 3 1 (.slice (some ⟨G, 0, none⟩) T.length T.length) T.length (flatC inC (F k)) ∧ Below w.heap.size w wr ∧ KeepB I J w3 wr ∧ Hid (J ≤ wr.heap.size)) (fun iv _ => 20 - (intOf iv).toNat)
  case atStart => exact ⟨0, Nat.zero_le _, rfl, HO3.out, HB3.out, KeepB.refl _ _ _, Lib.hid (Nat.le_of_eq HJ.out.symm)⟩
  case round =>
    obtain ⟨k, hk, rfl, hO, hb, hK, HJL⟩ := hrel
    have HO := Lib.hid hO
    have HB := Lib.hid hb
    have HK := Lib.hid hK
    by_cases hlt : k < T.length
    · obtain ⟨b0, rfl, hc⟩ := HR.out wr hK k hlt
      have c0 : wr.cell? ⟨b0, k * 3, none⟩ = some (.int .i64 T[k].i) := hc 0 (by omega)
      have c1 : wr.cell? ⟨b0, k * 3 + 1, none⟩ = some (.int .i64 T[k].k) := hc 1 (by omega)
      have c2 : wr.cell? ⟨b0, k * 3 + 2, none⟩ = some (.int .i64 T[k].v) := hc 2 (by omega)
      have hfs := HFS.out k hlt
      obtain ⟨t3, ht3⟩ : ∃ t3, T[k] = t3 := ⟨_, rfl⟩
      rw [ht3] at c0 c1 c2 hfs
      obtain ⟨x, hx⟩ : ∃ x, t3.i = x := ⟨_, rfl⟩
      obtain ⟨q, hq⟩ : ∃ q, t3.k = q := ⟨_, rfl⟩
      obtain ⟨v, hv⟩ : ∃ v, t3.v = v := ⟨_, rfl⟩
      rw [hx] at c0
      rw [hq] at c1 hfs
      rw [hv] at c2
      have HFN := Lib.hid hfs
      have z1 : (0 : Int) ≤ (k : Int) := by omega
      have z2 : (k : Int) < (T.length : Int) := by omega
      have HO4 := Lib.hid (HO.out.alloc (.cells #[.int .i64 x, .int .i64 q, .int .i64 v] 36))
      have HB4 := Lib.hid (HB.out.alloc HB.out.size (.cells #[.int .i64 x, .int .i64 q, .int .i64 v] 36))
      have HK4 : Hid (KeepB I J w3 (wr.alloc (.cells #[.int .i64 x, .int .i64 q, .int .i64 v] 36))) := Lib.hid (HK.out.trans (KeepB.of_below ((Below.refl _ _).alloc (Nat.le_refl _) _) HJL.out))
      have HL4 : Hid (J ≤ (wr.alloc (.cells #[.int .i64 x, .int .i64 q, .int .i64 v] 36)).heap.size) := Lib.hid (by have := HJL.out; simp; omega)
      have HGW : Hid (w.heap.size ≤ G) := Lib.hid (Nat.le_of_lt HZB.out)
      obtain ⟨u0, d0⟩ : ∃ u, (wr.alloc (.cells #[.int .i64 x, .int .i64 q, .int .i64 v] 36)).cell? ⟨G, k, none⟩ = some u := by
        have h5 := HO4.out.cellAt (k * 1 + 0) (by omega)
        rw [Nat.mul_one, Nat.add_zero] at h5
        exact ⟨_, h5.trans (List.getElem?_eq_getElem (by rw [flatC_len inC_len, HFL.out k hk]; omega))⟩
      have f0 := HO4.out.frozenAt k
      have hne : G ≠ wr.heap.size := by have := HGL.out; have := HJL.out; have := HWL.out; omega
      clear hc hO hb hK ht3 hfs hx hq hv
      go_wp2_with fail
      refine ⟨⟨k + 1, by omega, by go_num, ?_, HB4.out.setCell HGW.out _, HK4.out.setLow HGL.out _, Lib.hid (by simp; have := HL4.out; simp at this; omega)⟩, by simp [intOf]; omega⟩
      have h6 := (HO4.out.stored k (.int .i64 q)).1
      rw [set1C (F k) k (by rw [HFL.out k hk]; exact hlt), HFN.out] at h6
      exact h6
    · obtain rfl : k = T.length := by omega
      have HE := Lib.hid (own_mono hO (Nat.le_of_lt HZB.out))
      clear hO hb hK
      go_wp2_with fail
      go_ret2
      exact ⟨⟨_, rfl, HE.out⟩, HB.out⟩
set_option maxRecDepth 100000 in
set_option maxHeartbeats 800000 in
theorem impDecimalsOf_bad (a b p : Int) (w : World) (h : ¬ okD a b) :
    Calls Try.prog 38 #[.int .i64 a, .int .i64 b, .int .i64 p] w fun e w' => (∃ sq, e = .returned (.tuple #[sq, .bool false]) ∧ w'.ownsRow w.heap.size 3 1 sq ([] : List Int).length (flatC inC ([] : List Int))) ∧ Below w.heap.size w w' := by
  go_enter Try.func38, Try.ntmps38
  go_wp2_with fail
  refine (canD_no _ _ w h).mono ?_
  rintro e w9 ⟨rfl, rfl⟩
  go_wp2_with fail
  go_ret2
  exact ⟨⟨_, rfl, World.ownsRow_made (base := w.heap.size) (e := 3) (size := 1) w #[] 0 (Nat.le_refl _) (Nat.zero_le _) (by simp)⟩, (Below.refl _ _).alloc (Nat.le_refl _) _⟩
set_option maxRecDepth 100000 in
set_option maxHeartbeats 800000 in
theorem impDecimalsOf_low (a b p : Int) (w : World) (h : okD a b) (hp : p < 0) :
    Calls Try.prog 38 #[.int .i64 a, .int .i64 b, .int .i64 p] w fun e w' => (∃ sq, e = .returned (.tuple #[sq, .bool false]) ∧ w'.ownsRow w.heap.size 3 1 sq ([] : List Int).length (flatC inC ([] : List Int))) ∧ Below w.heap.size w w' := by
  have HK := Lib.hid h
  clear h
  go_enter Try.func38, Try.ntmps38
  go_wp2_with fail
  refine (canD_yes _ _ w HK.out).mono ?_
  rintro e w9 ⟨rfl, rfl⟩
  go_wp2_with fail
  go_ret2
  exact ⟨⟨_, rfl, World.ownsRow_made (base := w.heap.size) (e := 3) (size := 1) w #[] 0 (Nat.le_refl _) (Nat.zero_le _) (by simp)⟩, (Below.refl _ _).alloc (Nat.le_refl _) _⟩
set_option maxRecDepth 100000 in
set_option maxHeartbeats 800000 in
theorem impDecimalsOf_high (a b p : Int) (w : World) (h : okD a b) (h0 : 0 ≤ p) (hp : 12 < p) :
    Calls Try.prog 38 #[.int .i64 a, .int .i64 b, .int .i64 p] w fun e w' => (∃ sq, e = .returned (.tuple #[sq, .bool false]) ∧ w'.ownsRow w.heap.size 3 1 sq ([] : List Int).length (flatC inC ([] : List Int))) ∧ Below w.heap.size w w' := by
  have HK := Lib.hid h
  clear h
  go_enter Try.func38, Try.ntmps38
  go_wp2_with fail
  refine (canD_yes _ _ w HK.out).mono ?_
  rintro e w9 ⟨rfl, rfl⟩
  go_wp2_with fail
  go_ret2
  exact ⟨⟨_, rfl, World.ownsRow_made (base := w.heap.size) (e := 3) (size := 1) w #[] 0 (Nat.le_refl _) (Nat.zero_le _) (by simp)⟩, (Below.refl _ _).alloc (Nat.le_refl _) _⟩
theorem impDecimalsOf_no (a b p : Int) (w : World) (h : ¬ okP12 a b p) :
    Calls Try.prog 38 #[.int .i64 a, .int .i64 b, .int .i64 p] w fun e w' => (∃ sq, e = .returned (.tuple #[sq, .bool false]) ∧ w'.ownsRow w.heap.size 3 1 sq ([] : List Int).length (flatC inC ([] : List Int))) ∧ Below w.heap.size w w' := by
  by_cases h1 : okD a b
  · rcases Int.lt_or_le p 0 with h2 | h2
    · exact impDecimalsOf_low a b p w h1 h2
    · rcases Int.lt_or_le 12 p with h3 | h3
      · exact impDecimalsOf_high a b p w h1 h2 h3
      · exact absurd ⟨h1, h2, h3⟩ h
  · exact impDecimalsOf_bad a b p w h1
end Go.Proofs.Ytocaiddpeoimhaa
