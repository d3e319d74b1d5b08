/- The model's steps, divisors, decimals. -/
import Derived.Test.YtocaiddpeoimhaaNd1
namespace Go.Proofs.Ytocaiddpeoimhaa
set_option linter.unusedVariables false
open Go.RowKit

/-- What the program reckons in a step. -/
theorem step_facts {r x d : Int} (hr : 0 ≤ r ∧ r < d) (hx : 0 ≤ x ∧ x ≤ 9) (hd : 1 ≤ d ∧ d ≤ 9999) : ∃ N q v : Int, 10 * r + x = N ∧ (0 ≤ N ∧ N ≤ 99999) ∧ IntKind.i64.wrap (10 * r) = 10 * r ∧ IntKind.i64.wrap (10 * r + x) = N ∧ IntKind.i64.wrap (N.tdiv d) = q ∧ N.tmod d = v ∧ IntKind.i64.wrap (N / d) = q ∧ N % d = v ∧ (0 ≤ q ∧ q ≤ 9) ∧ (0 ≤ v ∧ v < d) ∧ mkS d r x = ⟨N, q, v⟩ ∧ (10 * r + x) % d = v := by
  obtain ⟨f1, f2, f3, f4, f5, f6⟩ := div_facts (b := 10 * r + x) (d := d) (by omega) hd.1
  have hk := (mkS_ok hd.1 hr hx).2.1
  refine ⟨10 * r + x, (10 * r + x) / d, (10 * r + x) % d, rfl, by omega, by rw [IntKind.wrap_i64]; omega, by rw [IntKind.wrap_i64]; omega, f1, f2, ?_, rfl, hk, ⟨f5, f6⟩, rfl, rfl⟩
  rw [IntKind.wrap_i64]; have := hk; simp only [mkS] at this; omega
theorem take_zero_st (d : Int) (l : List Int) : stL d 0 (l.take 0) = [] := rfl
set_option maxRecDepth 100000 in
set_option maxHeartbeats 1600000 in
theorem l10Steps_any (m d : Nat) (w : World) (hm : m ≤ 99999999) (hd : 1 ≤ d ∧ d ≤ 9999) :
    Calls Try.prog 61 #[.int .i64 (m : Int), .int .i64 (d : Int)] w fun e w' => (∃ sq, e = .returned sq ∧ w'.ownsRow w.heap.size 36 3 sq (stL (d : Int) 0 (dgL m)).length (flatC trC (stL (d : Int) 0 (dgL m)))) ∧ Below w.heap.size w w' := by
  obtain ⟨i0, hi, hz0, hz1, hz2⟩ := info_parts Try.infoTri
  have HLN : Hid ((dgL m).length ≤ 8) := Lib.hid (dgL_len 8 m (by omega))
  have HDB : Hid (∀ i (h : i < (dgL m).length), 0 ≤ (dgL m)[i] ∧ (dgL m)[i] ≤ 9) := Lib.hid (fun i h => dgL_at m i h)
  have HG := Lib.hid (fun w => l9Digits_any m w (by omega))
  rw [stL_len]
  generalize dgL m = L at HLN HDB HG ⊢
  obtain ⟨D, hD⟩ : ∃ D : Int, (d : Int) = D := ⟨_, rfl⟩
  rw [hD]
  have hDb : 1 ≤ D ∧ D ≤ 9999 := by omega
  have z3 : (D == 0) = false := beq_eq_false_iff_ne.2 (by omega)
  have z4 : D ≠ 0 := by omega
  clear hm hd hD
  go_enter Try.func61, Try.ntmps61
  go_wp2_with fail
  refine (HG.out w).mono ?_
  rintro e w1 ⟨⟨sd, rfl, od⟩, hb1⟩
  obtain ⟨ad, cd, rfl⟩ := own_form od
  have hsz1 := hb1.size
  have HR := Lib.hid (fun (wr : World) (hk : KeepB w.heap.size w1.heap.size w1 wr) i (hi : i < L.length) => own_read inC_len od rfl hk i hi)
  have HZ : Hid (L.length ≤ 9223372036854775807) := Lib.hid (by have := HLN.out; omega)
  have HO0 : Hid (OutA w.heap.size w.heap.size w1.heap.size (w1.alloc (.cells #[] 36)) 36 3 w1.heap.size 0 0 []) := Lib.hid (outA_made w1 _ 3 hsz1 (Nat.le_refl _))
  have HB0 : Hid (Below w.heap.size w (w1.alloc (.cells #[] 36))) := Lib.hid (hb1.alloc hsz1 _)
  have HK0 : Hid (KeepB w.heap.size w1.heap.size w1 (w1.alloc (.cells #[] 36))) := Lib.hid (KeepB.of_below ((Below.refl _ _).alloc (Nat.le_refl _) _) (Nat.le_refl _))
  clear od hb1 hsz1
  go_wp2_with fail
  generalize w1.alloc (.cells #[] 36) = w2 at HO0 HB0 HK0 ⊢
  go_loopw [6, 7, 8] (fun ov rv iv wr => ∃ (k g c : Nat) (r : Int), k ≤ L.length ∧ iv = .int .i64 (k : Int) ∧ rv = .int .i64 r ∧ ov = .slice (some ⟨g, 0, none⟩) k c ∧ Hid (r = rsL D 0 (L.take k)) ∧ OutA w.heap.size w.heap.size w1.heap.size wr 36 3 g k c (flatC trC (stL D 0 (L.take k))) ∧ Below w.heap.size w wr ∧ KeepB w.heap.size w1.heap.size w1 wr) (fun _ _ iv _ => 20 - (intOf iv).toNat)
  case atStart => exact ⟨0, w1.heap.size, 0, 0, Nat.zero_le _, rfl, rfl, rfl, Lib.hid rfl, HO0.out, HB0.out, HK0.out⟩
  case round =>
    obtain ⟨k, g, c, r, hk, rfl, rfl, rfl, HRR, hO, hb, hK⟩ := hrel
    have HO := Lib.hid hO
    have HB := Lib.hid hb
    have HK := Lib.hid hK
    have hk8 : k ≤ 8 := by have := HLN.out; omega
    by_cases hlt : k < L.length
    · obtain ⟨b, rfl, hc⟩ := HR.out wr hK k hlt
      have c0 : wr.cell? ⟨b, k, none⟩ = some (.int .i64 L[k]) := by have := hc 0 (by omega); rw [Nat.mul_one] at this; exact this
      have hx := HDB.out k hlt
      have hr := rsL_bd hDb.1 (L.take k) 0 ⟨by omega, by omega⟩
      rw [← HRR.out] at hr
      have hst := stL_take D 0 L k hlt
      have hrt := rsL_take D 0 L k hlt
      rw [← HRR.out] at hst hrt
      obtain ⟨x, hxe⟩ : ∃ x, L[k] = x := ⟨_, rfl⟩
      rw [hxe] at c0 hx hst hrt
      obtain ⟨N, q, v, e1, e2, e3, e4, e5, e6, e7, e8, e9, e10, e11, e12⟩ := step_facts hr hx hDb
      rw [e11] at hst
      rw [e12] at hrt
      have HST := Lib.hid hst
      have HRT := Lib.hid hrt.symm
      have z1 : (0 : Int) ≤ (k : Int) := by omega
      have z2 : (k : Int) < (L.length : Int) := by omega
      clear hst hrt hc hO hb hK hxe e11 e12 e1
      go_wp2_with (at_builtin; refine wpList_push (wr := wr) rfl _ _ 26 rfl w.heap.size w.heap.size w1.heap.size w 36 i0 (.agg #[.int .i64 0, .int .i64 0, .int .i64 0]) 3 24 Try.underlying26 hi hz0 hz1 hz2 rfl (by decide) g k c (flatC trC (stL D 0 (L.take k))) [.int .i64 N, .int .i64 q, .int .i64 v] rfl rfl rfl ?c1 ?c2 (by decide) HO.out HB.out ?_)
      case c1 => first | rfl | exact ⟨rfl, rfl⟩ | exact ⟨rfl, rfl, rfl⟩ | (intro u hu; simp only [List.mem_cons, List.not_mem_nil, or_false] at hu; rcases hu with rfl | rfl | rfl <;> rfl)
      case c2 => omega
      intro g3 c3 w3 hO3 hB3 hK3
      have HO3 : Hid (OutA w.heap.size w.heap.size w1.heap.size w3 36 3 g3 (k + 1) c3 (flatC trC (stL D 0 (L.take (k + 1))))) := Lib.hid (by rw [HST.out, flatC_app]; exact hO3)
      have HB3 := Lib.hid hB3
      have HK3 := Lib.hid (HK.out.trans hK3)
      clear hO3 hB3 hK3 c0
      go_wp2_with fail
      go_roundw
      case rel => exact ⟨k + 1, g3, c3, v, by omega, by go_num, rfl, rfl, HRT, HO3.out, HB3.out, HK3.out⟩
      case measure => simp [intOf]; omega
    · obtain rfl : k = L.length := by omega
      have HE : Hid (wr.ownsRow w.heap.size 36 3 (.slice (some ⟨g, 0, none⟩) L.length c) L.length (flatC trC (stL D 0 L))) := Lib.hid (by have h1 := hO.own; rw [List.take_length] at h1; exact h1)
      clear hO hb hK
      go_wp2_with fail
      go_ret
      exact ⟨⟨_, rfl, HE.out⟩, HB.out⟩
set_option maxRecDepth 100000 in
set_option maxHeartbeats 800000 in
theorem speDivisionSteps_yes (m d : Nat) (w : World) (hm : m ≤ 99999999) (hd : 1 ≤ d ∧ d ≤ 9999) :
    Calls Try.prog 18 #[.int .i64 (m : Int), .int .i64 (d : Int)] w fun e w' => (∃ sq, e = .returned (.tuple #[sq, .bool true]) ∧ RowsR 3 trC w' sq (stL (d : Int) 0 (dgL m))) ∧ Below w.heap.size w w' := by
  have HOK : Hid (okD (m : Int) (d : Int)) := Lib.hid ⟨by omega, by omega⟩
  go_enter Try.func18, Try.ntmps18
  go_wp2_with fail
  refine (l10Asked_yes _ _ w HOK.out).mono ?_
  rintro e w2 ⟨rfl, rfl⟩
  go_wp2_with fail
  refine (l10Steps_any m d w hm hd).mono ?_
  rintro e w2 ⟨⟨sq, rfl, ho⟩, hb2⟩
  have HO := Lib.hid ho
  have HB := Lib.hid hb2
  clear ho hb2
  go_wp2_with fail
  go_ret2
  exact ⟨⟨_, rfl, RowsR.of_own trC_len HO.out⟩, HB.out⟩
set_option maxRecDepth 100000 in
set_option maxHeartbeats 800000 in
theorem speDivisionSteps_no (a b : Int) (w : World) (h : ¬ okD a b) :
    Calls Try.prog 18 #[.int .i64 a, .int .i64 b] w fun e w' => (∃ sq, e = .returned (.tuple #[sq, .bool false]) ∧ RowsR 3 trC w' sq []) ∧ Below w.heap.size w w' := by
  go_enter Try.func18, Try.ntmps18
  go_wp2_with fail
  refine (l10Asked_no _ _ w h).mono ?_
  rintro e w2 ⟨rfl, rfl⟩
  go_wp2_with fail
  go_ret2
  exact ⟨⟨_, rfl, ⟨_, 0, rfl, ⟨Nat.zero_le _, Nat.le_refl _⟩, fun h => absurd h (by simp)⟩⟩, (Below.refl _ _).alloc (Nat.le_refl _) _⟩

/-- The divisors up to k. -/
def dvL (a : Int) : Nat → List Int
  | 0 => []
  | k + 1 => dvL a k ++ if a % ((k : Int) + 1) = 0 then [(k : Int) + 1] else []
theorem dvL_len (a : Int) : ∀ k, (dvL a k).length ≤ k
  | 0 => Nat.le_refl _
  | k + 1 => by rw [dvL, List.length_append]; have := dvL_len a k; split <;> simp <;> omega
theorem dvL_mem (a : Int) : ∀ k, ∀ x ∈ dvL a k, (1 ≤ x ∧ x ≤ k) ∧ a % x = 0
  | 0, x, h => by cases h
  | k + 1, x, h => by
    rw [dvL] at h
    rcases List.mem_append.1 h with h | h
    · have := dvL_mem a k x h; exact ⟨by omega, this.2⟩
    · split at h
      · rename_i he
        obtain rfl := List.mem_singleton.1 h
        exact ⟨by omega, he⟩
      · cases h
set_option maxRecDepth 100000 in
set_option maxHeartbeats 1600000 in
theorem speDivisorsOf_yes (a : Int) (w : World) (h : 0 ≤ a ∧ a ≤ 99999999) :
    Calls Try.prog 43 #[.int .i64 a] w fun e w' => (∃ sq, e = .returned (.tuple #[sq, .bool true]) ∧ RowsR 1 inC w' sq (dvL a 99)) ∧ Below w.heap.size w w' := by
  obtain ⟨i0, hi, hz0, hz1, hz2⟩ := info_parts Try.infoI9
  have ha : inB a 0 99999999 = true := inB_yes h.1 h.2
  obtain ⟨h1, h2⟩ := h
  go_enter Try.func43, Try.ntmps43
  go_wp2_with fail
  have hs0 : (w.alloc (.cells #[] 3)).heap.size = w.heap.size + 1 := by simp
  have hb0 : Below w.heap.size w (w.alloc (.cells #[] 3)) := (Below.refl _ _).alloc (Nat.le_refl _) _
  have ho0 : (w.alloc (.cells #[] 3)).ownsRow w.heap.size 3 1 (.slice (some ⟨w.heap.size, 0, none⟩) 0 0) 0 [] := World.ownsRow_made _ _ _ (Nat.le_refl _) (Nat.zero_le _) (by simp)
  generalize w.alloc (.cells #[] 3) = w1 at hs0 hb0 ho0 ⊢
  refine (l1In_any a 0 99999999 w1).mono ?_
  rintro e w2 ⟨rfl, rfl⟩
  rw [ha]
  have HO0 : Hid (OutA w.heap.size 0 0 w1 3 1 w.heap.size 0 0 []) := Lib.hid ⟨ho0, .inr (Nat.zero_le _), Nat.zero_le _⟩
  have HB0 := Lib.hid hb0
  clear ho0 hb0 hs0
  go_wp2_with fail
  go_loopw [4, 5] (fun ov iv wr => ∃ (k g c : Nat) (ys : List Int), k ≤ 99 ∧ iv = .int .i64 ((k : Int) + 1) ∧ ov = .slice (some ⟨g, 0, none⟩) ys.length c ∧ Hid (ys = dvL a k) ∧ OutA w.heap.size 0 0 wr 3 1 g ys.length c (flatC inC ys) ∧ Below w.heap.size w wr) (fun _ iv _ => 200 - (intOf iv).toNat)
  case atStart => exact ⟨0, w.heap.size, 0, [], by omega, rfl, rfl, Lib.hid rfl, HO0.out, HB0.out⟩
  case round =>
    obtain ⟨k, g, c, ys, hk, rfl, rfl, HY, hO, hb⟩ := hrel
    have HO := Lib.hid hO
    have HB := Lib.hid hb
    have hyl : ys.length ≤ 99 := by have := dvL_len a k; rw [← HY.out] at this; omega
    obtain ⟨D, hD⟩ : ∃ D : Int, (k : Int) + 1 = D := ⟨_, rfl⟩
    have hst : dvL a (k + 1) = ys ++ if a % D = 0 then [D] else [] := by rw [dvL, HY.out, hD]
    by_cases hlt : k < 99
    · have z1 : D ≤ 99 := by omega
      have z3 : (D == 0) = false := beq_eq_false_iff_ne.2 (by omega)
      have z4 : D ≠ 0 := by omega
      have z5 : 1 ≤ D := by omega
      obtain ⟨f1, f2, f3, f4, f5, f6⟩ := div_facts (b := a) (d := D) ⟨by omega, by omega⟩ z5
      obtain ⟨m, hm⟩ : ∃ m, a % D = m := ⟨_, rfl⟩
      rw [hm] at hst f2 f5 f6
      rw [hD]
      clear hO hb f1 f3 f4
      by_cases hm0 : m = 0
      · subst hm0
        rw [if_pos rfl] at hst
        have HST := Lib.hid hst.symm
        have HDD := Lib.hid hD
        clear hst hD
        go_wp2_with (at_builtin; refine wpList_push (wr := wr) rfl _ _ 32 rfl w.heap.size 0 0 w 3 i0 (.int .i64 0) 1 8 Try.underlying32 hi hz0 hz1 hz2 rfl (by decide) g ys.length c (flatC inC ys) [.int .i64 D] rfl rfl rfl ?c1 ?c2 (by decide) HO.out HB.out ?_)
        case c1 => first | rfl | exact ⟨rfl, rfl⟩ | exact ⟨rfl, rfl, rfl⟩ | (intro u hu; simp only [List.mem_cons, List.not_mem_nil, or_false] at hu; subst hu; rfl)
        case c2 => omega
        intro g3 c3 w3 hO3 hB3 hK3
        have HO3 : Hid (OutA w.heap.size 0 0 w3 3 1 g3 (ys ++ [D]).length c3 (flatC inC (ys ++ [D]))) := Lib.hid (by rw [List.length_append, flatC_app]; exact hO3)
        have hlen : ys.length + 1 = (ys ++ [D]).length := by rw [List.length_append]; rfl
        rw [hlen]
        have HB3 := Lib.hid hB3
        clear hO3 hB3 hK3 hlen
        generalize ys ++ [D] = ys2 at HO3 HST ⊢
        go_wp2_with fail
        go_roundw
        case rel => exact ⟨k + 1, g3, c3, ys2, by omega, by first | (rw [← HDD.out]; go_num) | (have := HDD.out; go_num), rfl, HST, HO3.out, HB3.out⟩
        case measure => have := HDD.out; simp [intOf]; omega
      · rw [if_neg hm0, List.append_nil] at hst
        have hm1 : (m == 0) = false := beq_eq_false_iff_ne.2 hm0
        have HST := Lib.hid hst.symm
        have HDD := Lib.hid hD
        clear hst hD
        go_wp2_with fail
        go_roundw
        case rel => exact ⟨k + 1, g, c, ys, by omega, by first | (rw [← HDD.out]; go_num) | (have := HDD.out; go_num), rfl, HST, HO.out, HB.out⟩
        case measure => have := HDD.out; simp [intOf]; omega
    · obtain rfl : k = 99 := by omega
      have HE : Hid (RowsR 1 inC wr (.slice (some ⟨g, 0, none⟩) ys.length c) (dvL a 99)) := Lib.hid (by rw [← HY.out]; exact RowsR.of_own inC_len hO.own)
      clear hO hb hst
      subst hD
      go_wp2_with fail
      go_ret2
      exact ⟨⟨_, rfl, HE.out⟩, HB.out⟩
set_option maxRecDepth 100000 in
set_option maxHeartbeats 800000 in
theorem speDivisorsOf_no (a : Int) (w : World) (h : ¬ (0 ≤ a ∧ a ≤ 99999999)) :
    Calls Try.prog 43 #[.int .i64 a] w fun e w' => (∃ sq, e = .returned (.tuple #[sq, .bool false]) ∧ RowsR 1 inC w' sq []) ∧ Below w.heap.size w w' := by
  have HR : Hid (∀ w' : World, RowsR 1 inC w' (.slice (some ⟨w.heap.size, 0, none⟩) 0 0) ([] : List Int)) := Lib.hid (fun w' => ⟨_, 0, rfl, ⟨Nat.zero_le _, Nat.le_refl _⟩, fun h => absurd h (by simp)⟩)
  have ha : inB a 0 99999999 = false := inB_no h
  clear h
  go_enter Try.func43, Try.ntmps43
  go_wp2_with fail
  have hs0 : (w.alloc (.cells #[] 3)).heap.size = w.heap.size + 1 := by simp
  have hb0 : Below w.heap.size w (w.alloc (.cells #[] 3)) := (Below.refl _ _).alloc (Nat.le_refl _) _
  have ho0 : (w.alloc (.cells #[] 3)).ownsRow w.heap.size 3 1 (.slice (some ⟨w.heap.size, 0, none⟩) 0 0) 0 [] := World.ownsRow_made _ _ _ (Nat.le_refl _) (Nat.zero_le _) (by simp)
  generalize w.alloc (.cells #[] 3) = w1 at hs0 hb0 ho0 ⊢
  refine (l1In_any a 0 99999999 w1).mono ?_
  rintro e w2 ⟨rfl, rfl⟩
  rw [ha]
  go_wp2_with fail
  go_ret2
  exact ⟨⟨_, rfl, HR.out _⟩, hb0⟩

set_option maxRecDepth 100000 in
set_option maxHeartbeats 1600000 in
theorem speDecimalsOf_yes (a b : Int) (p : Nat) (w : World) (h : okD a b) (hp : p ≤ 12) :
    Calls Try.prog 39 #[.int .i64 a, .int .i64 b, .int .i64 (p : Int)] w fun e w' => (∃ sq, e = .returned (.tuple #[sq, .bool true]) ∧ RowsR 1 inC w' sq (dcL b (a % b) p)) ∧ Below w.heap.size w w' := by
  obtain ⟨i0, hi, hz0, hz1, hz2⟩ := info_parts Try.infoI9
  have hpi : inB (p : Int) 0 12 = true := inB_yes (by omega) (by omega)
  have HOK := Lib.hid h
  have z3 : (b == 0) = false := beq_eq_false_iff_ne.2 (by have := h.2.1; omega)
  have z4 : b ≠ 0 := by have := h.2.1; omega
  have hb9 : 1 ≤ b ∧ b ≤ 9999 := h.2
  obtain ⟨f1, f2, f3, f4, f5, f6⟩ := div_facts (b := a) (d := b) ⟨h.1.1, by have := h.1.2; omega⟩ h.2.1
  obtain ⟨r0, hr0⟩ : ∃ r, a % b = r := ⟨_, rfl⟩
  rw [hr0] at f2 f5 f6 ⊢
  clear h f1 f3 f4
  go_enter Try.func39, Try.ntmps39
  go_wp2_with fail
  have hs0 : (w.alloc (.cells #[] 3)).heap.size = w.heap.size + 1 := by simp
  have hb0 : Below w.heap.size w (w.alloc (.cells #[] 3)) := (Below.refl _ _).alloc (Nat.le_refl _) _
  have ho0 : (w.alloc (.cells #[] 3)).ownsRow w.heap.size 3 1 (.slice (some ⟨w.heap.size, 0, none⟩) 0 0) 0 [] := World.ownsRow_made _ _ _ (Nat.le_refl _) (Nat.zero_le _) (by simp)
  generalize w.alloc (.cells #[] 3) = w1 at hs0 hb0 ho0 ⊢
  refine (l10Asked_yes _ _ w1 HOK.out).mono ?_
  rintro e w2 ⟨rfl, rfl⟩
  go_wp2_with fail
  refine (l1In_any (p : Int) 0 12 w1).mono ?_
  rintro e w2 ⟨rfl, rfl⟩
  rw [hpi]
  have HO0 : Hid (OutA w.heap.size 0 0 w1 3 1 w.heap.size 0 0 []) := Lib.hid ⟨ho0, .inr (Nat.zero_le _), Nat.zero_le _⟩
  have HB0 := Lib.hid hb0
  have HR0 : Hid (0 ≤ r0 ∧ r0 < b) := Lib.hid ⟨f5, f6⟩
  clear ho0 hb0 hs0 f5 f6
  have hz9 : 0 ≤ a ∧ a ≤ 99999999 := HOK.out.1
  obtain ⟨hz8, hz7⟩ := hz9
  go_wp2_with fail
  try rw [hr0]
  clear f2 hr0
  go_loopw [8, 9, 10] (fun ov rv iv wr => ∃ (k g c : Nat) (r : Int), k ≤ p ∧ iv = .int .i64 (k : Int) ∧ rv = .int .i64 r ∧ ov = .slice (some ⟨g, 0, none⟩) k c ∧ Hid (r = rsD b r0 k) ∧ OutA w.heap.size 0 0 wr 3 1 g k c (flatC inC (dcL b r0 k)) ∧ Below w.heap.size w wr) (fun _ _ iv _ => 20 - (intOf iv).toNat)
  case atStart => exact ⟨0, w.heap.size, 0, r0, Nat.zero_le _, rfl, rfl, rfl, Lib.hid rfl, HO0.out, HB0.out⟩
  case round =>
    obtain ⟨k, g, c, r, hk, rfl, rfl, rfl, HRR, hO, hb⟩ := hrel
    have HO := Lib.hid hO
    have HB := Lib.hid hb
    by_cases hlt : k < p
    · have hr := rsD_bd hb9.1 HR0.out k
      rw [← HRR.out] at hr
      have hst := dcL_succ b r0 k
      have hrt := rsD_succ b r0 k
      rw [← HRR.out] at hst hrt
      obtain ⟨N, q, v, e1, e2, e3, e4, e5, e6, e7, e8, e9, e10, e11, e12⟩ := step_facts (x := 0) hr ⟨by omega, by omega⟩ hb9
      simp only [Int.add_zero] at e1 e4 e12
      have e13 : 10 * r / b = q := by have := congrArg Tr.k e11; simpa [mkS] using this
      rw [e13] at hst
      rw [e12] at hrt
      have HST := Lib.hid hst
      have HRT := Lib.hid hrt.symm
      have HN := Lib.hid e1
      have z1 : (k : Int) < (p : Int) := by omega
      rw [e1] at e3 e4
      clear hst hrt hO hb e11 e12 e13 e4
      have e1' : 10 * r = N := e1
      clear e1
      go_wp2_with (at_builtin; refine wpList_push (wr := wr) rfl _ _ 32 rfl w.heap.size 0 0 w 3 i0 (.int .i64 0) 1 8 Try.underlying32 hi hz0 hz1 hz2 rfl (by decide) g k c (flatC inC (dcL b r0 k)) [.int .i64 q] rfl rfl rfl ?c1 ?c2 (by decide) HO.out HB.out ?_)
      case c1 => first | rfl | exact ⟨rfl, rfl⟩ | exact ⟨rfl, rfl, rfl⟩ | (intro u hu; simp only [List.mem_cons, List.not_mem_nil, or_false] at hu; subst hu; rfl)
      case c2 => omega
      intro g3 c3 w3 hO3 hB3 hK3
      have HO3 : Hid (OutA w.heap.size 0 0 w3 3 1 g3 (k + 1) c3 (flatC inC (dcL b r0 (k + 1)))) := Lib.hid (by rw [HST.out, flatC_app]; exact hO3)
      have HB3 := Lib.hid hB3
      clear hO3 hB3 hK3
      go_wp2_with fail
      go_roundw
      case rel => exact ⟨k + 1, g3, c3, v, by omega, by go_num, rfl, rfl, HRT, HO3.out, HB3.out⟩
      case measure => simp [intOf]; omega
    · obtain rfl : k = p := by omega
      have HE : Hid (RowsR 1 inC wr (.slice (some ⟨g, 0, none⟩) k c) (dcL b r0 k)) := Lib.hid (RowsR.of_own inC_len (own_relen' (dcL_len b r0 k) hO.own))
      clear hO hb
      go_wp2_with fail
      go_ret2
      exact ⟨⟨_, rfl, HE.out⟩, HB.out⟩
def okP12 (a b p : Int) : Prop := okD a b ∧ (0 ≤ p ∧ p ≤ 12)
set_option maxRecDepth 100000 in
set_option maxHeartbeats 800000 in
theorem speDecimalsOf_no (a b p : Int) (w : World) (h : ¬ okP12 a b p) :
    Calls Try.prog 39 #[.int .i64 a, .int .i64 b, .int .i64 p] w fun e w' => (∃ sq, e = .returned (.tuple #[sq, .bool false]) ∧ RowsR 1 inC w' sq []) ∧ Below w.heap.size w w' := by
  have HR : Hid (∀ w' : World, RowsR 1 inC w' (.slice (some ⟨w.heap.size, 0, none⟩) 0 0) ([] : List Int)) := Lib.hid (fun w' => ⟨_, 0, rfl, ⟨Nat.zero_le _, Nat.le_refl _⟩, fun h => absurd h (by simp)⟩)
  by_cases hk : okD a b
  · have HK := Lib.hid hk
    have hn : inB p 0 12 = false := inB_no (fun h1 => h ⟨hk, h1⟩)
    clear h hk
    go_enter Try.func39, Try.ntmps39
    go_wp2_with fail
    have hs0 : (w.alloc (.cells #[] 3)).heap.size = w.heap.size + 1 := by simp
    have hb0 : Below w.heap.size w (w.alloc (.cells #[] 3)) := (Below.refl _ _).alloc (Nat.le_refl _) _
    have ho0 : (w.alloc (.cells #[] 3)).ownsRow w.heap.size 3 1 (.slice (some ⟨w.heap.size, 0, none⟩) 0 0) 0 [] := World.ownsRow_made _ _ _ (Nat.le_refl _) (Nat.zero_le _) (by simp)
    generalize w.alloc (.cells #[] 3) = w1 at hs0 hb0 ho0 ⊢
    refine (l10Asked_yes _ _ w1 HK.out).mono ?_
    rintro e w2 ⟨rfl, rfl⟩
    go_wp2_with fail
    refine (l1In_any p 0 12 w1).mono ?_
    rintro e w2 ⟨rfl, rfl⟩
    rw [hn]
    go_wp2_with fail
    go_ret2
    exact ⟨⟨_, rfl, HR.out _⟩, hb0⟩
  · have HK := Lib.hid hk
    clear h hk
    go_enter Try.func39, Try.ntmps39
    go_wp2_with fail
    have hs0 : (w.alloc (.cells #[] 3)).heap.size = w.heap.size + 1 := by simp
    have hb0 : Below w.heap.size w (w.alloc (.cells #[] 3)) := (Below.refl _ _).alloc (Nat.le_refl _) _
    have ho0 : (w.alloc (.cells #[] 3)).ownsRow w.heap.size 3 1 (.slice (some ⟨w.heap.size, 0, none⟩) 0 0) 0 [] := World.ownsRow_made _ _ _ (Nat.le_refl _) (Nat.zero_le _) (by simp)
    generalize w.alloc (.cells #[] 3) = w1 at hs0 hb0 ho0 ⊢
    refine (l10Asked_no _ _ w1 HK.out).mono ?_
    rintro e w2 ⟨rfl, rfl⟩
    go_wp2_with fail
    go_ret2
    exact ⟨⟨_, rfl, HR.out _⟩, hb0⟩

end Go.Proofs.Ytocaiddpeoimhaa
