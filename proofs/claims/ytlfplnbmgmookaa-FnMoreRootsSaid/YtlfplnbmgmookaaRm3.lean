/- The model's sums of two squares. -/
import Derived.Test.YtlfplnbmgmookaaRm1
namespace Go.Proofs.Ytlfplnbmgmookaa
set_option linter.unusedVariables false
open Go.RowKit

def pqC (x : Int × Int) : List Value := [.int .i64 x.1, .int .i64 x.2]
theorem pqC_len (x : Int × Int) : (pqC x).length = 2 := rfl
theorem flat_pqC (l : List (Int × Int)) : flat l = flatC pqC l := by
  induction l with
  | nil => rfl
  | cons x t ih => rw [flat, flatC, ih]; rfl
/-- How many first numbers are tried. -/
def sqK (n : Nat) : Nat := rt (n / 2) + 1
theorem sqK_iff (n k : Nat) : 2 * (k * k) ≤ n ↔ k < sqK n := by
  have h := isRt_iff (isRt_rt (n / 2)) k
  unfold sqK
  rw [Nat.lt_succ_iff, ← h, Nat.le_div_iff_mul_le (by omega)]
  omega
theorem sqK_le {n : Nat} (h : n ≤ 10000) : sqK n ≤ 71 := by
  have := isRt_le (k := 71) (isRt_rt (n / 2)) (by omega)
  unfold sqK; omega
/-- What both sides reckon for a first number. -/
theorem two_facts {n k : Nat} (hn : n ≤ 10000) (hk : k ≤ sqK n) : ∃ D Q S F B BB Z : Int, IntKind.i64.wrap (2 * (k : Int)) = D ∧ IntKind.i64.wrap (D * (k : Int)) = Q ∧ (Q ≤ (n : Int) ↔ k < sqK n) ∧ IntKind.i64.wrap ((k : Int) * (k : Int)) = S ∧ IntKind.i64.wrap ((n : Int) - S) = F ∧ IntKind.i64.wrap (B * B) = BB ∧
    (k < sqK n → F = ((n - k * k : Nat) : Int) ∧ B = (rt (n - k * k) : Int) ∧ Z = F - B * B ∧ (BB = F ↔ rt (n - k * k) * rt (n - k * k) = n - k * k) ∧ (Z = 0 ↔ rt (n - k * k) * rt (n - k * k) = n - k * k)) := by
  have h1 := sqK_le hn
  have h2 := Nat.mul_le_mul (show k ≤ 71 by omega) (show k ≤ 71 by omega)
  have h3 := sqK_iff n k
  have hr := isRt_rt (n - k * k)
  have hr1 : rt (n - k * k) < 101 := isRt_le hr (by omega)
  have hr2 := Nat.mul_le_mul (show rt (n - k * k) ≤ 100 by omega) (show rt (n - k * k) ≤ 100 by omega)
  generalize rt (n - k * k) = b at hr1 hr2 ⊢
  have e : (k : Int) * (k : Int) = ((k * k : Nat) : Int) := (Int.natCast_mul k k).symm
  have e2 : 2 * (k : Int) * (k : Int) = 2 * ((k * k : Nat) : Int) := by rw [Int.mul_assoc, e]
  have e3 : (b : Int) * (b : Int) = ((b * b : Nat) : Int) := (Int.natCast_mul b b).symm
  generalize k * k = q at h2 h3 e e2 ⊢
  refine ⟨2 * (k : Int), 2 * ((q : Nat) : Int), ((q : Nat) : Int), (n : Int) - ((q : Nat) : Int), (b : Int), ((b * b : Nat) : Int), (n : Int) - ((q : Nat) : Int) - ((b * b : Nat) : Int), ?_, ?_, by omega, ?_, ?_, ?_, fun hlt => ?_⟩
  · rw [IntKind.wrap_i64]; omega
  · rw [e2, IntKind.wrap_i64]; omega
  · rw [e, IntKind.wrap_i64]; omega
  · rw [IntKind.wrap_i64]; omega
  · rw [e3]; generalize b * b = c at hr2 ⊢; rw [IntKind.wrap_i64]; omega
  · have := h3.2 hlt
    rw [e3]
    generalize b * b = c at hr2 ⊢
    refine ⟨by omega, rfl, rfl, by omega, by omega⟩
set_option maxRecDepth 100000 in
set_option maxHeartbeats 3200000 in
theorem speSumOfTwo_yes (n : Nat) (w : World) (hn : n ≤ 10000) :
    Calls Try.prog 35 #[.int .i64 (n : Int)] w fun e w' => (∃ sq, e = .returned (.tuple #[sq, .bool true]) ∧ RodsR w' sq (sq2 n (sqK n))) ∧ Below w.heap.size w w' := by
  obtain ⟨i0, hi, hz0, hz1, hz2⟩ := info_parts Try.infoTwo
  have HF := Lib.hid (fun (k : Nat) hk => two_facts (k := k) hn hk)
  have HK9 := Lib.hid (sqK_le hn)
  have HSL := Lib.hid (fun k => sq2_len n k)
  have HRC : Hid (∀ (m r : Nat) (w : World), isRt m r → m ≤ 10000 → Calls Try.prog 56 #[.int .i64 (m : Int)] w fun e w' => e = .returned (.int .i64 (r : Int)) ∧ Below w.heap.size w w') := Lib.hid (fun m r w h hm => (l12Root_any m r w h (by omega)).mono (by rintro e w' ⟨rfl, rfl⟩; exact ⟨rfl, Below.refl _ _⟩))
  have HIB : Hid (inB (n : Int) 0 10000 = true) := Lib.hid (inB_yes (by omega) (by omega))
  have HN := Lib.hid hn
  clear hn
  go_enter Try.func35, Try.ntmps35
  go_wp2_with fail
  have hs0 : (w.alloc (.cells #[] 47)).heap.size = w.heap.size + 1 := by simp
  have hb0 : Below w.heap.size w (w.alloc (.cells #[] 47)) := (Below.refl _ _).alloc (Nat.le_refl _) _
  have HO0 : Hid (OutA w.heap.size 0 0 (w.alloc (.cells #[] 47)) 47 2 w.heap.size 0 0 []) := Lib.hid (outA_made w _ 2 (Nat.le_refl _) (Nat.zero_le _))
  generalize w.alloc (.cells #[] 47) = w1 at hs0 hb0 HO0 ⊢
  have HB0 := Lib.hid hb0
  clear hs0 hb0
  refine (l1In_any (n : Int) 0 10000 w1).mono ?_
  rintro e w2 ⟨rfl, rfl⟩
  rw [HIB.out]
  go_wp2_with fail
  go_loopw [4, 5] (fun ov iv wr => ∃ (k g c : Nat) (ys : List (Int × Int)), k ≤ sqK n ∧ iv = .int .i64 (k : Int) ∧ ov = .slice (some ⟨g, 0, none⟩) ys.length c ∧ Hid (ys = sq2 n k) ∧ OutA w.heap.size 0 0 wr 47 2 g ys.length c (flatC pqC ys) ∧ Below w.heap.size w wr) (fun _ iv _ => 200 - (intOf iv).toNat)
  case atStart => exact ⟨0, w.heap.size, 0, [], Nat.zero_le _, rfl, rfl, Lib.hid rfl, HO0.out, HB0.out⟩
  case round =>
    obtain ⟨k, g, c, ys, hk, rfl, rfl, HY, hO, hb⟩ := hrel
    have HO := Lib.hid hO
    have HB := Lib.hid hb
    have hk71 : k ≤ 71 := Nat.le_trans hk HK9.out
    have hyl : ys.length ≤ 71 := by rw [HY.out]; exact Nat.le_trans (HSL.out k) hk71
    obtain ⟨D, Q, S, F, B, BB, Z, e1, e2, e3, e4, e5, e6, e7⟩ := HF.out k hk
    by_cases hlt : k < sqK n
    · have z1 := e3.2 hlt
      obtain ⟨f1, f2, f3, f4, f5⟩ := e7 hlt
      have hst : sq2 n (k + 1) = ys ++ if rt (n - k * k) * rt (n - k * k) = n - k * k then [((k : Int), (rt (n - k * k) : Int))] else [] := by rw [sq2, HY.out]
      have HC : Hid (∀ w, Calls Try.prog 56 #[.int .i64 F] w fun e w' => e = .returned (.int .i64 B) ∧ Below w.heap.size w w') := Lib.hid (fun w => by
        have h9 := HRC.out (n - k * k) _ w (isRt_rt _) (by have := HN.out; omega)
        rw [← f1, ← f2] at h9
        exact h9)
      rw [← f2] at hst
      clear f1 f2 f3 e3 e7 hO hb
      by_cases hq : rt (n - k * k) * rt (n - k * k) = n - k * k
      · rw [if_pos hq] at hst
        have z2 : (BB == F) = true := beq_iff_eq.2 (f4.2 hq)
        have HST := Lib.hid hst.symm
        clear f4 f5 hq hst
        go_wp2_with fail
        refine (HC.out wr).mono ?_
        rintro e w5 ⟨rfl, hb5⟩
        have HO5 := Lib.hid (HO.out.next hb5)
        have HB5 := Lib.hid (HB.out.trans (hb5.mono HB.out.size))
        clear hb5
        go_wp2_with (at_builtin; refine wpList_push (wr := w5) rfl _ _ 43 rfl w.heap.size 0 0 w 47 i0 (.agg #[.int .i64 0, .int .i64 0]) 2 16 Try.underlying43 hi hz0 hz1 hz2 rfl (by decide) g ys.length c (flatC pqC ys) [.int .i64 (k : Int), .int .i64 B] rfl rfl rfl ?c1 ?c2 (by decide) HO5.out HB5.out ?_)
        case c1 => first | rfl | exact ⟨rfl, rfl⟩ | exact ⟨rfl, rfl, rfl⟩ | (intro u hu; simp only [List.mem_cons, List.not_mem_nil, or_false] at hu; rcases hu with rfl | rfl <;> rfl)
        case c2 => omega
        intro g3 c3 w3 hO3 hB3 hK3
        have HO3 : Hid (OutA w.heap.size 0 0 w3 47 2 g3 (ys ++ [((k : Int), B)]).length c3 (flatC pqC (ys ++ [((k : Int), B)]))) := Lib.hid (by rw [List.length_append, flatC_app]; exact hO3)
        have hlen : ys.length + 1 = (ys ++ [((k : Int), B)]).length := by rw [List.length_append]; rfl
        rw [hlen]
        have HB3 := Lib.hid hB3
        clear hO3 hB3 hK3 hlen
        generalize ys ++ [((k : Int), B)] = ys2 at HO3 HST ⊢
        go_wp2_with fail
        go_roundw
        case rel => exact ⟨k + 1, g3, c3, ys2, by omega, by go_num, rfl, HST, HO3.out, HB3.out⟩
        case measure => simp [intOf]; omega
      · rw [if_neg hq, List.append_nil] at hst
        have z2 : (BB == F) = false := beq_eq_false_iff_ne.2 (fun e => hq (f4.1 e))
        have HST := Lib.hid hst.symm
        clear f4 f5 hq hst
        go_wp2_with fail
        refine (HC.out wr).mono ?_
        rintro e w5 ⟨rfl, hb5⟩
        have HO5 := Lib.hid (HO.out.next hb5)
        have HB5 := Lib.hid (HB.out.trans (hb5.mono HB.out.size))
        clear hb5
        go_wp2_with fail
        go_roundw
        case rel => exact ⟨k + 1, g, c, ys, by omega, by go_num, rfl, HST, HO5.out, HB5.out⟩
        case measure => simp [intOf]; omega
    · have z1 := mt e3.1 hlt
      obtain rfl : k = sqK n := by omega
      have HE : Hid (wr.ownsRow w.heap.size 47 2 (.slice (some ⟨g, 0, none⟩) ys.length c) ys.length (flat ys)) := Lib.hid (by rw [flat_pqC]; exact hO.own)
      clear hO hb e3 e7 e4 e5 e6
      go_wp2_with fail
      go_ret2
      exact ⟨⟨_, rfl, by rw [← HY.out]; exact RodsR.of_own HE.out⟩, HB.out⟩
set_option maxRecDepth 100000 in
set_option maxHeartbeats 800000 in
theorem speSumOfTwo_no (a : Int) (w : World) (h : ¬ (0 ≤ a ∧ a ≤ 10000)) :
    Calls Try.prog 35 #[.int .i64 a] w fun e w' => (∃ sq, e = .returned (.tuple #[sq, .bool false]) ∧ RodsR w' sq []) ∧ Below w.heap.size w w' := by
  have ha : inB a 0 10000 = false := inB_no h
  clear h
  go_enter Try.func35, Try.ntmps35
  go_wp2_with fail
  have hb0 : Below w.heap.size w (w.alloc (.cells #[] 47)) := (Below.refl _ _).alloc (Nat.le_refl _) _
  generalize w.alloc (.cells #[] 47) = w1 at hb0 ⊢
  have HB0 := Lib.hid hb0
  clear hb0
  refine (l1In_any a 0 10000 w1).mono ?_
  rintro e w2 ⟨rfl, rfl⟩
  rw [ha]
  go_wp2_with fail
  go_ret2
  exact ⟨⟨_, rfl, ⟨_, 0, rfl, ⟨Nat.zero_le _, Nat.le_refl _⟩, fun h => absurd rfl h⟩⟩, HB0.out⟩
end Go.Proofs.Ytlfplnbmgmookaa
