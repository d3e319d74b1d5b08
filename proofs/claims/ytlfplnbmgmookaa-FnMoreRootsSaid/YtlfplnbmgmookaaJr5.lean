/- The program's sums of two squares. -/
import Derived.Test.YtlfplnbmgmookaaJr3
import Derived.Test.YtlfplnbmgmookaaRm3
namespace Go.Proofs.Ytlfplnbmgmookaa
set_option linter.unusedVariables false
open Go.RowKit

set_option maxRecDepth 100000 in
set_option maxHeartbeats 3200000 in
theorem impSumOfTwo_yes (n : Nat) (w : World) (hn : n ≤ 10000) :
    Calls Try.prog 34 #[.int .i64 (n : Int)] w fun e w' => (∃ sq, e = .returned (.tuple #[sq, .bool true]) ∧ w'.ownsRow w.heap.size 47 2 sq (sq2 n (sqK n)).length (flat (sq2 n (sqK n)))) ∧ Below w.heap.size w w' := by
  obtain ⟨i0, hi, hz0, hz1, hz2⟩ := info_parts Try.infoTwo
  have HF := Lib.hid (fun (k : Nat) hk => two_facts (k := k) hn hk)
  have HK9 := Lib.hid (sqK_le hn)
  have HSL := Lib.hid (fun k => sq2_len n k)
  have HRC : Hid (∀ (m r : Nat) (w : World), isRt m r → m ≤ 10000 → Calls Try.prog 54 #[.int .i64 (m : Int)] w fun e w' => e = .returned (.tuple #[.int .i64 (r : Int), .int .i64 ((m : Int) - (r : Int) * (r : Int))]) ∧ Below w.heap.size w w') := Lib.hid (fun m r w h hm => rootOf_any m r w h (by omega))
  have HOK : Hid (okN (n : Int)) := Lib.hid ⟨by omega, by omega⟩
  have zz1 : ¬ (10000 : Int) < (n : Int) := by omega
  have zz2 : decide ((10000 : Int) < (n : Int)) = false := decide_eq_false zz1
  have HN := Lib.hid hn
  clear hn
  go_enter Try.func34, Try.ntmps34
  go_wp2_with fail
  refine (canT_yes _ w HOK.out).mono ?_
  rintro e w2 ⟨rfl, rfl⟩
  go_wp2_with fail
  have HO0 : Hid (OutA w.heap.size 0 0 (w.alloc (.cells #[] 47)) 47 2 w.heap.size 0 0 []) := Lib.hid (outA_made w _ 2 (Nat.le_refl _) (Nat.zero_le _))
  have HB0 : Hid (Below w.heap.size w (w.alloc (.cells #[] 47))) := Lib.hid ((Below.refl _ _).alloc (Nat.le_refl _) _)
  generalize w.alloc (.cells #[] 47) = w1 at HO0 HB0 ⊢
  go_loopw [4, 5] (fun ov iv wr => ∃ (k g c : Nat) (ys : List (Int × Int)), k ≤ sqK n ∧ iv = .int .i64 (k : Int) ∧ ov = .slice (some ⟨g, 0, none⟩) ys.length c ∧ Hid (ys = sq2 n k) ∧ OutA w.heap.size 0 0 wr 47 2 g ys.length c (flatC pqC ys) ∧ Below w.heap.size w wr) (fun _ iv _ => 200 - (intOf iv).toNat)
  case atStart => exact ⟨0, w.heap.size, 0, [], Nat.zero_le _, rfl, rfl, Lib.hid rfl, HO0.out, HB0.out⟩
  case round =>
    obtain ⟨k, g, c, ys, hk, rfl, rfl, HY, hO, hb⟩ := hrel
    have HO := Lib.hid hO
    have HB := Lib.hid hb
    have hk71 : k ≤ 71 := Nat.le_trans hk HK9.out
    have hyl : ys.length ≤ 71 := by rw [HY.out]; exact Nat.le_trans (HSL.out k) hk71
    obtain ⟨D, Q, S, F, B, BB, Z, e1, e2, e3, e4, e5, e6, e7⟩ := HF.out k hk
    by_cases hlt : k < sqK n
    · have z1 := e3.2 hlt
      obtain ⟨f1, f2, f3, f4, f5⟩ := e7 hlt
      have hst : sq2 n (k + 1) = ys ++ if rt (n - k * k) * rt (n - k * k) = n - k * k then [((k : Int), (rt (n - k * k) : Int))] else [] := by rw [sq2, HY.out]
      have HC : Hid (∀ w, Calls Try.prog 54 #[.int .i64 F] w fun e w' => e = .returned (.tuple #[.int .i64 B, .int .i64 Z]) ∧ Below w.heap.size w w') := Lib.hid (fun w => by
        have h9 := HRC.out (n - k * k) _ w (isRt_rt _) (by have := HN.out; omega)
        rw [← f1, ← f2] at h9
        rw [← f3] at h9; exact h9)
      rw [← f2] at hst
      clear f1 f2 f3 e3 e7 hO hb e6
      by_cases hq : rt (n - k * k) * rt (n - k * k) = n - k * k
      · rw [if_pos hq] at hst
        have z2 : (Z == 0) = true := beq_iff_eq.2 (f5.2 hq)
        have HST := Lib.hid hst.symm
        clear f4 f5 hq hst
        go_wp2_with fail
        refine (HC.out wr).mono ?_
        rintro e w5 ⟨rfl, hb5⟩
        have HO5 := Lib.hid (HO.out.next hb5)
        have HB5 := Lib.hid (HB.out.trans (hb5.mono HB.out.size))
        clear hb5
        go_wp2_with (at_builtin; refine wpList_push (wr := w5) rfl _ _ 43 rfl w.heap.size 0 0 w 47 i0 (.agg #[.int .i64 0, .int .i64 0]) 2 16 Try.underlying43 hi hz0 hz1 hz2 rfl (by decide) g ys.length c (flatC pqC ys) [.int .i64 (k : Int), .int .i64 B] rfl rfl rfl ?c1 ?c2 (by decide) HO5.out HB5.out ?_)
        case c1 => first | rfl | exact ⟨rfl, rfl⟩ | exact ⟨rfl, rfl, rfl⟩ | (intro u hu; simp only [List.mem_cons, List.not_mem_nil, or_false] at hu; rcases hu with rfl | rfl <;> rfl)
        case c2 => omega
        intro g3 c3 w3 hO3 hB3 hK3
        have HO3 : Hid (OutA w.heap.size 0 0 w3 47 2 g3 (ys ++ [((k : Int), B)]).length c3 (flatC pqC (ys ++ [((k : Int), B)]))) := Lib.hid (by rw [List.length_append, flatC_app]; exact hO3)
        have hlen : ys.length + 1 = (ys ++ [((k : Int), B)]).length := by rw [List.length_append]; rfl
        rw [hlen]
        have HB3 := Lib.hid hB3
        clear hO3 hB3 hK3 hlen
        generalize ys ++ [((k : Int), B)] = ys2 at HO3 HST ⊢
        go_wp2_with fail
        go_roundw
        case rel => exact ⟨k + 1, g3, c3, ys2, by omega, by go_num, rfl, HST, HO3.out, HB3.out⟩
        case measure => simp [intOf]; omega
      · rw [if_neg hq, List.append_nil] at hst
        have z2 : (Z == 0) = false := beq_eq_false_iff_ne.2 (fun e => hq (f5.1 e))
        have HST := Lib.hid hst.symm
        clear f4 f5 hq hst
        go_wp2_with fail
        refine (HC.out wr).mono ?_
        rintro e w5 ⟨rfl, hb5⟩
        have HO5 := Lib.hid (HO.out.next hb5)
        have HB5 := Lib.hid (HB.out.trans (hb5.mono HB.out.size))
        clear hb5
        go_wp2_with fail
        go_roundw
        case rel => exact ⟨k + 1, g, c, ys, by omega, by go_num, rfl, HST, HO5.out, HB5.out⟩
        case measure => simp [intOf]; omega
    · have z1 := mt e3.1 hlt
      obtain rfl : k = sqK n := by omega
      have HE : Hid (wr.ownsRow w.heap.size 47 2 (.slice (some ⟨g, 0, none⟩) ys.length c) ys.length (flat ys)) := Lib.hid (by rw [flat_pqC]; exact hO.own)
      clear hO hb e3 e7 e4 e5 e6
      go_wp2_with fail
      go_ret2
      exact ⟨⟨_, rfl, by rw [← HY.out]; exact HE.out⟩, HB.out⟩
set_option maxRecDepth 100000 in
set_option maxHeartbeats 800000 in
theorem impSumOfTwo_no (a : Int) (w : World) (h : ¬ (0 ≤ a ∧ a ≤ 10000)) :
    Calls Try.prog 34 #[.int .i64 a] w fun e w' => (∃ sq, e = .returned (.tuple #[sq, .bool false]) ∧ w'.ownsRow w.heap.size 47 2 sq ([] : List (Int × Int)).length (flat ([] : List (Int × Int)))) ∧ Below w.heap.size w w' := by
  by_cases hk : okN a
  · have HK := Lib.hid hk
    have z1 : (10000 : Int) < a := by
      rcases Int.lt_or_le 10000 a with h4 | h4
      · exact h4
      · exact absurd ⟨hk.1, h4⟩ h
    have z2 : decide ((10000 : Int) < a) = true := decide_eq_true z1
    clear h hk
    go_enter Try.func34, Try.ntmps34
    go_wp2_with fail
    refine (canT_yes _ w HK.out).mono ?_
    rintro e w2 ⟨rfl, rfl⟩
    go_wp2_with fail
    go_ret2
    exact ⟨⟨_, rfl, World.ownsRow_made (base := w.heap.size) (e := 47) (size := 2) w #[] 0 (Nat.le_refl _) (Nat.zero_le _) (by simp)⟩, (Below.refl _ _).alloc (Nat.le_refl _) _⟩
  · have HK := Lib.hid hk
    clear h hk
    go_enter Try.func34, Try.ntmps34
    go_wp2_with fail
    refine (canT_no _ w HK.out).mono ?_
    rintro e w2 ⟨rfl, rfl⟩
    go_wp2_with fail
    go_ret2
    exact ⟨⟨_, rfl, World.ownsRow_made (base := w.heap.size) (e := 47) (size := 2) w #[] 0 (Nat.le_refl _) (Nat.zero_le _) (by simp)⟩, (Below.refl _ _).alloc (Nat.le_refl _) _⟩
end Go.Proofs.Ytlfplnbmgmookaa
