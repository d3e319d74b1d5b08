/- The model's steps, divisors, decimals. -/
import Derived.Test.YthmbehknacjodaaNd1
namespace Go.Proofs.Ythmbehknacjodaa
set_option linter.unusedVariables false
open Go.RowKit

/-- What the program reckons in a step. -/
theorem step_facts {r x d : Int} (hr : 0 ≤ r ∧ r < d) (hx : 0 ≤ x ∧ x ≤ 9) (hd : 1 ≤ d ∧ d ≤ 9999) : ∃ N q v : Int, 10 * r + x = N ∧ (0 ≤ N ∧ N ≤ 99999) ∧ IntKind.i64.wrap (10 * r) = 10 * r ∧ IntKind.i64.wrap (10 * r + x) = N ∧ IntKind.i64.wrap (N.tdiv d) = q ∧ N.tmod d = v ∧ IntKind.i64.wrap (N / d) = q ∧ N % d = v ∧ (0 ≤ q ∧ q ≤ 9) ∧ (0 ≤ v ∧ v < d) ∧ mkS d r x = ⟨N, q, v⟩ ∧ (10 * r + x) % d = v := by
  obtain ⟨f1, f2, f3, f4, f5, f6⟩ := div_facts (b := 10 * r + x) (d := d) (by omega) hd.1
  have hk := (mkS_ok hd.1 hr hx).2.1
  refine ⟨10 * r + x, (10 * r + x) / d, (10 * r + x) % d, rfl, by omega, by rw [IntKind.wrap_i64]; omega, by rw [IntKind.wrap_i64]; omega, f1, f2, ?_, rfl, hk, ⟨f5, f6⟩, rfl, rfl⟩
  rw [IntKind.wrap_i64]; have := hk; simp only [mkS] at this; omega
theorem take_zero_st (d : Int) (l : List Int) : stL d 0 (l.take 0) = [] := rfl
set_option maxRecDepth 100000 in
set_option maxHeartbeats 1600000 in
theorem l10Steps_any (m d : Nat) (w : World) (hm : m ≤ 99999999) (hd : 1 ≤ d ∧ d ≤ 9999) :
    Calls Try.prog 105 #[.int .i64 (m : Int), .int .i64 (d : Int)] w fun e w' => (∃ sq, e = .returned sq ∧ w'.ownsRow w.heap.size 57 3 sq (stL (d : Int) 0 (dgL m)).length (flatC trC (stL (d : Int) 0 (dgL m)))) ∧ Below w.heap.size w w' := by
  obtain ⟨i0, hi, hz0, hz1, hz2⟩ := info_parts Try.infoTri
  have HLN : Hid ((dgL m).length ≤ 8) := Lib.hid (dgL_len 8 m (by omega))
  have HDB : Hid (∀ i (h : i < (dgL m).length), 0 ≤ (dgL m)[i] ∧ (dgL m)[i] ≤ 9) := Lib.hid (fun i h => dgL_at m i h)
  have HG := Lib.hid (fun w => l9Digits_any m w (by omega))
  rw [stL_len]
  generalize dgL m = L at HLN HDB HG ⊢
  obtain ⟨D, hD⟩ : ∃ D : Int, (d : Int) = D := ⟨_, rfl⟩
  rw [hD]
  have hDb : 1 ≤ D ∧ D ≤ 9999 := by omega
  have z3 : (D == 0) = false := beq_eq_false_iff_ne.2 (by omega)
  have z4 : D ≠ 0 := by omega
  clear hm hd hD
  go_enter Try.func105, Try.ntmps105
  go_wp2_with fail
  refine (HG.out w).mono ?_
  rintro e w1 ⟨⟨sd, rfl, od⟩, hb1⟩
  obtain ⟨ad, cd, rfl⟩ := own_form od
  have hsz1 := hb1.size
  have HR := Lib.hid (fun (wr : World) (hk : KeepB w.heap.size w1.heap.size w1 wr) i (hi : i < L.length) => own_read inC_len od rfl hk i hi)
  have HZ : Hid (L.length ≤ 9223372036854775807) := Lib.hid (by have := HLN.out; omega)
  have HO0 : Hid (OutA w.heap.size w.heap.size w1.heap.size (w1.alloc (.cells #[] 57)) 57 3 w1.heap.size 0 0 []) := Lib.hid (outA_made w1 _ 3 hsz1 (Nat.le_refl _))
  have HB0 : Hid (Below w.heap.size w (w1.alloc (.cells #[] 57))) := Lib.hid (hb1.alloc hsz1 _)
  have HK0 : Hid (KeepB w.heap.size w1.heap.size w1 (w1.alloc (.cells #[] 57))) := Lib.hid (KeepB.of_below ((Below.refl _ _).alloc (Nat.le_refl _) _) (Nat.le_refl _))
  clear od hb1 hsz1
  go_wp2_with fail
  generalize w1.alloc (.cells #[] 57) = w2 at HO0 HB0 HK0 ⊢
  go_loopw [6, 7, 8] (fun ov rv iv wr => ∃ (k g c : Nat) (r : Int), k ≤ L.length ∧ iv = .int .i64 (k : Int) ∧ rv = .int .i64 r ∧ ov = .slice (some ⟨g, 0, none⟩) k c ∧ Hid (r = rsL D 0 (L.take k)) ∧ OutA w.heap.size w.heap.size w1.heap.size wr 57 3 g k c (flatC trC (stL D 0 (L.take k))) ∧ Below w.heap.size w wr ∧ KeepB w.heap.size w1.heap.size w1 wr) (fun _ _ iv _ => 20 - (intOf iv).toNat)
  case atStart => exact ⟨0, w1.heap.size, 0, 0, Nat.zero_le _, rfl, rfl, rfl, Lib.hid rfl, HO0.out, HB0.out, HK0.out⟩
  case round =>
    obtain ⟨k, g, c, r, hk, rfl, rfl, rfl, HRR, hO, hb, hK⟩ := hrel
    have HO := Lib.hid hO
    have HB := Lib.hid hb
    have HK := Lib.hid hK
    have hk8 : k ≤ 8 := by have := HLN.out; omega
    by_cases hlt : k < L.length
    · obtain ⟨b, rfl, hc⟩ := HR.out wr hK k hlt
      have c0 : wr.cell? ⟨b, k, none⟩ = some (.int .i64 L[k]) := by have := hc 0 (by omega); rw [Nat.mul_one] at this; exact this
      have hx := HDB.out k hlt
      have hr := rsL_bd hDb.1 (L.take k) 0 ⟨by omega, by omega⟩
      rw [← HRR.out] at hr
      have hst := stL_take D 0 L k hlt
      have hrt := rsL_take D 0 L k hlt
      rw [← HRR.out] at hst hrt
      obtain ⟨x, hxe⟩ : ∃ x, L[k] = x := ⟨_, rfl⟩
      rw [hxe] at c0 hx hst hrt
      obtain ⟨N, q, v, e1, e2, e3, e4, e5, e6, e7, e8, e9, e10, e11, e12⟩ := step_facts hr hx hDb
      rw [e11] at hst
      rw [e12] at hrt
      have HST := Lib.hid hst
      have HRT := Lib.hid hrt.symm
      have z1 : (0 : Int) ≤ (k : Int) := by omega
      have z2 : (k : Int) < (L.length : Int) := by omega
      clear hst hrt hc hO hb hK hxe e11 e12 e1
      go_wp2_with (at_builtin; refine wpList_push (wr := wr) rfl _ _ 30 rfl w.heap.size w.heap.size w1.heap.size w 57 i0 (.agg #[.int .i64 0, .int .i64 0, .int .i64 0]) 3 24 Try.underlying30 hi hz0 hz1 hz2 rfl (by decide) g k c (flatC trC (stL D 0 (L.take k))) [.int .i64 N, .int .i64 q, .int .i64 v] rfl rfl rfl ?c1 ?c2 (by decide) HO.out HB.out ?_)
      case c1 => first | rfl | exact ⟨rfl, rfl⟩ | exact ⟨rfl, rfl, rfl⟩ | (intro u hu; simp only [List.mem_cons, List.not_mem_nil, or_false] at hu; rcases hu with rfl | rfl | rfl <;> rfl)
      case c2 => omega
      intro g3 c3 w3 hO3 hB3 hK3
      have HO3 : Hid (OutA w.heap.size w.heap.size w1.heap.size w3 57 3 g3 (k + 1) c3 (flatC trC (stL D 0 (L.take (k + 1))))) := Lib.hid (by rw [HST.out, flatC_app]; exact hO3)
      have HB3 := Lib.hid hB3
      have HK3 := Lib.hid (HK.out.trans hK3)
      clear hO3 hB3 hK3 c0
      go_wp2_with fail
      go_roundw
      case rel => exact ⟨k + 1, g3, c3, v, by omega, by go_num, rfl, rfl, HRT, HO3.out, HB3.out, HK3.out⟩
      case measure => simp [intOf]; omega
    · obtain rfl : k = L.length := by omega
      have HE : Hid (wr.ownsRow w.heap.size 57 3 (.slice (some ⟨g, 0, none⟩) L.length c) L.length (flatC trC (stL D 0 L))) := Lib.hid (by have h1 := hO.own; rw [List.take_length] at h1; exact h1)
      clear hO hb hK
      go_wp2_with fail
      go_ret
      exact ⟨⟨_, rfl, HE.out⟩, HB.out⟩
set_option maxRecDepth 100000 in
set_option maxHeartbeats 800000 in
theorem speDivisionSteps_yes (m d : Nat) (w : World) (hm : m ≤ 99999999) (hd : 1 ≤ d ∧ d ≤ 9999) :
    Calls Try.prog 49 #[.int .i64 (m : Int), .int .i64 (d : Int)] w fun e w' => (∃ sq, e = .returned (.tuple #[sq, .bool true]) ∧ RowsR 3 trC w' sq (stL (d : Int) 0 (dgL m))) ∧ Below w.heap.size w w' := by
  have HOK : Hid (okD (m : Int) (d : Int)) := Lib.hid ⟨by omega, by omega⟩
  go_enter Try.func49, Try.ntmps49
  go_wp2_with fail
  refine (l10Asked_yes _ _ w HOK.out).mono ?_
  rintro e w2 ⟨rfl, rfl⟩
  go_wp2_with fail
  refine (l10Steps_any m d w hm hd).mono ?_
  rintro e w2 ⟨⟨sq, rfl, ho⟩, hb2⟩
  have HO := Lib.hid ho
  have HB := Lib.hid hb2
  clear ho hb2
  go_wp2_with fail
  go_ret2
  exact ⟨⟨_, rfl, RowsR.of_own trC_len HO.out⟩, HB.out⟩
set_option maxRecDepth 100000 in
set_option maxHeartbeats 800000 in
theorem speDivisionSteps_no (a b : Int) (w : World) (h : ¬ okD a b) :
    Calls Try.prog 49 #[.int .i64 a, .int .i64 b] w fun e w' => (∃ sq, e = .returned (.tuple #[sq, .bool false]) ∧ RowsR 3 trC w' sq []) ∧ Below w.heap.size w w' := by
  go_enter Try.func49, Try.ntmps49
  go_wp2_with fail
  refine (l10Asked_no _ _ w h).mono ?_
  rintro e w2 ⟨rfl, rfl⟩
  go_wp2_with fail
  go_ret2
  exact ⟨⟨_, rfl, ⟨_, 0, rfl, ⟨Nat.zero_le _, Nat.le_refl _⟩, fun h => absurd h (by simp)⟩⟩, (Below.refl _ _).alloc (Nat.le_refl _) _⟩

/-- The divisors up to k. -/
def dvL (a : Int) : Nat → List Int
  | 0 => []
  | k + 1 => dvL a k ++ if a % ((k : Int) + 1) = 0 then [(k : Int) + 1] else []
theorem dvL_len (a : Int) : ∀ k, (dvL a k).length ≤ k
  | 0 => Nat.le_refl _
  | k + 1 => by rw [dvL, List.length_append]; have := dvL_len a k; split <;> simp <;> omega
theorem dvL_mem (a : Int) : ∀ k, ∀ x ∈ dvL a k, (1 ≤ x ∧ x ≤ k) ∧ a % x = 0
  | 0, x, h => by cases h
  | k + 1, x, h => by
    rw [dvL] at h
    rcases List.mem_append.1 h with h | h
    · have := dvL_mem a k x h; exact ⟨by omega, this.2⟩
    · split at h
      · rename_i he
        obtain rfl := List.mem_singleton.1 h
        exact ⟨by omega, he⟩
      · cases h
def okP12 (a b p : Int) : Prop := okD a b ∧ (0 ≤ p ∧ p ≤ 12)
end Go.Proofs.Ythmbehknacjodaa
