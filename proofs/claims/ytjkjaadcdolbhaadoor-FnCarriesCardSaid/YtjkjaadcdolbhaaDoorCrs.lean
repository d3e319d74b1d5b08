/- What the law FnCarries asks, by the answers as letters. -/
import Derived.Test.YtjkjaadcdolbhaaDoorKm
import Derived.Test.YtjkjaadcdolbhaaDoorCry
import Derived.Test.YtjkjaadcdolbhaaDoorVin
import Derived.Test.YtjkjaadcdolbhaaDoorMcarr
import Derived.Test.YtjkjaadcdolbhaaDoorMkinds
import Derived.Test.YtjkjaadcdolbhaaDoorMlong
import Derived.Test.YtjkjaadcdolbhaaDoorMadout
import Derived.Test.YtjkjaadcdolbhaaDoorAdout
import Derived.Test.YtjkjaadcdolbhaaDoorOcr
import Derived.Test.YtjkjaadcdolbhaaDoorKind
namespace Go.Proofs.YtjkjaadcdolbhaaDoor
set_option linter.unusedVariables false
open Go.RowKit

theorem goK_bd : ∀ (ds : List Int) (i : Nat) (rs : List (Int × Int)) (ks : List Int) (b : Int), 0 ≤ b → (∀ x ∈ ks, 0 ≤ x ∧ x ≤ b) → ∀ x ∈ goK i ds rs ks, 0 ≤ x ∧ x ≤ b + ds.length
  | [], _, _, ks, b, _, h, x, hx => by
    have := h x hx
    simp; omega
  | d :: ds, i, rs, ks, b, hb, h, x, hx => by
    unfold goK at hx
    have h2 : ∀ y ∈ (if 0 < d then bump ks (kindA (vAt rs i) d) else ks), 0 ≤ y ∧ y ≤ b + 1 := by
      split
      · exact bump_bd ks _ b hb h
      · intro y hy; have := h y hy; omega
    have := goK_bd ds (i + 1) _ _ (b + 1) (by omega) h2 x hx
    rw [List.length_cons]
    omega
theorem carry_same (up lo : Int) (rs : List (Int × Int)) (z : Int) (hz : -9223372036854775808 ≤ z ∧ z ≤ 9223372036854775807) : ∃ (n : Int) (b : Bool) (qs : List Int),
    (∀ w sv, RodsR w sv rs → InB 7 #[.agg #[.int .i64 up, .int .i64 lo, sv], .int .i64 z] w n b) ∧ (∀ w sv, RodsR w sv rs → InB 6 #[.agg #[.int .i64 up, .int .i64 lo, sv], .int .i64 z] w n b) ∧
    (∀ w sv, RodsR w sv rs → IsB 9 #[.agg #[.int .i64 up, .int .i64 lo, sv], .int .i64 z] w qs b) ∧ (∀ w sv, RodsR w sv rs → IsB 8 #[.agg #[.int .i64 up, .int .i64 lo, sv], .int .i64 z] w qs b) ∧
    (b = true → ∃ N : Int, (∀ w sv, RodsR w sv rs → InB 11 #[.agg #[.int .i64 up, .int .i64 lo, sv]] w N true) ∧
      ((0 ≤ z ∧ z ≤ 100000000 ∧ 0 ≤ N ∧ N ≤ 200000000) ∧ (0 ≤ n ∧ n ≤ 64) ∧ dsF 20 N + dsF 20 z - 9 * n = dsF 20 (N + z) ∧ sumI qs = czF 20 z ∧ qs.length = 4 ∧ (∀ x ∈ qs, 0 ≤ x ∧ x ≤ 8))) := by
  by_cases hc : canF up lo rs z
  · have hnt := numF_top up lo rs hc.1
    have hp := pow_bd rs.length hc.1.2.2.2.2
    have hcs := goC_small rs.length z rs hc.1.2.2.2.2
    refine ⟨_, true, _, fun w sv h => speCarriesOf_yes up lo sv rs z w h hc, fun w sv h => impCarriesOf_yes up lo sv rs z w h hc, fun w sv h => speKindsUsed_yes up lo sv rs z w h hc, fun w sv h => (impKindsUsed_yes up lo sv rs z w h hc).mono ?_, fun _ => ⟨numF rs, fun w sv h => implNumberOn_yes up lo sv rs w h hc.1, ⟨hc.2.2.1, by have := hc.2.2.2.1; omega, hnt.1, hnt.2⟩, ⟨by omega, by omega⟩, go_sums hc, kinds_all hc, by rw [goK_len]; rfl, fun x hx => ?_⟩⟩
    · rintro e w' ⟨⟨g, j0, j1, j2, j3, rfl, hk, hg1, hg2, x0, x1, x2, x3, x4, hh⟩, hb'⟩
      exact ⟨⟨_, rfl, hk ▸ (ocr_box hh hg1 hg2).reads⟩, hb'⟩
    · have := goK_bd (digs rs.length z) 0 rs [0, 0, 0, 0] 0 (Int.le_refl _) (fun y hy => by simp at hy; subst hy; omega) x hx
      rw [digs_len] at this
      have := hc.1.2.2.2
      omega
  · refine ⟨0, false, [], fun w sv h => speCarriesOf_no up lo sv rs z w h hc, fun w sv h => impCarriesOf_no up lo sv rs z w h hz hc, fun w sv h => speKindsUsed_no up lo sv rs z w h hc, fun w sv h => ofOwnI (impKindsUsed_no up lo sv rs z w h hz hc), fun h => by cases h⟩
theorem long_same (up lo : Int) (rs : List (Int × Int)) (q : Int) : ∃ (n : Int) (b : Bool),
    (∀ w sv, RodsR w sv rs → InB 16 #[.agg #[.int .i64 up, .int .i64 lo, sv], .int .i64 q] w n b) ∧ (∀ w sv, RodsR w sv rs → InB 15 #[.agg #[.int .i64 up, .int .i64 lo, sv], .int .i64 q] w n b) ∧
    (b = true → ∃ (qs : List (Int × Int)), (∀ w sv, RodsR w sv rs → FrB 17 #[.agg #[.int .i64 up, .int .i64 lo, sv], .int .i64 q, .int .i64 1] w up lo qs true) ∧
      (∀ (i : Nat), i < rs.length → ∀ w sv, RodsR w sv rs → InB 18 #[.agg #[.int .i64 up, .int .i64 lo, sv], .int .i64 i] w (vAt rs i) true) ∧ (∀ (i : Nat), i < rs.length → ∀ w sv, RodsR w sv qs → InB 18 #[.agg #[.int .i64 up, .int .i64 lo, sv], .int .i64 i] w (vAt qs i) true) ∧
      (dfC rs qs rs.length = n ∧ rs.length ≤ 8)) := by
  by_cases hc : canD up lo rs q 1
  · obtain ⟨qn, rfl⟩ : ∃ n : Nat, q = (n : Int) := ⟨q.toNat, by have := hc.2.2.1.1; omega⟩
    have hst := chR_std (qn + 1) 1 rs hc.2.1
    have hgd : goodF up lo (chR (qn + 1) 1 rs) := stdF_good hst hc.1.2.1 hc.1.2.2.1 (by rw [chR_len]; exact hc.1.2.2.2)
    have hT := hc.2.2.2.2
    rw [Int.toNat_natCast] at hT
    refine ⟨_, true, fun w sv h => speLongestCarry_yes up lo sv rs qn w h hc, fun w sv h => impLongestCarry_yes up lo sv rs qn w h hc, fun _ => ⟨chR (qn + 1) 1 rs, fun w sv h => ofOwn (impAddDigit_yes up lo sv rs qn 1 w h hc), fun i hi w sv h => ?_, fun i hi w sv h => ?_, chR_dfC qn 1 rs hc.2.1 (by have := hc.2.2.1.2; omega) (by omega) (by omega) hT, hc.1.2.2.2.2⟩⟩
    · rw [vAt_in hi]; exact implRodValue_in up lo sv rs w h i hi hc.1
    · have hi2 : i < (chR (qn + 1) 1 rs).length := by rw [chR_len]; exact hi
      rw [vAt_in hi2]; exact implRodValue_in up lo sv _ w h i hi2 hgd
  · exact ⟨0, false, fun w sv h => speLongestCarry_no up lo sv rs q w h hc, fun w sv h => impLongestCarry_no up lo sv rs q w h hc, fun h => by cases h⟩
theorem kind_same (v d : Int) : ∃ (s : ByteArray) (b : Bool), (∀ w, Calls Tryd.prog 21 #[.int .i64 v, .int .i64 d] w fun e w' => e = .returned (.tuple #[.string s, .bool b]) ∧ Below w.heap.size w w') ∧ (∀ w, TabN w → Calls Tryd.prog 20 #[.int .i64 v, .int .i64 d] w fun e w' => e = .returned (.tuple #[.string s, .bool b]) ∧ Below w.heap.size w w') := by
  by_cases h : okK v d
  · exact ⟨_, true, fun w => speKind_yes v d w h, fun w ht => impKind_yes v d w h ht⟩
  · exact ⟨⟨#[]⟩, false, fun w => speKind_no v d w h, fun w ht => impKind_no v d w h⟩
end Go.Proofs.YtjkjaadcdolbhaaDoor
