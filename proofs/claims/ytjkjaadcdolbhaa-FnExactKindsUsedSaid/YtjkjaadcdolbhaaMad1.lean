/- The model's helpers for adding: a number's digit, the moves of a turn, the kinds. -/
import Derived.Test.YtjkjaadcdolbhaaAdm
import Derived.Test.YtjkjaadcdolbhaaMundo
import Derived.Test.YtjkjaadcdolbhaaOwn
import Derived.Deep.AppendLies
namespace Go.Proofs.Ytjkjaadcdolbhaa
set_option linter.unusedVariables false
open Go.RowKit

set_option maxRecDepth 100000 in
set_option maxHeartbeats 1600000 in
theorem l6At_any (up lo : Int) (sv : Value) (rs : List (Int × Int)) (n : Int) (q : Nat) (w : World) (h : RodsR w sv rs) (hl : rs.length ≤ 8) (hq : q < rs.length) (h0 : 0 ≤ n) (h1 : n ≤ 1000000000) :
    Calls Try.prog 97 #[.agg #[.int .i64 up, .int .i64 lo, sv], .int .i64 n, .int .i64 q] w fun e w' => e = .returned (.int .i64 (n / 10 ^ (rs.length - 1 - q) % 10)) ∧ Below w.heap.size w w' := by
  obtain ⟨a, c, rfl⟩ : ∃ a c, sv = .slice a rs.length c := by obtain ⟨a, c, e, _⟩ := h; exact ⟨a, c, e⟩
  obtain ⟨k, hk⟩ : ∃ k, k = rs.length - 1 - q := ⟨_, rfl⟩
  have hk8 : k ≤ 8 := by omega
  have hkk : (rs.length : Int) - 1 - (q : Int) = (k : Int) := by omega
  rw [← hk]
  have hb0 := (Below.refl w.heap.size w).alloc (Nat.le_refl _) (.cells #[.int .i64 up, .int .i64 lo, .slice a rs.length c] 26)
  have HB := Lib.hid hb0
  obtain ⟨p1, p2⟩ := pow_bd k hk8
  have HP := Lib.hid (l2Power_any k (w.alloc (.cells #[.int .i64 up, .int .i64 lo, .slice a rs.length c] 26)) hk8)
  generalize (10 : Int) ^ k = p at p1 p2 HP ⊢
  have hd0 : 0 ≤ n.tdiv p := Int.tdiv_nonneg h0 (by omega)
  have hd1 : n.tdiv p ≤ n := Int.tdiv_le_self p h0
  have hw : IntKind.i64.wrap (n.tdiv p) = n.tdiv p := by rw [IntKind.wrap_i64]; omega
  have hm : (n.tdiv p).tmod 10 = n / p % 10 := by rw [Int.tmod_eq_emod_of_nonneg hd0, Int.tdiv_eq_ediv_of_nonneg h0]
  have HM := Lib.hid hm
  have hpz : ¬ p = 0 := by omega
  clear h hk hb0 hm
  go_enter Try.func97, Try.ntmps97
  go_wp2_with fail
  first | rw [hkk] | skip
  refine (HP.out).mono ?_
  rintro e w' ⟨rfl, rfl⟩
  go_wp2_with fail
  go_ret
  exact ⟨ret_int (by first | exact HM.out | (simp only [hw]; exact HM.out) | (rw [Int.tdiv_eq_ediv_of_nonneg h0])), HB.out⟩

set_option maxRecDepth 100000 in
set_option maxHeartbeats 1600000 in
theorem l6Turn_any (r : Nat) (v x : Int) (w : World) (hv : 0 ≤ v ∧ v ≤ 9) (hx : 0 ≤ x ∧ x ≤ 9) :
    Calls Try.prog 110 #[.int .i64 r, .int .i64 v, .int .i64 x] w fun e w' => (∃ g c, e = .returned (.slice (some ⟨g, 0, none⟩) (turnM r v x).length c) ∧ w'.ownsRow w.heap.size 75 3 (.slice (some ⟨g, 0, none⟩) (turnM r v x).length c) (turnM r v x).length (flatC mvC (turnM r v x))) ∧ Below w.heap.size w w' := by
  obtain ⟨i0, hi, hz0, hz1, hz2⟩ := info_parts Try.infoBeadMove
  obtain ⟨hv0, hv1⟩ := hv
  obtain ⟨hx0, hx1⟩ := hx
  have HO := Lib.hid (World.ownsRow_made (base := w.heap.size) (e := 75) (size := 3) w #[] 0 (Nat.le_refl _) (Nat.zero_le _) (by simp))
  have HB := Lib.hid ((Below.refl w.heap.size w).alloc (Nat.le_refl _) (.cells #[] 75))
  have HT0 : Hid (turnM r v x = (if x / 5 - v / 5 = 0 then [] else [⟨r, 0, x / 5 - v / 5⟩]) ++ (if x % 5 - v % 5 = 0 then [] else [⟨r, 1, x % 5 - v % 5⟩])) := Lib.hid rfl
  by_cases ha : x / 5 - v / 5 = 0
  · by_cases hb : x % 5 - v % 5 = 0
    · have HT : Hid (turnM r v x = []) := Lib.hid (by rw [HT0.out, if_pos ha, if_pos hb]; rfl)
      clear HT0
      go_enter Try.func110, Try.ntmps110
      go_wp2_with fail
      go_ret
      exact ⟨⟨_, _, by rw [HT.out]; rfl, by rw [HT.out]; exact HO.out⟩, HB.out⟩
    · have HT : Hid (turnM r v x = [⟨r, 1, x % 5 - v % 5⟩]) := Lib.hid (by rw [HT0.out, if_pos ha, if_neg hb]; rfl)
      clear HT0
      go_enter Try.func110, Try.ntmps110
      go_wp2_with (at_builtin; refine wpList_append_lies _ rfl _ _ 32 rfl w.heap.size 75 i0 (.agg #[.int .i64 0, .int .i64 0, .int .i64 0]) 3 24 Try.underlying32 hi hz0 hz1 hz2 rfl (by decide) _ 0 _ rfl (HO.out.alloc _) ⟨w.heap.size + 1, 0, none⟩ 1 1 (mvC ⟨r, 1, x % 5 - v % 5⟩) rfl rfl ?c1 ?c2 (by decide) ?c3 ?c4 ?c5 _ rfl ?_)
      case c1 => exact news_at (vs := mvC ⟨r, 1, x % 5 - v % 5⟩) (alloc_at (by simp))
      case c2 => exact mvC_one _
      case c3 => unfold maxLen; omega
      case c4 => omega
      case c5 => simp; omega
      intro g c w3 ho hg _ _
      have HO3 := Lib.hid ho
      have HB3 := Lib.hid ((HB.out.alloc HB.out.size (.cells #[.int .i64 r, .int .i64 1, .int .i64 (x % 5 - v % 5)] 75)).grown hg (by have := HB.out.size; simp; omega) (fun q hq => by cases hq; exact Nat.le_refl _))
      clear ho hg
      go_wp2_with fail
      go_ret
      exact ⟨⟨g, c, by rw [HT.out]; rfl, by rw [HT.out]; exact HO3.out⟩, HB3.out⟩
  · by_cases hb : x % 5 - v % 5 = 0
    · have HT : Hid (turnM r v x = [⟨r, 0, x / 5 - v / 5⟩]) := Lib.hid (by rw [HT0.out, if_neg ha, if_pos hb]; rfl)
      clear HT0
      go_enter Try.func110, Try.ntmps110
      go_wp2_with (at_builtin; refine wpList_append_lies _ rfl _ _ 32 rfl w.heap.size 75 i0 (.agg #[.int .i64 0, .int .i64 0, .int .i64 0]) 3 24 Try.underlying32 hi hz0 hz1 hz2 rfl (by decide) _ 0 _ rfl (HO.out.alloc _) ⟨w.heap.size + 1, 0, none⟩ 1 1 (mvC ⟨r, 0, x / 5 - v / 5⟩) rfl rfl ?c1 ?c2 (by decide) ?c3 ?c4 ?c5 _ rfl ?_)
      case c1 => exact news_at (vs := mvC ⟨r, 0, x / 5 - v / 5⟩) (alloc_at (by simp))
      case c2 => exact mvC_one _
      case c3 => unfold maxLen; omega
      case c4 => omega
      case c5 => simp; omega
      intro g c w3 ho hg _ _
      have HO3 := Lib.hid ho
      have HB3 := Lib.hid ((HB.out.alloc HB.out.size (.cells #[.int .i64 r, .int .i64 0, .int .i64 (x / 5 - v / 5)] 75)).grown hg (by have := HB.out.size; simp; omega) (fun q hq => by cases hq; exact Nat.le_refl _))
      clear ho hg
      go_wp2_with fail
      go_ret
      exact ⟨⟨g, c, by rw [HT.out]; rfl, by rw [HT.out]; exact HO3.out⟩, HB3.out⟩
    · have HT : Hid (turnM r v x = [⟨r, 0, x / 5 - v / 5⟩, ⟨r, 1, x % 5 - v % 5⟩]) := Lib.hid (by rw [HT0.out, if_neg ha, if_neg hb]; rfl)
      clear HT0
      go_enter Try.func110, Try.ntmps110
      go_wp2_with (at_builtin; refine wpList_append_lies _ rfl _ _ 32 rfl w.heap.size 75 i0 (.agg #[.int .i64 0, .int .i64 0, .int .i64 0]) 3 24 Try.underlying32 hi hz0 hz1 hz2 rfl (by decide) _ 0 _ rfl (HO.out.alloc _) ⟨w.heap.size + 1, 0, none⟩ 1 1 (mvC ⟨r, 0, x / 5 - v / 5⟩) rfl rfl ?c1 ?c2 (by decide) ?c3 ?c4 ?c5 _ rfl ?_)
      case c1 => exact news_at (vs := mvC ⟨r, 0, x / 5 - v / 5⟩) (alloc_at (by simp))
      case c2 => exact mvC_one _
      case c3 => unfold maxLen; omega
      case c4 => omega
      case c5 => simp; omega
      intro g c w3 ho hg _ _
      have HO3 := Lib.hid ho
      have HB3 := Lib.hid ((HB.out.alloc HB.out.size (.cells #[.int .i64 r, .int .i64 0, .int .i64 (x / 5 - v / 5)] 75)).grown hg (by have := HB.out.size; simp; omega) (fun q hq => by cases hq; exact Nat.le_refl _))
      clear ho hg
      go_wp2_with (at_builtin; refine wpList_append_lies _ rfl _ _ 32 rfl w.heap.size 75 i0 (.agg #[.int .i64 0, .int .i64 0, .int .i64 0]) 3 24 Try.underlying32 hi hz0 hz1 hz2 rfl (by decide) _ 1 _ rfl (HO3.out.alloc _) ⟨w3.heap.size, 0, none⟩ 1 1 (mvC ⟨r, 1, x % 5 - v % 5⟩) rfl rfl ?c1 ?c2 (by decide) ?c3 ?c4 ?c5 _ rfl ?_)
      case c1 => exact news_at (vs := mvC ⟨r, 1, x % 5 - v % 5⟩) (alloc_at (by simp))
      case c2 => exact mvC_one _
      case c3 => unfold maxLen; omega
      case c4 => omega
      case c5 => have := HB3.out.size; simp; omega
      intro g2 c2 w4 ho hg _ _
      have HO4 := Lib.hid ho
      have HB4 := Lib.hid ((HB3.out.alloc HB3.out.size (.cells #[.int .i64 r, .int .i64 1, .int .i64 (x % 5 - v % 5)] 75)).grown hg (by have := HB3.out.size; simp; omega) (fun q hq => by cases hq; exact (HO3.out.lt g rfl).1))
      clear ho hg
      go_wp2_with fail
      go_ret
      exact ⟨⟨g2, c2, by rw [HT.out]; rfl, by rw [HT.out]; exact HO4.out⟩, HB4.out⟩
end Go.Proofs.Ytjkjaadcdolbhaa
