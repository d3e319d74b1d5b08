/- Parts laid as one: IHas, IFrame. -/
import Derived.Test.YthmbehknacjodaaKb
import Derived.Test.YthmbehknacjodaaGood
/-! IHas -/
namespace Go.Proofs.Ythmbehknacjodaa
set_option linter.unusedVariables false
open Go.RowKit

theorem ix0 (x y : Value) (w : World) : (Instr.index 77 (.agg #[x, y]) (.int .i64 0)).run Try.prog w = .ok x w := by kernel_rfl
theorem ix1 (x y : Value) (w : World) : (Instr.index 77 (.agg #[x, y]) (.int .i64 1)).run Try.prog w = .ok y w := by kernel_rfl
theorem bl_box2 (w : World) (o o' : Obj) : Below w.heap.size w ((w.alloc o).alloc o') := ((Below.refl _ _).alloc (Nat.le_refl _) _).alloc (by simp) _
set_option maxRecDepth 100000 in
set_option maxHeartbeats 1600000 in
theorem hasAtMost_yes (x y m n : Int) (w : World) (h : (0 ≤ x ∧ x ≤ m) ∧ (0 ≤ y ∧ y ≤ n)) :
    Calls Try.prog 128 #[.agg #[.int .i64 x, .int .i64 y], .agg #[.int .i64 m, .int .i64 n]] w fun e w' => e = .returned (.bool true) ∧ Below w.heap.size w w' := by
  obtain ⟨⟨h1, h2⟩, h3, h4⟩ := h
  have i0 := ix0 (.int .i64 x) (.int .i64 y)
  have i1 := ix1 (.int .i64 x) (.int .i64 y)
  go_enter Try.func128, Try.ntmps128
  go_wp2_with fail
  refine wp_loop_rounds 3 ?_
  rw [rounds_succ]
  go_wp2_with fail
  rw [rounds_succ]
  go_wp2_with fail
  rw [rounds_succ]
  go_wp2_with fail
  go_ret
  exact ⟨rfl, bl_box2 _ _ _⟩
set_option maxRecDepth 100000 in
set_option maxHeartbeats 1600000 in
theorem hasAtMost_no (x y m n : Int) (w : World) (h : ¬ ((0 ≤ x ∧ x ≤ m) ∧ (0 ≤ y ∧ y ≤ n))) :
    Calls Try.prog 128 #[.agg #[.int .i64 x, .int .i64 y], .agg #[.int .i64 m, .int .i64 n]] w fun e w' => e = .returned (.bool false) ∧ Below w.heap.size w w' := by
  by_cases h1 : x < 0
  · clear h
    have i0 := ix0 (.int .i64 x) (.int .i64 y)
    have i1 := ix1 (.int .i64 x) (.int .i64 y)
    go_enter Try.func128, Try.ntmps128
    go_wp2_with fail
    refine wp_loop_rounds 3 ?_
    rw [rounds_succ]
    go_wp2_with fail
    go_ret
    exact ⟨rfl, bl_box2 _ _ _⟩
  by_cases h2 : m < x
  · clear h
    have i0 := ix0 (.int .i64 x) (.int .i64 y)
    have i1 := ix1 (.int .i64 x) (.int .i64 y)
    go_enter Try.func128, Try.ntmps128
    go_wp2_with fail
    refine wp_loop_rounds 3 ?_
    rw [rounds_succ]
    go_wp2_with fail
    go_ret
    exact ⟨rfl, bl_box2 _ _ _⟩
  by_cases h3 : y < 0
  · clear h
    have i0 := ix0 (.int .i64 x) (.int .i64 y)
    have i1 := ix1 (.int .i64 x) (.int .i64 y)
    go_enter Try.func128, Try.ntmps128
    go_wp2_with fail
    refine wp_loop_rounds 3 ?_
    rw [rounds_succ]
    go_wp2_with fail
    rw [rounds_succ]
    go_wp2_with fail
    go_ret
    exact ⟨rfl, bl_box2 _ _ _⟩
  have h4 : n < y := by
    rcases Int.lt_or_le n y with h' | h'
    · exact h'
    · exact absurd ⟨⟨by omega, by omega⟩, by omega, h'⟩ h
  clear h
  have i0 := ix0 (.int .i64 x) (.int .i64 y)
  have i1 := ix1 (.int .i64 x) (.int .i64 y)
  go_enter Try.func128, Try.ntmps128
  go_wp2_with fail
  refine wp_loop_rounds 3 ?_
  rw [rounds_succ]
  go_wp2_with fail
  rw [rounds_succ]
  go_wp2_with fail
  go_ret
  exact ⟨rfl, bl_box2 _ _ _⟩

set_option maxRecDepth 100000 in
set_option maxHeartbeats 1600000 in
theorem valueOf_any (x y : Int) (w : World) (h : (0 ≤ x ∧ x ≤ 1000) ∧ (0 ≤ y ∧ y ≤ 1000)) :
    Calls Try.prog 119 #[.agg #[.int .i64 x, .int .i64 y]] w fun e w' => e = .returned (.int .i64 (5 * x + y)) ∧ Below w.heap.size w w' := by
  obtain ⟨⟨h1, h2⟩, h3, h4⟩ := h
  go_enter Try.func119, Try.ntmps119
  go_wp2_with fail
  go_ret
  exact ⟨rfl, (Below.refl _ _).alloc (Nat.le_refl _) _⟩
set_option maxRecDepth 100000 in
set_option maxHeartbeats 1600000 in
theorem standardRod_any (d : Int) (w : World) (h : 0 ≤ d ∧ d ≤ 1000) :
    Calls Try.prog 117 #[.int .i64 d] w fun e w' => e = .returned (.agg #[.int .i64 (d / 5), .int .i64 (d % 5)]) ∧ Below w.heap.size w w' := by
  obtain ⟨h1, h2⟩ := h
  go_enter Try.func117, Try.ntmps117
  go_wp2_with fail
  exact bodyPost_ret (v := .agg #[.int .i64 (d / 5), .int .i64 (d % 5)]) (by simp [results, Try.results117, go_sem]) rfl ⟨rfl, (Below.refl _ _).alloc (Nat.le_refl _) _⟩
end Go.Proofs.Ythmbehknacjodaa

/-! IFrame -/
namespace Go.Proofs.Ythmbehknacjodaa
set_option linter.unusedVariables false
open Go.RowKit

set_option maxRecDepth 100000 in
set_option maxHeartbeats 1600000 in
theorem implIsFrame_scan (up lo : Int) (sv : Value) (rs : List (Int × Int)) (w : World) (h : RodsR w sv rs) (hd : (1 ≤ up ∧ up ≤ 2) ∧ (4 ≤ lo ∧ lo ≤ 5) ∧ (1 ≤ rs.length ∧ rs.length ≤ 8))
    (p : Nat) (hp : p ≤ rs.length) (hpre : ∀ i (h : i < rs.length), i < p → rodOk up lo rs[i]) (hx : ∀ h : p < rs.length, ¬ rodOk up lo rs[p]) :
    Calls Try.prog 91 #[.agg #[.int .i64 up, .int .i64 lo, sv]] w fun e w' => e = .returned (.bool (decide (p = rs.length))) ∧ Below w.heap.size w w' := by
  obtain ⟨a, cp, rfl, ⟨m1, _⟩, r1⟩ := h
  obtain ⟨⟨g2, g3⟩, ⟨g4, g5⟩, g6, g7⟩ := hd
  have R1 := Lib.hid r1
  have G1 := Lib.hid hpre
  have X1 := Lib.hid hx
  clear r1 hpre hx m1
  go_enter Try.func91, Try.ntmps91
  go_wp2_with fail
  have K1 : Hid (((w.alloc (.cells #[.int .i64 up, .int .i64 lo, .slice a rs.length cp] 42)).alloc (.cells #[.int .i64 up, .int .i64 lo] 77)).heap[w.heap.size]? = some (.cells #[.int .i64 up, .int .i64 lo, .slice a rs.length cp] 42 (0, 0))) := Lib.hid (by rw [alloc_old (by simp)]; exact alloc_at rfl)
  have K2 : Hid (((w.alloc (.cells #[.int .i64 up, .int .i64 lo, .slice a rs.length cp] 42)).alloc (.cells #[.int .i64 up, .int .i64 lo] 77)).heap[w.heap.size + 1]? = some (.cells #[.int .i64 up, .int .i64 lo] 77 (0, 0))) := Lib.hid (alloc_at (by simp))
  have B1 := Lib.hid (bl_box2 w (.cells #[.int .i64 up, .int .i64 lo, .slice a rs.length cp] 42) (.cells #[.int .i64 up, .int .i64 lo] 77))
  generalize (w.alloc (.cells #[.int .i64 up, .int .i64 lo, .slice a rs.length cp] 42)).alloc (.cells #[.int .i64 up, .int .i64 lo] 77) = w0 at K1 K2 B1 ⊢
  go_loopw [42] (fun i wr => ∃ k : Nat, k ≤ p ∧ i = .int .i64 k ∧ wr.heap[w.heap.size + 1]? = some (.cells #[.int .i64 up, .int .i64 lo] 77 (0, 0)) ∧ Below w.heap.size w wr) (fun i _ => rs.length - (intOf i).toNat)
  case atStart => exact ⟨0, Nat.zero_le _, rfl, K2.out, B1.out⟩
  case round =>
    obtain ⟨k, hk, rfl, hh, hb⟩ := hrel
    obtain ⟨c0, c1, _, _⟩ := cell2 hh
    have lk := lt_of_block hh
    have HH := Lib.hid hh
    have HB := Lib.hid hb
    by_cases hlt : k < rs.length
    · obtain ⟨b1, o1, rfl, l1, k1⟩ := R1.out (by intro e; subst e; simp at hlt)
      have p1 := (hb.cell (p := ⟨b1, o1 + k * 2, none⟩) l1).trans (k1 k hlt).1
      have p2 := (hb.cell (p := ⟨b1, o1 + k * 2 + 1, none⟩) l1).trans (k1 k hlt).2
      have z1 : (0 : Int) ≤ (k : Int) := by omega
      have z2 : (k : Int) < (rs.length : Int) := by omega
      clear k1 hh hb
      by_cases hkp : k < p
      · go_wp2_with fail
        have HB2 := Lib.hid (HB.out.alloc HB.out.size (.cells #[.int .i64 rs[k].1, .int .i64 rs[k].2] 77))
        have HH2 : Hid ((wr.alloc (.cells #[.int .i64 rs[k].1, .int .i64 rs[k].2] 77)).heap[w.heap.size + 1]? = some (.cells #[.int .i64 up, .int .i64 lo] 77 (0, 0))) := Lib.hid (by rw [alloc_old (lt_of_block HH.out)]; exact HH.out)
        generalize wr.alloc (.cells #[.int .i64 rs[k].1, .int .i64 rs[k].2] 77) = w1 at HB2 HH2 ⊢
        refine (hasAtMost_yes _ _ _ _ _ (G1.out k hlt hkp)).mono ?_
        rintro e w2 ⟨rfl, hb2⟩
        have HB3 := Lib.hid (HB2.out.trans (hb2.mono HB2.out.size))
        have HH3 := Lib.hid ((hb2.block _ (lt_of_block HH2.out)).trans HH2.out)
        clear hb2
        go_wp2_with fail
        go_roundw
        case rel => exact ⟨k + 1, by omega, by go_num, HH3.out, HB3.out⟩
        case measure => simp [intOf]; omega
      · have hke : k = p := by omega
        subst hke
        go_wp2_with fail
        have HB2 := Lib.hid (HB.out.alloc HB.out.size (.cells #[.int .i64 rs[k].1, .int .i64 rs[k].2] 77))
        generalize wr.alloc (.cells #[.int .i64 rs[k].1, .int .i64 rs[k].2] 77) = w1 at HB2 ⊢
        refine (hasAtMost_no _ _ _ _ _ (X1.out hlt)).mono ?_
        rintro e w2 ⟨rfl, hb2⟩
        have HB3 := Lib.hid (HB2.out.trans (hb2.mono HB2.out.size))
        clear hb2
        go_wp2_with fail
        go_ret
        exact ⟨ret_bool (by simp; omega), HB3.out⟩
    · have hke : p = rs.length := by omega
      subst hke
      clear hh hb
      go_wp2_with fail
      go_ret
      exact ⟨ret_bool (by simp), HB.out⟩

set_option maxRecDepth 100000 in
set_option maxHeartbeats 1600000 in
theorem implIsFrame_out (up lo : Int) (sv : Value) (rs : List (Int × Int)) (w : World) (h : RodsR w sv rs) (hd : ¬ ((1 ≤ up ∧ up ≤ 2) ∧ (4 ≤ lo ∧ lo ≤ 5) ∧ (1 ≤ rs.length ∧ rs.length ≤ 8))) :
    Calls Try.prog 91 #[.agg #[.int .i64 up, .int .i64 lo, sv]] w fun e w' => e = .returned (.bool false) ∧ Below w.heap.size w w' := by
  obtain ⟨a, cp, rfl, ⟨m1, _⟩, r1⟩ := h
  have hB := (Below.refl w.heap.size w).alloc (Nat.le_refl _) (.cells #[.int .i64 up, .int .i64 lo, .slice a rs.length cp] 42)
  clear r1
  unfold maxLen at m1
  by_cases h1 : up < 1
  · clear hd
    go_enter Try.func91, Try.ntmps91
    go_wp2_with fail
    go_ret
    exact ⟨rfl, hB⟩
  by_cases h2 : 2 < up
  · clear hd
    go_enter Try.func91, Try.ntmps91
    go_wp2_with fail
    go_ret
    exact ⟨rfl, hB⟩
  by_cases h3 : lo < 4
  · clear hd
    go_enter Try.func91, Try.ntmps91
    go_wp2_with fail
    go_ret
    exact ⟨rfl, hB⟩
  by_cases h4 : 5 < lo
  · clear hd
    go_enter Try.func91, Try.ntmps91
    go_wp2_with fail
    go_ret
    exact ⟨rfl, hB⟩
  by_cases h5 : rs.length < 1
  · clear hd
    go_enter Try.func91, Try.ntmps91
    go_wp2_with fail
    go_ret
    exact ⟨rfl, hB⟩
  have h6 : 8 < rs.length := by
    rcases Nat.lt_or_ge 8 rs.length with h' | h'
    · exact h'
    · exact absurd ⟨⟨by omega, by omega⟩, ⟨by omega, by omega⟩, by omega, h'⟩ hd
  clear hd
  go_enter Try.func91, Try.ntmps91
  go_wp2_with fail
  go_ret
  exact ⟨rfl, hB⟩

theorem implIsFrame_yes (up lo : Int) (sv : Value) (rs : List (Int × Int)) (w : World) (h : RodsR w sv rs) (hg : goodF up lo rs) :
    Calls Try.prog 91 #[.agg #[.int .i64 up, .int .i64 lo, sv]] w fun e w' => e = .returned (.bool true) ∧ Below w.heap.size w w' := by
  have := implIsFrame_scan up lo sv rs w h hg.2 rs.length (Nat.le_refl _) (fun i h _ => hg.1 i h) (fun h => absurd h (Nat.lt_irrefl _))
  simpa using this
theorem implIsFrame_no (up lo : Int) (sv : Value) (rs : List (Int × Int)) (w : World) (h : RodsR w sv rs) (hg : ¬ goodF up lo rs) :
    Calls Try.prog 91 #[.agg #[.int .i64 up, .int .i64 lo, sv]] w fun e w' => e = .returned (.bool false) ∧ Below w.heap.size w w' := by
  by_cases hd : (1 ≤ up ∧ up ≤ 2) ∧ (4 ≤ lo ∧ lo ≤ 5) ∧ (1 ≤ rs.length ∧ rs.length ≤ 8)
  · obtain ⟨p, hp, hpre, hx⟩ := first_bad rs.length (fun i h => rodOk up lo rs[i])
    have hne : p ≠ rs.length := fun e => hg ⟨fun i h => hpre i h (by omega), hd⟩
    have := implIsFrame_scan up lo sv rs w h hd p hp hpre hx
    simpa [hne] using this
  · exact implIsFrame_out up lo sv rs w h hd
end Go.Proofs.Ythmbehknacjodaa
