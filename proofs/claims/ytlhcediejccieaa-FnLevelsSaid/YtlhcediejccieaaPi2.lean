/- The program's test of one class of a list. -/
import Derived.Test.YtlhcediejccieaaPgood
import Derived.Test.YtlhcediejccieaaPi1
namespace Go.Proofs.Ytlhcediejccieaa
set_option linter.unusedVariables false
open Go.RowKit

set_option maxRecDepth 100000 in
set_option maxHeartbeats 3200000 in
theorem classOk_any (v : Value) (ps : List Pu) (c : Int) (w : World) (h : RowsR 5 puC w v ps) (hl : ps.length ≤ 1048576) (hv : ∀ (i : Nat) (h : i < ps.length), 0 ≤ ps[i].lvl ∧ ps[i].lvl ≤ 10) :
    Calls Try.prog 56 #[v, .int .i64 c] w fun e w' => e = .returned (.bool (decide (okCl c ps))) ∧ Below w.heap.size w w' := by
  obtain ⟨a, cp, rfl⟩ := h.form
  have R1 := Lib.hid h.at
  have HV := Lib.hid hv
  clear h hv
  go_enter Try.func56, Try.ntmps56
  go_wp2_with fail
  go_loopw [5, 6, 7, 12] (fun n lo hi i wr => ∃ (k : Nat) (nn ll hh : Int), k ≤ ps.length ∧ i = .int .i64 k ∧ n = .int .i64 nn ∧ lo = .int .i64 ll ∧ hi = .int .i64 hh ∧ (0 ≤ nn ∧ nn ≤ k) ∧ (0 ≤ ll ∧ ll ≤ 10) ∧ (0 ≤ hh ∧ hh ≤ 10) ∧ Hid (stP c (ps.take k) = (nn, ll, hh)) ∧ Below w.heap.size w wr) (fun _ _ _ i _ => ps.length - (intOf i).toNat)
  case atStart => exact ⟨0, 0, 10, 0, Nat.zero_le _, rfl, rfl, rfl, rfl, by omega, by omega, by omega, Lib.hid rfl, Below.refl _ _⟩
  case round =>
    obtain ⟨k, nn, ll, hh, hk, rfl, rfl, rfl, rfl, ⟨n0, n1⟩, ⟨l0, l1⟩, ⟨h0, h1⟩, HT, hb⟩ := hrel
    have HB := Lib.hid hb
    by_cases hlt : k < ps.length
    · obtain ⟨bb, o1, rfl, lb, k1⟩ := R1.out _ hb k hlt
      have p0 : wr.cell? ⟨bb, o1 + k * 5, none⟩ = some (.int .i64 ps[k].id) := k1 0 (by omega)
      have p1 : wr.cell? ⟨bb, o1 + k * 5 + 1, none⟩ = some (.string ps[k].name) := k1 1 (by omega)
      have p2 : wr.cell? ⟨bb, o1 + k * 5 + 2, none⟩ = some (.int .i64 ps[k].born) := k1 2 (by omega)
      have p3 : wr.cell? ⟨bb, o1 + k * 5 + 3, none⟩ = some (.int .i64 ps[k].cls) := k1 3 (by omega)
      have p4 : wr.cell? ⟨bb, o1 + k * 5 + 4, none⟩ = some (.int .i64 ps[k].lvl) := k1 4 (by omega)
      have z1 : (0 : Int) ≤ (k : Int) := by omega
      have z2 : (k : Int) < (ps.length : Int) := by omega
      obtain ⟨v0, v1⟩ := HV.out k hlt
      have HS := Lib.hid (stP_snoc c ps k hlt)
      have HB2 := Lib.hid (hb.alloc hb.size (.cells #[.int .i64 ps[k].id, .string ps[k].name, .int .i64 ps[k].born, .int .i64 ps[k].cls, .int .i64 ps[k].lvl] 38))
      clear k1 hb
      generalize ps[k].lvl = lv at p4 v0 v1 HS HB2
      by_cases hc : ps[k].cls = c
      · have HC := Lib.hid hc
        have hcc : (ps[k].cls != c) = false := by simp [hc]
        have m1 : (if lv < ll then lv else ll) = (if ll < lv then ll else lv) := by split <;> split <;> omega
        have m2 : (if hh < lv then lv else hh) = (if lv < hh then hh else lv) := by split <;> split <;> omega
        have HM1 := Lib.hid m1
        have HM2 := Lib.hid m2
        have b1 : 0 ≤ (if lv < ll then lv else ll) ∧ (if lv < ll then lv else ll) ≤ 10 := by split <;> omega
        have b2 : 0 ≤ (if hh < lv then lv else hh) ∧ (if hh < lv then lv else hh) ≤ 10 := by split <;> omega
        clear hc m1 m2
        go_wp2_with fail
        go_roundw
        case rel =>
          refine ⟨k + 1, nn + 1, (if lv < ll then lv else ll), (if hh < lv then lv else hh), by omega, by go_num, rfl, rfl, rfl, by omega, b1, b2, Lib.hid ?_, HB2.out⟩
          rw [HS.out, if_pos HC.out, HT.out]
          show (nn + 1, (if ll < lv then ll else lv), (if lv < hh then hh else lv)) = _
          rw [HM1.out, HM2.out]
        case measure => simp [intOf]; omega
      · have HC := Lib.hid hc
        have hcc : (ps[k].cls != c) = true := by simp [hc]
        go_wp2_with fail
        go_roundw
        case rel =>
          refine ⟨k + 1, nn, ll, hh, by omega, by go_num, rfl, rfl, rfl, by omega, ⟨l0, l1⟩, ⟨h0, h1⟩, Lib.hid ?_, HB2.out⟩
          rw [HS.out, if_neg HC.out, HT.out]
          try rfl
        case measure => simp [intOf]; omega
    · have HE : Hid (stP c ps = (nn, ll, hh)) := Lib.hid (by have := HT.out; rwa [List.take_of_length_le (by omega)] at this)
      have HI : Hid (decide (okCl c ps) = decide (nn ≤ 6 ∧ hh - ll ≤ 3)) := Lib.hid (decide_eq_decide.2 (by unfold okCl; rw [HE.out]))
      clear hb
      by_cases h6 : nn ≤ 6
      · go_wp2_with fail
        go_ret
        refine ⟨?_, HB.out⟩
        show Ending.returned (.bool (decide (hh - ll ≤ 3))) = _
        refine ret_bool ?_
        rw [HI.out]
        simp [h6]
      · go_wp2_with fail
        go_ret
        refine ⟨?_, HB.out⟩
        show Ending.returned (.bool false) = _
        refine ret_bool ?_
        rw [HI.out]
        simp; omega
end Go.Proofs.Ytlhcediejccieaa
