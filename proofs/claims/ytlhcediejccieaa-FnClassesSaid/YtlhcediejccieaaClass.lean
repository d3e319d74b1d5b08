/- The model's test of one class. -/
import Derived.Test.YtlhcediejccieaaWord
namespace Go.Proofs.Ytlhcediejccieaa
set_option linter.unusedVariables false
open Go.RowKit

set_option maxRecDepth 100000 in
set_option maxHeartbeats 400000 in
theorem l1Least_any (x y : Int) (w : World) :
    Calls Try.prog 68 #[.int .i64 x, .int .i64 y] w fun e w' => e = .returned (.int .i64 (if x < y then x else y)) ∧ w' = w := by
  by_cases h : x < y
  · rw [if_pos h]
    go_enter Try.func68, Try.ntmps68
    go_wp2_with fail
    go_ret
    exact ⟨rfl, rfl⟩
  · rw [if_neg h]
    go_enter Try.func68, Try.ntmps68
    go_wp2_with fail
    go_ret
    exact ⟨rfl, rfl⟩
set_option maxRecDepth 100000 in
set_option maxHeartbeats 400000 in
theorem l1Most_any (x y : Int) (w : World) :
    Calls Try.prog 67 #[.int .i64 x, .int .i64 y] w fun e w' => e = .returned (.int .i64 (if y < x then x else y)) ∧ w' = w := by
  by_cases h : y < x
  · rw [if_pos h]
    go_enter Try.func67, Try.ntmps67
    go_wp2_with fail
    go_ret
    exact ⟨rfl, rfl⟩
  · rw [if_neg h]
    go_enter Try.func67, Try.ntmps67
    go_wp2_with fail
    go_ret
    exact ⟨rfl, rfl⟩

/-- How many of a class, their least level (10 at most), their greatest one. -/
def stP (c : Int) (ps : List Pu) : Int × Int × Int := ps.foldl (fun t p => if p.cls = c then (t.1 + 1, (if t.2.1 < p.lvl then t.2.1 else p.lvl), (if p.lvl < t.2.2 then t.2.2 else p.lvl)) else t) (0, 10, 0)
theorem stP_snoc (c : Int) (ps : List Pu) (k : Nat) (h : k < ps.length) : stP c (ps.take (k + 1)) = (if ps[k].cls = c then ((stP c (ps.take k)).1 + 1, (if (stP c (ps.take k)).2.1 < ps[k].lvl then (stP c (ps.take k)).2.1 else ps[k].lvl), (if ps[k].lvl < (stP c (ps.take k)).2.2 then (stP c (ps.take k)).2.2 else ps[k].lvl)) else stP c (ps.take k)) := by
  unfold stP; rw [List.take_succ_eq_append_getElem h, List.foldl_append]; rfl
def okCl (c : Int) (ps : List Pu) : Prop := (stP c ps).1 ≤ 6 ∧ (stP c ps).2.2 - (stP c ps).2.1 ≤ 3
instance (c : Int) (ps : List Pu) : Decidable (okCl c ps) := by unfold okCl; exact inferInstance

set_option maxRecDepth 100000 in
set_option maxHeartbeats 3200000 in
theorem l3Class_any (v : Value) (ps : List Pu) (c : Int) (w : World) (h : RowsR 5 puC w v ps) (hl : ps.length ≤ 1048576) (hv : ∀ (i : Nat) (h : i < ps.length), 0 ≤ ps[i].lvl ∧ ps[i].lvl ≤ 10) :
    Calls Try.prog 61 #[v, .int .i64 c] w fun e w' => e = .returned (.bool (decide (okCl c ps))) ∧ Below w.heap.size w w' := by
  obtain ⟨a, cp, rfl⟩ := h.form
  have R1 := Lib.hid h.at
  have HV := Lib.hid hv
  clear h hv
  go_enter Try.func61, Try.ntmps61
  go_wp2_with fail
  go_loopw [5, 6, 7, 8] (fun n lo hi i wr => ∃ (k : Nat) (nn ll hh : Int), k ≤ ps.length ∧ i = .int .i64 k ∧ n = .int .i64 nn ∧ lo = .int .i64 ll ∧ hi = .int .i64 hh ∧ (0 ≤ nn ∧ nn ≤ k) ∧ (0 ≤ ll ∧ ll ≤ 10) ∧ (0 ≤ hh ∧ hh ≤ 10) ∧ Hid (stP c (ps.take k) = (nn, ll, hh)) ∧ Below w.heap.size w wr) (fun _ _ _ i _ => ps.length - (intOf i).toNat)
  case atStart => exact ⟨0, 0, 10, 0, Nat.zero_le _, rfl, rfl, rfl, rfl, by omega, by omega, by omega, Lib.hid rfl, Below.refl _ _⟩
  case round =>
    obtain ⟨k, nn, ll, hh, hk, rfl, rfl, rfl, rfl, ⟨n0, n1⟩, ⟨l0, l1⟩, ⟨h0, h1⟩, HT, hb⟩ := hrel
    have HB := Lib.hid hb
    by_cases hlt : k < ps.length
    · obtain ⟨bb, o1, rfl, lb, k1⟩ := R1.out _ hb k hlt
      have p3 : wr.cell? ⟨bb, o1 + k * 5 + 3, none⟩ = some (.int .i64 ps[k].cls) := k1 3 (by omega)
      have p4 : wr.cell? ⟨bb, o1 + k * 5 + 4, none⟩ = some (.int .i64 ps[k].lvl) := k1 4 (by omega)
      have z1 : (0 : Int) ≤ (k : Int) := by omega
      have z2 : (k : Int) < (ps.length : Int) := by omega
      obtain ⟨v0, v1⟩ := HV.out k hlt
      have HS := Lib.hid (stP_snoc c ps k hlt)
      clear k1 hb
      generalize ps[k].lvl = lv at p4 v0 v1 HS
      by_cases hc : ps[k].cls = c
      · have HC := Lib.hid hc
        rw [hc] at p3
        have hcc : (c == c) = true := by simp
        obtain ⟨m1, hm1⟩ : ∃ m : Int, (if ll < lv then ll else lv) = m := ⟨_, rfl⟩
        obtain ⟨m2, hm2⟩ : ∃ m : Int, (if lv < hh then hh else lv) = m := ⟨_, rfl⟩
        have HL : Hid (∀ w, Calls Try.prog 68 #[.int .i64 ll, .int .i64 lv] w fun e w' => e = .returned (.int .i64 m1) ∧ w' = w) := Lib.hid fun w => by have := l1Least_any ll lv w; rwa [hm1] at this
        have HM : Hid (∀ w, Calls Try.prog 67 #[.int .i64 hh, .int .i64 lv] w fun e w' => e = .returned (.int .i64 m2) ∧ w' = w) := Lib.hid fun w => by have := l1Most_any hh lv w; rwa [hm2] at this
        have b1 : 0 ≤ m1 ∧ m1 ≤ 10 := by rw [← hm1]; split <;> omega
        have b2 : 0 ≤ m2 ∧ m2 ≤ 10 := by rw [← hm2]; split <;> omega
        have HM1 := Lib.hid hm1
        have HM2 := Lib.hid hm2
        clear hc hm1 hm2
        go_wp2_with fail
        refine (HL.out _).mono ?_
        rintro e w' ⟨rfl, hw⟩
        subst w'
        go_wp2_with fail
        refine (HM.out _).mono ?_
        rintro e w' ⟨rfl, hw⟩
        subst w'
        go_wp2_with fail
        go_roundw
        case rel =>
          refine ⟨k + 1, nn + 1, m1, m2, by omega, by go_num, rfl, rfl, rfl, by omega, b1, b2, Lib.hid ?_, HB.out⟩
          rw [HS.out, if_pos HC.out, HT.out]
          show (nn + 1, (if ll < lv then ll else lv), (if lv < hh then hh else lv)) = (nn + 1, m1, m2)
          rw [HM1.out, HM2.out]
        case measure => simp [intOf]; omega
      · have HC := Lib.hid hc
        have hcc : (ps[k].cls == c) = false := by rw [beq_eq_false_iff_ne]; exact hc
        go_wp2_with fail
        go_roundw
        case rel =>
          refine ⟨k + 1, nn, ll, hh, by omega, by go_num, rfl, rfl, rfl, by omega, ⟨l0, l1⟩, ⟨h0, h1⟩, Lib.hid ?_, HB.out⟩
          rw [HS.out, if_neg HC.out, HT.out]
          try rfl
        case measure => simp [intOf]; omega
    · have HE : Hid (stP c ps = (nn, ll, hh)) := Lib.hid (by have := HT.out; rwa [List.take_of_length_le (by omega)] at this)
      have HI : Hid (decide (okCl c ps) = decide (nn ≤ 6 ∧ hh - ll ≤ 3)) := Lib.hid (decide_eq_decide.2 (by unfold okCl; rw [HE.out]))
      clear hb
      by_cases h6 : nn ≤ 6
      · go_wp2_with fail
        go_ret
        refine ⟨?_, HB.out⟩
        show Ending.returned (.bool (decide (hh - ll ≤ 3))) = _
        refine ret_bool ?_
        rw [HI.out]
        simp [h6]
      · go_wp2_with fail
        go_ret
        refine ⟨?_, HB.out⟩
        show Ending.returned (.bool false) = _
        refine ret_bool ?_
        rw [HI.out]
        simp; omega
end Go.Proofs.Ytlhcediejccieaa
