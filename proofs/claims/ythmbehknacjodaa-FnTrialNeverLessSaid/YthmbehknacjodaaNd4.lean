/- The model's TrialDigits, Corrections, CheckDivision. -/
import Derived.Test.YthmbehknacjodaaNd3
namespace Go.Proofs.Ythmbehknacjodaa
set_option linter.unusedVariables false
open Go.RowKit

set_option maxRecDepth 100000 in
set_option maxHeartbeats 800000 in
theorem speTrialDigits_yes (m d : Nat) (w : World) (hm : m ≤ 99999999) (hd : 1 ≤ d ∧ d ≤ 9999) :
    Calls Try.prog 53 #[.int .i64 (m : Int), .int .i64 (d : Int)] w fun e w' => (∃ sq, e = .returned (.tuple #[sq, .bool true]) ∧ RowsR 1 inC w' sq (tsL d (stL (d : Int) 0 (dgL m)))) ∧ Below w.heap.size w w' := by
  have HOK : Hid (okD (m : Int) (d : Int)) := Lib.hid ⟨by omega, by omega⟩
  go_enter Try.func53, Try.ntmps53
  go_wp2_with fail
  refine (l10Asked_yes _ _ w HOK.out).mono ?_
  rintro e w2 ⟨rfl, rfl⟩
  go_wp2_with fail
  refine (l10Trials_any m d w hm hd).mono ?_
  rintro e w2 ⟨⟨sq, rfl, ho⟩, hb2⟩
  have HO := Lib.hid ho
  have HB := Lib.hid hb2
  clear ho hb2
  go_wp2_with fail
  go_ret2
  exact ⟨⟨_, rfl, RowsR.of_own inC_len HO.out⟩, HB.out⟩
set_option maxRecDepth 100000 in
set_option maxHeartbeats 800000 in
theorem speTrialDigits_no (a b : Int) (w : World) (h : ¬ okD a b) :
    Calls Try.prog 53 #[.int .i64 a, .int .i64 b] w fun e w' => (∃ sq, e = .returned (.tuple #[sq, .bool false]) ∧ RowsR 1 inC w' sq []) ∧ Below w.heap.size w w' := by
  go_enter Try.func53, Try.ntmps53
  go_wp2_with fail
  refine (l10Asked_no _ _ w h).mono ?_
  rintro e w2 ⟨rfl, rfl⟩
  go_wp2_with fail
  go_ret2
  exact ⟨⟨_, rfl, ⟨_, 0, rfl, ⟨Nat.zero_le _, Nat.le_refl _⟩, fun h => absurd h (by simp)⟩⟩, (Below.refl _ _).alloc (Nat.le_refl _) _⟩
set_option maxRecDepth 100000 in
set_option maxHeartbeats 3200000 in
theorem speCorrections_yes (m d : Nat) (w : World) (hm : m ≤ 99999999) (hd : 1 ≤ d ∧ d ≤ 9999) :
    Calls Try.prog 62 #[.int .i64 (m : Int), .int .i64 (d : Int)] w fun e w' => e = .returned (.tuple #[.int .i64 (crL d (stL (d : Int) 0 (dgL m))), .bool true]) ∧ Below w.heap.size w w' := by
  have HOD : Hid (okD (m : Int) (d : Int)) := Lib.hid ⟨by omega, by omega⟩
  have HLN : Hid ((stL (d : Int) 0 (dgL m)).length ≤ 8) := Lib.hid (by rw [stL_len]; exact dgL_len 8 m (by omega))
  have hoka := stL_ok (d := (d : Int)) (by omega) (dgL m) 0 ⟨by omega, by omega⟩ (fun x hx => dgL_bd m x hx)
  have HG := Lib.hid (fun w => l10Steps_any m d w hm hd)
  have HT := Lib.hid (fun w => l10Trials_any m d w hm hd)
  have HCB := Lib.hid (fun k => crL_bd8 hd.1 HLN.out hoka k)
  have HOK : Hid (∀ i (h : i < (stL (d : Int) 0 (dgL m)).length), stOk (d : Int) (stL (d : Int) 0 (dgL m))[i]) := Lib.hid (fun i h => hoka _ (List.getElem_mem h))
  have HTL := Lib.hid (tsL_len d (stL (d : Int) 0 (dgL m)))
  have HTA := Lib.hid (fun k h => tsL_at d (stL (d : Int) 0 (dgL m)) k h)
  have HCT := Lib.hid (fun k h => crL_take d (stL (d : Int) 0 (dgL m)) k h)
  have HCE : Hid (crL d ((stL (d : Int) 0 (dgL m)).take (stL (d : Int) 0 (dgL m)).length) = crL d (stL (d : Int) 0 (dgL m))) := Lib.hid (by rw [List.take_length])
  have HC0 : Hid (crL d ((stL (d : Int) 0 (dgL m)).take 0) = 0) := Lib.hid rfl
  have HTB := Lib.hid (fun t => trI_bd d t)
  clear hoka
  rw [← HCE.out]
  generalize stL (d : Int) 0 (dgL m) = T at HLN HG HT HCB HOK HTL HTA HCT HC0 HCE ⊢
  clear hm hd HCE
  go_enter Try.func62, Try.ntmps62
  go_wp2_with fail
  refine (l10Asked_yes _ _ w HOD.out).mono ?_
  rintro e w2 ⟨rfl, rfl⟩
  go_wp2_with fail
  refine (HG.out w).mono ?_
  rintro e w1 ⟨⟨sd, rfl, od⟩, hb1⟩
  obtain ⟨ad, cd, rfl⟩ := own_form od
  have hsz1 := hb1.size
  have HR := Lib.hid (fun (wr : World) (hk : KeepB w.heap.size w1.heap.size w1 wr) i (hi : i < T.length) => own_read trC_len od rfl hk i hi)
  have HB1 := Lib.hid hb1
  have HSZ1 := Lib.hid hsz1
  clear od hb1 hsz1
  go_wp2_with fail
  refine (HT.out w1).mono ?_
  rintro e w2 ⟨⟨st, rfl, ot⟩, hb2⟩
  obtain ⟨at2, ct2, rfl⟩ := own_form ot
  have HR2 := Lib.hid (fun (wr : World) (hk : KeepB w1.heap.size w2.heap.size w2 wr) i (hi : i < (tsL d T).length) => own_read inC_len ot rfl hk i hi)
  have HB2 : Hid (Below w.heap.size w w2) := Lib.hid (HB1.out.trans (hb2.mono HSZ1.out))
  have HK1 : Hid (KeepB w.heap.size w1.heap.size w1 w2) := Lib.hid (KeepB.of_below hb2 (Nat.le_refl _))
  have HZ : Hid (T.length ≤ 9223372036854775807) := Lib.hid (by have := HLN.out; omega)
  clear ot hb2
  rw [HTL.out]
  go_wp2_with fail
  go_loopw [8, 9] (fun sv iv wr => ∃ (k : Nat) (s : Int), k ≤ T.length ∧ iv = .int .i64 (k : Int) ∧ sv = .int .i64 s ∧ Hid (s = crL d (T.take k)) ∧ Below w.heap.size w wr ∧ KeepB w.heap.size w1.heap.size w1 wr ∧ KeepB w1.heap.size w2.heap.size w2 wr) (fun _ iv _ => 20 - (intOf iv).toNat)
  case atStart => exact ⟨0, 0, Nat.zero_le _, rfl, rfl, Lib.hid HC0.out.symm, HB2.out, HK1.out, KeepB.refl _ _ _⟩
  case round =>
    obtain ⟨k, s, hk, rfl, rfl, HS, hb, hK1, hK2⟩ := hrel
    have HB := Lib.hid hb
    have HK1' := Lib.hid hK1
    have HK2' := Lib.hid hK2
    have hk8 : k ≤ 8 := by have := HLN.out; omega
    have hsb := HCB.out k
    rw [← HS.out] at hsb
    by_cases hlt : k < T.length
    · obtain ⟨b, rfl, hc⟩ := HR.out wr hK1 k hlt
      obtain ⟨b2, rfl, hc2⟩ := HR2.out wr hK2 k (by rw [HTL.out]; exact hlt)
      have c0 : wr.cell? ⟨b, k * 3 + 1, none⟩ = some (.int .i64 T[k].k) := hc 1 (by omega)
      have c1 : wr.cell? ⟨b2, k, none⟩ = some (.int .i64 (trI d T[k])) := by have := hc2 0 (by omega); rw [Nat.mul_one, HTA.out k hlt] at this; exact this
      have hok := (HOK.out k hlt).2.1
      have htb := HTB.out T[k]
      have hcn := HCB.out (k + 1)
      have hct := HCT.out k hlt
      rw [← HS.out] at hct
      obtain ⟨q, hq⟩ : ∃ q, T[k].k = q := ⟨_, rfl⟩
      obtain ⟨t, ht⟩ : ∃ t, trI d T[k] = t := ⟨_, rfl⟩
      rw [hq] at c0 hok hct
      rw [ht] at c1 htb hct
      have z1 : (0 : Int) ≤ (k : Int) := by omega
      have z2 : (k : Int) < (T.length : Int) := by omega
      have hw1 : IntKind.i64.wrap (s + t) = s + t := by rw [IntKind.wrap_i64]; omega
      have hw2 : IntKind.i64.wrap (s + t - q) = s + t - q := by rw [IntKind.wrap_i64]; omega
      have HCT2 : Hid (s + t - q = crL d (T.take (k + 1))) := Lib.hid (by rw [hct]; omega)
      clear hc hc2 hb hK1 hK2 hct hcn hq ht
      go_wp2_with fail
      go_quiet (fail)
      rename Nat => nq
      have HBn : Hid (Below w.heap.size w (wr.drewN nq)) := Lib.hid (bl_drewN HB.out nq)
      have HK1n : Hid (KeepB w.heap.size w1.heap.size w1 (wr.drewN nq)) := Lib.hid HK1'.out
      have HK2n : Hid (KeepB w1.heap.size w2.heap.size w2 (wr.drewN nq)) := Lib.hid HK2'.out
      clear c0 c1
      generalize wr.drewN nq = wj at HBn HK1n HK2n ⊢
      go_wp2_with fail
      go_roundw
      case rel => exact ⟨k + 1, s + t - q, by omega, by go_num, by first | rfl | rw [hw2] | (rw [hw1, hw2]), HCT2, HBn.out, HK1n.out, HK2n.out⟩
      case measure => simp [intOf]; omega
    · obtain rfl : k = T.length := by omega
      have HS2 := Lib.hid HS.out.symm
      clear hb hK1 hK2 HS
      go_wp2_with fail
      go_ret2
      exact ⟨by rw [HS2.out]; rfl, HB.out⟩
set_option maxRecDepth 100000 in
set_option maxHeartbeats 800000 in
theorem speCorrections_no (a b : Int) (w : World) (h : ¬ okD a b) :
    Calls Try.prog 62 #[.int .i64 a, .int .i64 b] w fun e w' => e = .returned (.tuple #[.int .i64 0, .bool false]) ∧ Below w.heap.size w w' := by
  go_enter Try.func62, Try.ntmps62
  go_wp2_with fail
  refine (l10Asked_no _ _ w h).mono ?_
  rintro e w2 ⟨rfl, rfl⟩
  go_wp2_with fail
  go_ret2
  exact ⟨rfl, Below.refl _ _⟩
/-- What CheckDivision asks. -/
def okC10 (a b q r : Int) : Prop := okD a b ∧ (0 ≤ q ∧ q ≤ 99999999) ∧ (0 ≤ r ∧ r ≤ 9999)
set_option maxRecDepth 100000 in
set_option maxHeartbeats 1600000 in
theorem speCheckDivision_yes (a b q r : Int) (w : World) (h : okC10 a b q r) (hq : q = a / b) (hr : r = a % b) :
    Calls Try.prog 60 #[.int .i64 a, .int .i64 b, .int .i64 q, .int .i64 r] w fun e w' => e = .returned (.tuple #[.bool true, .bool true]) ∧ Below w.heap.size w w' := by
  obtain ⟨f1, f2, f3, f4, f5, f6⟩ := div_facts (b := a) (d := b) ⟨h.1.1.1, by have := h.1.1.2; omega⟩ h.1.2.1
  have HK := Lib.hid h.1
  have g1 := inB_yes h.2.1.1 h.2.1.2
  have g2 := inB_yes h.2.2.1 h.2.2.2
  have z1 : (b == 0) = false := beq_eq_false_iff_ne.2 (by have := h.1.2.1; omega)
  have z2 : b ≠ 0 := by have := h.1.2.1; omega
  clear h
  obtain ⟨Q, hQ⟩ : ∃ q, a / b = q := ⟨_, rfl⟩
  obtain ⟨R, hR⟩ : ∃ r, a % b = r := ⟨_, rfl⟩
  rw [hQ] at f1 f3 f4 hq
  rw [hR] at f2 f5 f6 hr
  have y1 : (q == Q) = true := by simpa using hq
  have y2 : (r == R) = true := by simpa using hr
  clear hq hr hQ hR
  go_enter Try.func60, Try.ntmps60
  go_wp2_with fail
  refine (l10Asked_yes _ _ w HK.out).mono ?_
  rintro e w2 ⟨rfl, rfl⟩
  go_wp2_with fail
  refine (l1In_any q 0 99999999 w).mono ?_
  rintro e w2 ⟨rfl, rfl⟩
  rw [g1]
  go_wp2_with fail
  refine (l1In_any r 0 9999 w).mono ?_
  rintro e w2 ⟨rfl, rfl⟩
  rw [g2]
  go_wp2_with fail
  go_ret2
  exact ⟨rfl, Below.refl _ _⟩
set_option maxRecDepth 100000 in
set_option maxHeartbeats 1600000 in
theorem speCheckDivision_rest (a b q r : Int) (w : World) (h : okC10 a b q r) (hq : q = a / b) (hr : ¬ r = a % b) :
    Calls Try.prog 60 #[.int .i64 a, .int .i64 b, .int .i64 q, .int .i64 r] w fun e w' => e = .returned (.tuple #[.bool false, .bool true]) ∧ Below w.heap.size w w' := by
  obtain ⟨f1, f2, f3, f4, f5, f6⟩ := div_facts (b := a) (d := b) ⟨h.1.1.1, by have := h.1.1.2; omega⟩ h.1.2.1
  have HK := Lib.hid h.1
  have g1 := inB_yes h.2.1.1 h.2.1.2
  have g2 := inB_yes h.2.2.1 h.2.2.2
  have z1 : (b == 0) = false := beq_eq_false_iff_ne.2 (by have := h.1.2.1; omega)
  have z2 : b ≠ 0 := by have := h.1.2.1; omega
  clear h
  obtain ⟨Q, hQ⟩ : ∃ q, a / b = q := ⟨_, rfl⟩
  obtain ⟨R, hR⟩ : ∃ r, a % b = r := ⟨_, rfl⟩
  rw [hQ] at f1 f3 f4 hq
  rw [hR] at f2 f5 f6 hr
  have y1 : (q == Q) = true := by simpa using hq
  have y2 : (r == R) = false := by simpa using hr
  clear hq hr hQ hR
  go_enter Try.func60, Try.ntmps60
  go_wp2_with fail
  refine (l10Asked_yes _ _ w HK.out).mono ?_
  rintro e w2 ⟨rfl, rfl⟩
  go_wp2_with fail
  refine (l1In_any q 0 99999999 w).mono ?_
  rintro e w2 ⟨rfl, rfl⟩
  rw [g1]
  go_wp2_with fail
  refine (l1In_any r 0 9999 w).mono ?_
  rintro e w2 ⟨rfl, rfl⟩
  rw [g2]
  go_wp2_with fail
  go_ret2
  exact ⟨rfl, Below.refl _ _⟩
set_option maxRecDepth 100000 in
set_option maxHeartbeats 1600000 in
theorem speCheckDivision_quot (a b q r : Int) (w : World) (h : okC10 a b q r) (hq : ¬ q = a / b) (hr : a % b = a % b) :
    Calls Try.prog 60 #[.int .i64 a, .int .i64 b, .int .i64 q, .int .i64 r] w fun e w' => e = .returned (.tuple #[.bool false, .bool true]) ∧ Below w.heap.size w w' := by
  obtain ⟨f1, f2, f3, f4, f5, f6⟩ := div_facts (b := a) (d := b) ⟨h.1.1.1, by have := h.1.1.2; omega⟩ h.1.2.1
  have HK := Lib.hid h.1
  have g1 := inB_yes h.2.1.1 h.2.1.2
  have g2 := inB_yes h.2.2.1 h.2.2.2
  have z1 : (b == 0) = false := beq_eq_false_iff_ne.2 (by have := h.1.2.1; omega)
  have z2 : b ≠ 0 := by have := h.1.2.1; omega
  clear h
  obtain ⟨Q, hQ⟩ : ∃ q, a / b = q := ⟨_, rfl⟩
  obtain ⟨R, hR⟩ : ∃ r, a % b = r := ⟨_, rfl⟩
  rw [hQ] at f1 f3 f4 hq
  rw [hR] at f2 f5 f6 hr
  have y1 : (q == Q) = false := by simpa using hq
  have y2 : (r == R) = (r == R) := by rfl
  clear hq hr hQ hR
  go_enter Try.func60, Try.ntmps60
  go_wp2_with fail
  refine (l10Asked_yes _ _ w HK.out).mono ?_
  rintro e w2 ⟨rfl, rfl⟩
  go_wp2_with fail
  refine (l1In_any q 0 99999999 w).mono ?_
  rintro e w2 ⟨rfl, rfl⟩
  rw [g1]
  go_wp2_with fail
  refine (l1In_any r 0 9999 w).mono ?_
  rintro e w2 ⟨rfl, rfl⟩
  rw [g2]
  go_wp2_with fail
  go_ret2
  exact ⟨rfl, Below.refl _ _⟩
set_option maxRecDepth 100000 in
set_option maxHeartbeats 800000 in
theorem speCheckDivision_no1 (a b q r : Int) (w : World) (h : ¬ okD a b) :
    Calls Try.prog 60 #[.int .i64 a, .int .i64 b, .int .i64 q, .int .i64 r] w fun e w' => e = .returned (.tuple #[.bool false, .bool false]) ∧ Below w.heap.size w w' := by
  go_enter Try.func60, Try.ntmps60
  go_wp2_with fail
  refine (l10Asked_no _ _ w h).mono ?_
  rintro e w2 ⟨rfl, rfl⟩
  go_wp2_with fail
  go_ret2
  exact ⟨rfl, Below.refl _ _⟩
set_option maxRecDepth 100000 in
set_option maxHeartbeats 800000 in
theorem speCheckDivision_no2 (a b q r : Int) (w : World) (h : okD a b) (hq : ¬ (0 ≤ q ∧ q ≤ 99999999)) :
    Calls Try.prog 60 #[.int .i64 a, .int .i64 b, .int .i64 q, .int .i64 r] w fun e w' => e = .returned (.tuple #[.bool false, .bool false]) ∧ Below w.heap.size w w' := by
  have g1 := inB_no hq
  have HK := Lib.hid h
  clear h hq
  go_enter Try.func60, Try.ntmps60
  go_wp2_with fail
  refine (l10Asked_yes _ _ w HK.out).mono ?_
  rintro e w2 ⟨rfl, rfl⟩
  go_wp2_with fail
  refine (l1In_any q 0 99999999 w).mono ?_
  rintro e w2 ⟨rfl, rfl⟩
  rw [g1]
  go_wp2_with fail
  go_ret2
  exact ⟨rfl, Below.refl _ _⟩
set_option maxRecDepth 100000 in
set_option maxHeartbeats 800000 in
theorem speCheckDivision_no3 (a b q r : Int) (w : World) (h : okD a b) (hq : 0 ≤ q ∧ q ≤ 99999999) (hr : ¬ (0 ≤ r ∧ r ≤ 9999)) :
    Calls Try.prog 60 #[.int .i64 a, .int .i64 b, .int .i64 q, .int .i64 r] w fun e w' => e = .returned (.tuple #[.bool false, .bool false]) ∧ Below w.heap.size w w' := by
  have g1 := inB_yes hq.1 hq.2
  have g2 := inB_no hr
  have HK := Lib.hid h
  clear h hq hr
  go_enter Try.func60, Try.ntmps60
  go_wp2_with fail
  refine (l10Asked_yes _ _ w HK.out).mono ?_
  rintro e w2 ⟨rfl, rfl⟩
  go_wp2_with fail
  refine (l1In_any q 0 99999999 w).mono ?_
  rintro e w2 ⟨rfl, rfl⟩
  rw [g1]
  go_wp2_with fail
  refine (l1In_any r 0 9999 w).mono ?_
  rintro e w2 ⟨rfl, rfl⟩
  rw [g2]
  go_wp2_with fail
  go_ret2
  exact ⟨rfl, Below.refl _ _⟩
theorem speCheckDivision_no (a b q r : Int) (w : World) (h : ¬ okC10 a b q r) :
    Calls Try.prog 60 #[.int .i64 a, .int .i64 b, .int .i64 q, .int .i64 r] w fun e w' => e = .returned (.tuple #[.bool false, .bool false]) ∧ Below w.heap.size w w' := by
  by_cases h1 : okD a b
  · by_cases h2 : 0 ≤ q ∧ q ≤ 99999999
    · exact speCheckDivision_no3 a b q r w h1 h2 (fun h3 => h ⟨h1, h2, h3⟩)
    · exact speCheckDivision_no2 a b q r w h1 h2
  · exact speCheckDivision_no1 a b q r w h1
end Go.Proofs.Ythmbehknacjodaa
