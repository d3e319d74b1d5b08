/- The model's tests of systems and amounts. -/
import Derived.Test.YtghdmiimanhjgaaDoorMsr
import Derived.BigQuiet
namespace Go.Proofs.YtghdmiimanhjgaaDoor
set_option linter.unusedVariables false
open Go.RowKit

theorem neS {a b : ByteArray} (h : a ≠ b) : (a.toList == b.toList) = false := by
  rw [beq_eq_false_iff_ne]
  intro e
  exact h (by rw [ByteArray.toList_eq, ByteArray.toList_eq] at e; exact ByteArray.ext (Array.ext' e))

set_option maxRecDepth 100000 in
set_option maxHeartbeats 3200000 in
theorem l7System_scan (v : Value) (us : List Un) (w : World) (h : RowsR 2 unC w v us) (hs : ∀ u ∈ us, u.nm.size ≤ maxLen) (p : Nat) (hp : p ≤ us.length ∧ p ≤ 7) (hpre : ∀ i (h : i < us.length), i < p → uGood us i h) (hx : ∀ h : p < us.length, p < 7 → ¬ uGood us p h) (r : Bool) (hr1 : p < us.length → p < 7 → r = false) (hr2 : ¬ (p < us.length ∧ p < 7) → r = inB us.length 1 6) :
    Calls Tryd.prog 35 #[v] w fun e w' => e = .returned (.bool r) ∧ Below w.heap.size w w' := by
  have hm : us.length ≤ 9223372036854775807 := by obtain ⟨_, _, _, ⟨m, _⟩, _⟩ := h; exact m
  obtain ⟨a, cp, rfl⟩ := h.form
  have R1 := Lib.hid h.at
  have HP := Lib.hid hpre
  have HX := Lib.hid hx
  have HR1 := Lib.hid hr1
  have HR2 := Lib.hid hr2
  have HS := Lib.hid hs
  clear h hpre hx hr1 hr2 hs
  go_enter Tryd.func35, Tryd.ntmps35
  go_wp2_with fail
  go_loopw [3] (fun i wr => ∃ k : Nat, k ≤ p ∧ i = .int .i64 k ∧ Below w.heap.size w wr) (fun i _ => 8 - (intOf i).toNat)
  case atStart => exact ⟨0, Nat.zero_le _, rfl, Below.refl _ _⟩
  case round =>
    rename World => wo
    obtain ⟨k, hk, rfl, hb⟩ := hrel
    have HB := Lib.hid hb
    by_cases hlt : k < us.length ∧ k < 7
    · obtain ⟨hl1, hl2⟩ := hlt
      have z1 : (0 : Int) ≤ (k : Int) := by omega
      have z2 : (k : Int) < (us.length : Int) := by omega
      have z3 : (k : Int) ≤ 6 := by omega
      obtain ⟨b1, o1, rfl, l1, k1⟩ := R1.out _ hb k hl1
      have p0 : wo.cell? ⟨b1, o1 + k * 2, none⟩ = some (.string us[k].nm) := k1 0 (by omega)
      have p1 : wo.cell? ⟨b1, o1 + k * 2 + 1, none⟩ = some (.int .i64 us[k].sz) := k1 1 (by omega)
      have HSN : Hid (us[k].nm.size ≤ maxLen) := Lib.hid (HS.out _ (List.getElem_mem hl1))
      have HG : Hid (k < p → uGood us k hl1) := Lib.hid (fun h => HP.out k hl1 h)
      have HK0 : Hid (k = p → ¬ uGood us k hl1) := Lib.hid (fun h => by subst h; exact HX.out hl1 hl2)
      have HRF : Hid (¬ uGood us k hl1 → r = false) := Lib.hid (fun hn => by
        rcases Nat.lt_or_ge k p with h' | h'
        · exact absurd (HP.out k hl1 h') hn
        · obtain rfl : k = p := by omega
          exact HR1.out hl1 hl2)
      have HU : Hid (uGood us k hl1 = (isWord us[k].nm ∧ szOk k us[k].sz ∧ ∀ j (hk : j < k), us[j].nm ≠ us[k].nm)) := Lib.hid rfl
      generalize hun : us[k].nm = nm at p0 HSN HU
      generalize us[k].sz = sz at p1 HU
      have HUN := Lib.hid hun
      clear k1 hb hun
      go_wp2_with fail
      have hbx : Below wo.heap.size wo (wo.alloc (.cells #[.string nm, .int .i64 sz] 40)) := (Below.refl _ _).alloc (Nat.le_refl _) _
      have hkx : (wo.alloc (.cells #[.string nm, .int .i64 sz] 40)).heap[wo.heap.size]? = some (.cells #[.string nm, .int .i64 sz] 40 (0, 0)) := alloc_at rfl
      generalize wo.alloc (.cells #[.string nm, .int .i64 sz] 40) = w1 at hbx hkx ⊢
      have HB1 : Hid (Below w.heap.size w w1) := Lib.hid (HB.out.trans (hbx.mono HB.out.size))
      obtain ⟨c0, c1, _, _⟩ := cell2 hkx
      have hlb := lt_of_block hkx
      clear hbx hkx p0 p1
      by_cases hw : isWord nm
      · have HW := Lib.hid hw
        clear hw
        refine (l2Word_yes _ _ HSN.out HW.out).mono ?_
        rintro e w' ⟨rfl, hw'⟩
        subst w'
        by_cases hk0 : k = 0
        · have hke : ((k : Int) == 0) = true := by rw [beq_iff_eq]; omega
          have hkd : decide ((0 : Int) < (k : Int)) = false := decide_eq_false (by omega)
          have hkd2 : decide (0 < k) = false := decide_eq_false (by omega)
          have hke2 : (k == 0) = true := by rw [beq_iff_eq]; omega
          have HK00 := Lib.hid hk0
          clear hk0
          by_cases hsz : sz = 1
          · have HSZ : Hid (szOk k sz) := Lib.hid ⟨fun _ => hsz, fun h => absurd HK00.out (by omega)⟩
            have hne : (sz != 1) = false := by rw [hsz]; rfl
            clear hsz
            go_wp2_with fail
            have C0 := Lib.hid c0
            clear c0
            obtain ⟨d, hd, hd1, hd2⟩ := first_bad' k (fun j h => (us[j]'(by omega)).nm ≠ nm)
            have HD1 := Lib.hid hd1
            have HD2 := Lib.hid hd2
            clear hd1 hd2
            go_loopw [5] (fun j wr => ∃ q : Nat, q ≤ d ∧ j = .int .i64 q ∧ Below w1.heap.size w1 wr) (fun j _ => k - (intOf j).toNat)
            case atStart => exact ⟨0, Nat.zero_le _, rfl, Below.refl _ _⟩
            case round =>
              obtain ⟨q, hq, rfl, hbr⟩ := hrel
              have HBR : Hid (Below w.heap.size w wr) := Lib.hid (HB1.out.trans (hbr.mono HB1.out.size))
              have HBS := Lib.hid hbr
              have c0 := (hbr.cell (p := ⟨wo.heap.size, 0, none⟩) hlb).trans C0.out
              clear hbr
              by_cases hqk : q < k
              · have y1 : (0 : Int) ≤ (q : Int) := by omega
                have y2 : (q : Int) < (us.length : Int) := by omega
                have y3 : (q : Int) < (k : Int) := by omega
                obtain ⟨b1', o1', e1, _, k2⟩ := R1.out _ HBR.out q (by omega)
                obtain ⟨rfl, rfl⟩ : b1 = b1' ∧ o1 = o1' := by injection e1 with e1; injection e1 with e1 e2; exact ⟨e1, e2⟩
                have p2 : wr.cell? ⟨b1, o1 + q * 2, none⟩ = some (.string (us[q]'(by omega)).nm) := k2 0 (by omega)
                clear k2 e1
                by_cases he : (us[q]'(by omega)).nm = nm
                · have HN : Hid (r = false) := Lib.hid (HRF.out (by rw [HU.out]; exact fun h => h.2.2 q hqk he))
                  have hss : (nm.toList == nm.toList) = true := by simp
                  rw [he] at p2
                  clear he
                  go_wp2_with fail
                  go_quiet (fail)
                  go_wp2_with fail
                  go_ret
                  exact ⟨ret_bool HN.out.symm, bl_drewN HBR.out _⟩
                · have HL : Hid (q + 1 ≤ d) := Lib.hid (by
                    rcases Nat.lt_or_ge q d with h' | h'
                    · omega
                    · obtain rfl : q = d := by omega
                      exact absurd he (HD2.out hqk))
                  have hss : ((us[q]'(by omega)).nm.toList == nm.toList) = false := neS he
                  generalize (us[q]'(by omega)).nm = nm2 at p2 hss
                  clear he
                  go_wp2_with fail
                  go_quiet (fail)
                  go_wp2_with fail
                  go_roundw
                  case rel => exact ⟨q + 1, HL.out, by go_num, bl_drewN HBS.out _⟩
                  case measure => simp [intOf]; omega
              · have HGK : Hid (uGood us k hl1) := Lib.hid (by
                  rw [HU.out]
                  exact ⟨HW.out, HSZ.out, fun j hj => by have h9 := HD1.out j hj (by omega); first | exact h9 | (rw [← HUN.out]; exact h9) | (rw [HUN.out] at h9; exact h9)⟩)
                have HKP : Hid (k + 1 ≤ p) := Lib.hid (by
                  rcases Nat.lt_or_ge k p with h' | h'
                  · omega
                  · exact absurd HGK.out (HK0.out (by omega)))
                go_wp2_with fail
                go_roundw
                case rel => exact ⟨k + 1, HKP.out, by go_num, HBR.out⟩
                case measure => simp [intOf]; omega
          · have HSZ : Hid (¬ szOk k sz) := Lib.hid (fun h => hsz (h.1 HK00.out))
            have hne : (sz != 1) = true := by rw [bne_iff_ne]; exact hsz
            clear hsz
            have HN : Hid (r = false) := Lib.hid (HRF.out (by rw [HU.out]; exact fun h => HSZ.out h.2.1))
            go_wp2_with fail
            go_ret
            exact ⟨ret_bool HN.out.symm, HB1.out⟩
        · have hkp : (0 : Int) < (k : Int) := by omega
          have hke : ((k : Int) == 0) = false := beq_eq_false_iff_ne.2 (by omega)
          have hkn : 0 < k := by omega
          have hkd : decide ((0 : Int) < (k : Int)) = true := decide_eq_true hkp
          by_cases hsz : 2 ≤ sz ∧ sz ≤ 100
          · have HSZ : Hid (szOk k sz) := Lib.hid ⟨fun h => absurd h hk0, fun _ => hsz⟩
            have HS2 := Lib.hid hsz
            clear hsz
            go_wp2_with fail
            refine (l1In_yesq _ _ _ _ HS2.out).mono ?_
            rintro e w' ⟨rfl, hw'⟩
            subst w'
            go_wp2_with fail
            have C0 := Lib.hid c0
            clear c0
            obtain ⟨d, hd, hd1, hd2⟩ := first_bad' k (fun j h => (us[j]'(by omega)).nm ≠ nm)
            have HD1 := Lib.hid hd1
            have HD2 := Lib.hid hd2
            clear hd1 hd2
            go_loopw [5] (fun j wr => ∃ q : Nat, q ≤ d ∧ j = .int .i64 q ∧ Below w1.heap.size w1 wr) (fun j _ => k - (intOf j).toNat)
            case atStart => exact ⟨0, Nat.zero_le _, rfl, Below.refl _ _⟩
            case round =>
              obtain ⟨q, hq, rfl, hbr⟩ := hrel
              have HBR : Hid (Below w.heap.size w wr) := Lib.hid (HB1.out.trans (hbr.mono HB1.out.size))
              have HBS := Lib.hid hbr
              have c0 := (hbr.cell (p := ⟨wo.heap.size, 0, none⟩) hlb).trans C0.out
              clear hbr
              by_cases hqk : q < k
              · have y1 : (0 : Int) ≤ (q : Int) := by omega
                have y2 : (q : Int) < (us.length : Int) := by omega
                have y3 : (q : Int) < (k : Int) := by omega
                obtain ⟨b1', o1', e1, _, k2⟩ := R1.out _ HBR.out q (by omega)
                obtain ⟨rfl, rfl⟩ : b1 = b1' ∧ o1 = o1' := by injection e1 with e1; injection e1 with e1 e2; exact ⟨e1, e2⟩
                have p2 : wr.cell? ⟨b1, o1 + q * 2, none⟩ = some (.string (us[q]'(by omega)).nm) := k2 0 (by omega)
                clear k2 e1
                by_cases he : (us[q]'(by omega)).nm = nm
                · have HN : Hid (r = false) := Lib.hid (HRF.out (by rw [HU.out]; exact fun h => h.2.2 q hqk he))
                  have hss : (nm.toList == nm.toList) = true := by simp
                  rw [he] at p2
                  clear he
                  go_wp2_with fail
                  go_quiet (fail)
                  go_wp2_with fail
                  go_ret
                  exact ⟨ret_bool HN.out.symm, bl_drewN HBR.out _⟩
                · have HL : Hid (q + 1 ≤ d) := Lib.hid (by
                    rcases Nat.lt_or_ge q d with h' | h'
                    · omega
                    · obtain rfl : q = d := by omega
                      exact absurd he (HD2.out hqk))
                  have hss : ((us[q]'(by omega)).nm.toList == nm.toList) = false := neS he
                  generalize (us[q]'(by omega)).nm = nm2 at p2 hss
                  clear he
                  go_wp2_with fail
                  go_quiet (fail)
                  go_wp2_with fail
                  go_roundw
                  case rel => exact ⟨q + 1, HL.out, by go_num, bl_drewN HBS.out _⟩
                  case measure => simp [intOf]; omega
              · have HGK : Hid (uGood us k hl1) := Lib.hid (by
                  rw [HU.out]
                  exact ⟨HW.out, HSZ.out, fun j hj => by have h9 := HD1.out j hj (by omega); first | exact h9 | (rw [← HUN.out]; exact h9) | (rw [HUN.out] at h9; exact h9)⟩)
                have HKP : Hid (k + 1 ≤ p) := Lib.hid (by
                  rcases Nat.lt_or_ge k p with h' | h'
                  · omega
                  · exact absurd HGK.out (HK0.out (by omega)))
                go_wp2_with fail
                go_roundw
                case rel => exact ⟨k + 1, HKP.out, by go_num, HBR.out⟩
                case measure => simp [intOf]; omega
          · have HSZ : Hid (¬ szOk k sz) := Lib.hid (fun h => hsz (h.2 hkn))
            have HS2 := Lib.hid hsz
            clear hsz
            go_wp2_with fail
            refine (l1In_noq _ _ _ _ HS2.out).mono ?_
            rintro e w' ⟨rfl, hw'⟩
            subst w'
            have HN : Hid (r = false) := Lib.hid (HRF.out (by rw [HU.out]; exact fun h => HSZ.out h.2.1))
            go_wp2_with fail
            go_ret
            exact ⟨ret_bool HN.out.symm, HB1.out⟩
      · have HW := Lib.hid hw
        have HN : Hid (r = false) := Lib.hid (HRF.out (by rw [HU.out]; exact fun h => HW.out h.1))
        clear hw
        refine (l2Word_no _ _ HSN.out HW.out).mono ?_
        rintro e w' ⟨rfl, hw'⟩
        subst w'
        go_wp2_with fail
        go_ret
        exact ⟨ret_bool HN.out.symm, HB1.out⟩
    · have HE : Hid (r = inB us.length 1 6) := Lib.hid (HR2.out (fun h => hlt ⟨by omega, by omega⟩))
      by_cases h1 : k < us.length
      · have z3 : ¬ (k : Int) ≤ 6 := by omega
        have z2 : (k : Int) < (us.length : Int) := by omega
        clear hb
        go_wp2_with fail
        refine (l1In_anyq _ _ _ _).mono ?_
        rintro e w' ⟨rfl, hw⟩
        subst w'
        go_wp2_with fail
        go_ret
        exact ⟨ret_bool HE.out.symm, HB.out⟩
      · have z2 : ¬ (k : Int) < (us.length : Int) := by omega
        clear hb
        go_wp2_with fail
        refine (l1In_anyq _ _ _ _).mono ?_
        rintro e w' ⟨rfl, hw⟩
        subst w'
        go_wp2_with fail
        go_ret
        exact ⟨ret_bool HE.out.symm, HB.out⟩
theorem l7System_any (v : Value) (us : List Un) (w : World) (h : RowsR 2 unC w v us) (hs : ∀ u ∈ us, u.nm.size ≤ maxLen) (r : Bool) (hr : r = true ↔ okS us) :
    Calls Tryd.prog 35 #[v] w fun e w' => e = .returned (.bool r) ∧ Below w.heap.size w w' := by
  obtain ⟨p, hp, h1, h2⟩ := first_bad' (min us.length 7) (fun i h => uGood us i (by omega))
  refine l7System_scan v us w h hs p (by omega) (fun i hi hp' => h1 i (by omega) hp') (fun hl h7 => h2 (by omega)) r (fun hl h7 => ?_) (fun hn => ?_)
  · cases hb : r with
    | false => rfl
    | true => exact absurd ((hr.1 hb).2 p hl) (h2 (by omega))
  · by_cases ho : okS us
    · rw [hr.2 ho, inB_yes (by have := ho.1.1; omega) (by have := ho.1.2; omega)]
    · have hf : r = false := by
        cases hb : r with
        | false => rfl
        | true => exact absurd (hr.1 hb) ho
      rw [hf, inB_no]
      rintro ⟨y1, y2⟩
      exact ho ⟨⟨by omega, by omega⟩, fun i hi => h1 i (by omega) (by omega)⟩
theorem okS_dec (us : List Un) : ∃ r : Bool, r = true ↔ okS us := by
  by_cases h : okS us
  · exact ⟨true, fun _ => h, fun _ => rfl⟩
  · exact ⟨false, fun e => (by simp at e), fun e => absurd e h⟩
theorem int_at7 {w : World} {a : Option Addr} {c : Nat} {ls : List Int} (h : RowsR 1 inC w (.slice a ls.length c) ls) : ∀ w' : World, Below w.heap.size w w' → ∀ k (hk : k < ls.length), ∃ b o, a = some ⟨b, o, none⟩ ∧ b < w.heap.size ∧ w'.cell? ⟨b, o + k, none⟩ = some (.int .i64 ls[k]) := by
  intro w' hb k hk
  obtain ⟨b, o, e, l, c⟩ := h.at w' hb k hk
  have := c 0 (by omega)
  rw [Nat.mul_one, Nat.add_zero] at this
  exact ⟨b, o, e, l, this⟩
theorem szS_at {w : World} {a : Option Addr} {c : Nat} {us : List Un} (h : RowsR 2 unC w (.slice a us.length c) us) : ∀ w' : World, Below w.heap.size w w' → ∀ k (hk : k < us.length), ∃ b o, a = some ⟨b, o, none⟩ ∧ b < w.heap.size ∧ w'.cell? ⟨b, o + k * 2, none⟩ = some (.string us[k].nm) ∧ w'.cell? ⟨b, o + k * 2 + 1, none⟩ = some (.int .i64 (szU us k)) := by
  intro w' hb k hk
  obtain ⟨b, o, e, l, c⟩ := h.at w' hb k hk
  rw [szU_at us k hk]
  exact ⟨b, o, e, l, c 0 (by omega), c 1 (by omega)⟩

set_option maxRecDepth 100000 in
set_option maxHeartbeats 1600000 in
theorem l7Amount_any (v sv : Value) (us : List Un) (cs : List Int) (w : World) (h : RowsR 2 unC w v us) (hs : ∀ u ∈ us, u.nm.size ≤ maxLen) (hc : RowsR 1 inC w sv cs) (r : Bool) (hr : r = true ↔ okAm us cs) :
    Calls Tryd.prog 28 #[v, .agg #[sv]] w fun e w' => e = .returned (.bool r) ∧ Below w.heap.size w w' := by
  have hm : us.length ≤ 9223372036854775807 := by obtain ⟨_, _, _, ⟨m, _⟩, _⟩ := h; exact m
  have hm2 : cs.length ≤ 9223372036854775807 := by obtain ⟨_, _, _, ⟨m, _⟩, _⟩ := hc; exact m
  obtain ⟨a, cp, rfl⟩ := h.form
  obtain ⟨a1, c1, rfl⟩ := hc.form
  obtain ⟨p, hp, hpre, hx⟩ := first_bad' cs.length (fun i h => 0 ≤ cs[i] ∧ cs[i] ≤ 9999)
  have A1 := Lib.hid (int_at7 hc)
  have HS := Lib.hid hs
  have HP := Lib.hid hpre
  have HX := Lib.hid hx
  have HR := Lib.hid hr
  have HB0 : Hid (Below w.heap.size w w) := Lib.hid (Below.refl _ _)
  have HRu0 := Lib.hid (h)
  clear h hs hc hpre hx hr
  go_enter Tryd.func28, Tryd.ntmps28
  go_wp2_with fail
  have hb : Below w.heap.size w (w.alloc (.cells #[.slice a1 cs.length c1] 27)) := (Below.refl _ _).alloc (Nat.le_refl _) _
  have hk : (w.alloc (.cells #[.slice a1 cs.length c1] 27)).heap[w.heap.size]? = some (.cells #[.slice a1 cs.length c1] 27 (0, 0)) := alloc_at rfl
  have hz : (w.alloc (.cells #[.slice a1 cs.length c1] 27)).heap.size = w.heap.size + 1 := by simp
  generalize w.alloc (.cells #[.slice a1 cs.length c1] 27) = w1 at hb hk hz ⊢
  have HB1 : Hid (Below w.heap.size w w1) := Lib.hid (HB0.out.trans (hb.mono HB0.out.size))
  have HZ1 : Hid (w.heap.size ≤ w1.heap.size) := Lib.hid hb.size
  have HRu1 := Lib.hid (HRu0.out.below HB1.out (Nat.le_refl _))
  have HKb1 := Lib.hid hk
  replace HZ1 : Hid (w.heap.size < w1.heap.size) := Lib.hid (by omega)
  have HE1 := Lib.hid hz
  clear hb hk hz
  have ltb := lt_of_block HKb1.out
  obtain ⟨cb0, fb0⟩ := cell1 HKb1.out
  go_wp2_with fail
  go_loopw [5] (fun i wr => ∃ k : Nat, k ≤ p ∧ i = .int .i64 k ∧ w1 = wr) (fun i _ => cs.length - (intOf i).toNat)
  case atStart => exact ⟨0, Nat.zero_le _, rfl, rfl⟩
  case round =>
    obtain ⟨k, hk, rfl, rfl⟩ := hrel
    by_cases hlt : k < cs.length
    · have z1 : (0 : Int) ≤ (k : Int) := by omega
      have z2 : (k : Int) < (cs.length : Int) := by omega
      obtain ⟨b1, o1, rfl, _, p0⟩ := A1.out _ HB1.out k hlt
      by_cases h1 : 0 ≤ cs[k] ∧ cs[k] ≤ 9999
      · have hkp : k < p := by
          rcases Nat.lt_or_ge k p with h3 | h3
          · exact h3
          · obtain rfl : k = p := by omega
            exact absurd h1 (HX.out hlt)
        have H1 := Lib.hid h1
        clear h1
        go_wp2_with fail
        refine (l1In_yesq _ _ _ _ H1.out).mono ?_
        rintro e w' ⟨rfl, hw⟩
        subst w'
        go_wp2_with fail
        go_roundw
        case rel => exact ⟨k + 1, by omega, by go_num, by first | trivial | rfl⟩
        case measure => simp [intOf]; omega
      · have H1 := Lib.hid h1
        have HN : Hid (r = false) := Lib.hid (by
          cases hb : r with
          | false => rfl
          | true => exact absurd ((HR.out.1 hb).2.2 k hlt) h1)
        clear h1
        go_wp2_with fail
        refine (l1In_noq _ _ _ _ H1.out).mono ?_
        rintro e w' ⟨rfl, hw⟩
        subst w'
        go_wp2_with fail
        go_ret
        exact ⟨ret_bool HN.out.symm, HB1.out⟩
    · have HC : Hid (okC cs) := Lib.hid (fun i hi => HP.out i hi (by omega))
      by_cases ho : okS us
      · have HO := Lib.hid ho
        clear ho
        by_cases hle : cs.length = us.length
        · have HN : Hid (r = true) := Lib.hid (HR.out.2 ⟨HO.out, hle, HC.out⟩)
          have hd : ((cs.length : Int) == (us.length : Int)) = true := by rw [beq_iff_eq]; omega
          have HLE := Lib.hid hle
          clear hle
          go_wp2_with fail
          refine (l7System_any _ us _ HRu1.out HS.out true ⟨fun _ => HO.out, fun _ => rfl⟩).mono ?_
          rintro e w2 ⟨rfl, hb⟩
          have HB2 : Hid (Below w.heap.size w w2) := Lib.hid (HB1.out.trans (hb.mono HB1.out.size))
          have HZ2 : Hid (w1.heap.size ≤ w2.heap.size) := Lib.hid hb.size
          have HRu2 := Lib.hid (HRu0.out.below HB2.out (Nat.le_refl _))
          have HKb2 := Lib.hid ((hb.block _ (lt_of_block HKb1.out)).trans HKb1.out)
          clear hb
          clear cb0 fb0 ltb
          have ltb := lt_of_block HKb2.out
          obtain ⟨cb0, fb0⟩ := cell1 HKb2.out
          go_wp2_with fail
          go_ret
          exact ⟨ret_bool HN.out.symm, HB2.out⟩
        · have HN : Hid (r = false) := Lib.hid (by
            cases hb : r with
            | false => rfl
            | true => exact absurd (HR.out.1 hb).2.1 hle)
          have hd : ((cs.length : Int) == (us.length : Int)) = false := beq_eq_false_iff_ne.2 (by omega)
          clear hle
          go_wp2_with fail
          refine (l7System_any _ us _ HRu1.out HS.out true ⟨fun _ => HO.out, fun _ => rfl⟩).mono ?_
          rintro e w2 ⟨rfl, hb⟩
          have HB2 : Hid (Below w.heap.size w w2) := Lib.hid (HB1.out.trans (hb.mono HB1.out.size))
          have HZ2 : Hid (w1.heap.size ≤ w2.heap.size) := Lib.hid hb.size
          have HRu2 := Lib.hid (HRu0.out.below HB2.out (Nat.le_refl _))
          have HKb2 := Lib.hid ((hb.block _ (lt_of_block HKb1.out)).trans HKb1.out)
          clear hb
          clear cb0 fb0 ltb
          have ltb := lt_of_block HKb2.out
          obtain ⟨cb0, fb0⟩ := cell1 HKb2.out
          go_wp2_with fail
          go_ret
          exact ⟨ret_bool HN.out.symm, HB2.out⟩
      · have HO := Lib.hid ho
        have HN : Hid (r = false) := Lib.hid (by
          cases hb : r with
          | false => rfl
          | true => exact absurd (HR.out.1 hb).1 ho)
        clear ho
        go_wp2_with fail
        refine (l7System_any _ us _ HRu1.out HS.out false ⟨fun e => (by simp at e), fun e => absurd e HO.out⟩).mono ?_
        rintro e w2 ⟨rfl, hb⟩
        have HB2 : Hid (Below w.heap.size w w2) := Lib.hid (HB1.out.trans (hb.mono HB1.out.size))
        have HZ2 : Hid (w1.heap.size ≤ w2.heap.size) := Lib.hid hb.size
        have HRu2 := Lib.hid (HRu0.out.below HB2.out (Nat.le_refl _))
        have HKb2 := Lib.hid ((hb.block _ (lt_of_block HKb1.out)).trans HKb1.out)
        clear hb
        clear cb0 fb0 ltb
        have ltb := lt_of_block HKb2.out
        obtain ⟨cb0, fb0⟩ := cell1 HKb2.out
        go_wp2_with fail
        go_ret
        exact ⟨ret_bool HN.out.symm, HB2.out⟩
theorem okAm_dec (us : List Un) (cs : List Int) : ∃ r : Bool, r = true ↔ okAm us cs := by
  by_cases h : okAm us cs
  · exact ⟨true, fun _ => h, fun _ => rfl⟩
  · exact ⟨false, fun e => (by simp at e), fun e => absurd e h⟩
theorem wrap_small (x : Int) (h0 : -9223372036854775808 ≤ x) (h1 : x ≤ 9223372036854775807) : IntKind.i64.wrap x = x := by rw [IntKind.wrap_i64]; omega
theorem mul_small {v s : Int} (h0 : 0 ≤ v) (h1 : v ≤ 101000000009999) (s0 : 1 ≤ s) (s1 : s ≤ 100) : 0 ≤ v * s ∧ v * s ≤ 10100000000999900 := by
  have e1 : v * s ≤ v * 100 := Int.mul_le_mul_of_nonneg_left s1 h0
  have e2 : 0 ≤ v * s := Int.mul_nonneg h0 (by omega)
  omega
set_option maxRecDepth 100000 in
set_option maxHeartbeats 1600000 in
theorem l7Value_any (v sv : Value) (us : List Un) (cs : List Int) (w : World) (h : RowsR 2 unC w v us) (hc : RowsR 1 inC w sv cs) (ho : okAm us cs) :
    Calls Tryd.prog 31 #[v, .agg #[sv]] w fun e w' => e = .returned (.int .i64 (valA us cs)) ∧ Below w.heap.size w w' := by
  have hu6 : us.length ≤ 6 := ho.1.1.2
  have hu1 : 1 ≤ us.length := ho.1.1.1
  have hcu : cs.length = us.length := ho.2.1
  obtain ⟨a, cp, rfl⟩ := h.form
  obtain ⟨a1, c1, rfl⟩ := hc.form
  have A1 := Lib.hid (int_at7 hc)
  have A2 := Lib.hid (szS_at h)
  have HO := Lib.hid ho
  have HCU := Lib.hid hcu
  clear hcu
  have HB0 : Hid (Below w.heap.size w w) := Lib.hid (Below.refl _ _)
  clear h hc ho
  go_enter Tryd.func31, Tryd.ntmps31
  go_wp2_with fail
  have hb : Below w.heap.size w (w.alloc (.cells #[.slice a1 cs.length c1] 27)) := (Below.refl _ _).alloc (Nat.le_refl _) _
  have hk : (w.alloc (.cells #[.slice a1 cs.length c1] 27)).heap[w.heap.size]? = some (.cells #[.slice a1 cs.length c1] 27 (0, 0)) := alloc_at rfl
  have hz : (w.alloc (.cells #[.slice a1 cs.length c1] 27)).heap.size = w.heap.size + 1 := by simp
  generalize w.alloc (.cells #[.slice a1 cs.length c1] 27) = w1 at hb hk hz ⊢
  have HB1 : Hid (Below w.heap.size w w1) := Lib.hid (HB0.out.trans (hb.mono HB0.out.size))
  have HZ1 : Hid (w.heap.size ≤ w1.heap.size) := Lib.hid hb.size
  have HKb1 := Lib.hid hk
  replace HZ1 : Hid (w.heap.size < w1.heap.size) := Lib.hid (by omega)
  have HE1 := Lib.hid hz
  clear hb hk hz
  have ltb := lt_of_block HKb1.out
  obtain ⟨cb0, fb0⟩ := cell1 HKb1.out
  go_wp2_with fail
  go_loopw [5, 6] (fun s i wr => ∃ (k d : Nat) (ii v : Int), k + d = us.length ∧ ii + 1 = (k : Int) ∧ i = .int .i64 ii ∧ s = .int .i64 v ∧ Hid (v = valD us cs d) ∧ w1 = wr) (fun _ i _ => (intOf i + 1).toNat)
  case atStart => exact ⟨us.length, 0, (us.length : Int) - 1, 0, by omega, by omega, by go_num, rfl, Lib.hid rfl, rfl⟩
  case round =>
    obtain ⟨k, d, ii, x, hk, hki, rfl, rfl, HV, rfl⟩ := hrel
    by_cases hk0 : 0 < k
    · obtain ⟨m, rfl⟩ : ∃ m, k = m + 1 := ⟨k - 1, by omega⟩
      obtain rfl : ii = (m : Int) := by omega
      have hlt : m < us.length := by omega
      have hlt2 : m < cs.length := by have := HCU.out; omega
      have z1 : (0 : Int) ≤ (m : Int) := by omega
      have z2 : (m : Int) < (us.length : Int) := by omega
      have z3 : (m : Int) < (cs.length : Int) := by omega
      obtain ⟨b1, o1, rfl, _, p0⟩ := A1.out _ HB1.out m hlt2
      obtain ⟨b2, o2, rfl, _, _, q0⟩ := A2.out _ HB1.out m hlt
      have hvb := valD_lt HO.out d (by omega)
      rw [← HV.out] at hvb
      have hsb := okS_sz HO.out.1 m
      have hcb := HO.out.2.2 m hlt2
      have HST : Hid (valD us cs (d + 1) = (x + cs[m]) * szU us m) := Lib.hid (by rw [valD_step us cs m d (by omega), cA_at cs m hlt2, HV.out])
      generalize cs[m] = c at p0 hcb HST
      generalize szU us m = z at q0 hsb HST
      have hw1 : IntKind.i64.wrap (x + c) = x + c := wrap_small _ (by omega) (by omega)
      have hmb := mul_small (v := x + c) (s := z) (by omega) (by omega) hsb.1 hsb.2
      have hw2 : IntKind.i64.wrap ((x + c) * z) = (x + c) * z := wrap_small _ (by omega) (by omega)
      clear hki hk0 hmb
      go_wp2_with fail
      go_roundw
      case rel => exact ⟨m, d + 1, (m : Int) - 1, (x + c) * z, by omega, by omega, by go_num, rfl, Lib.hid HST.out.symm, by first | trivial | rfl⟩
      case measure => simp [intOf]
    · obtain rfl : k = 0 := by omega
      obtain rfl : ii = -1 := by omega
      obtain rfl : d = us.length := by omega
      go_wp2_with fail
      go_ret
      exact ⟨ret_int HV.out, HB1.out⟩
end Go.Proofs.YtghdmiimanhjgaaDoor
