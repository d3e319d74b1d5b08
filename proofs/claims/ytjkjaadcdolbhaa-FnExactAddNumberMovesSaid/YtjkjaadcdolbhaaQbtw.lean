/- The program's MovesBetween. -/
import Derived.Test.YtjkjaadcdolbhaaMbtw
import Derived.Test.YtjkjaadcdolbhaaIFrame
namespace Go.Proofs.Ytjkjaadcdolbhaa
set_option linter.unusedVariables false
open Go.RowKit

set_option maxRecDepth 100000 in
set_option maxHeartbeats 6400000 in
theorem implBetween_in (up lo : Int) (s1 : Value) (rs1 : List (Int × Int)) (s2 : Value) (rs2 : List (Int × Int)) (w : World) (h1 : RodsR w s1 rs1) (h2 : RodsR w s2 rs2) (g1 : goodF up lo rs1) (g2 : goodF up lo rs2) (hl : rs1.length = rs2.length) :
    Calls Try.prog 123 #[.agg #[.int .i64 up, .int .i64 lo, s1], .agg #[.int .i64 up, .int .i64 lo, s2]] w fun e w' => (∃ sq, e = .returned (.tuple #[sq, .bool true]) ∧ w'.ownsRow w.heap.size 75 3 sq (btwL rs1 rs2 (2 * rs1.length)).length (flatC mvC (btwL rs1 rs2 (2 * rs1.length)))) ∧ Below w.heap.size w w' := by
  obtain ⟨i0, hi, hz0, hz1, hz2⟩ := info_parts Try.infoBeadMove
  obtain ⟨a1, c1, rfl⟩ : ∃ a c, s1 = .slice a rs1.length c := by obtain ⟨a, c, e, _⟩ := h1; exact ⟨a, c, e⟩
  obtain ⟨a2, c2, rfl⟩ : ∃ a c, s2 = .slice a rs2.length c := by obtain ⟨a, c, e, _⟩ := h2; exact ⟨a, c, e⟩
  have hl8 : rs1.length ≤ 8 := g1.2.2.2.2
  have hl82 : rs2.length ≤ 8 := g2.2.2.2.2
  have A1 := Lib.hid (rods_at h1)
  have A2 := Lib.hid (rods_at h2)
  have G1 := Lib.hid (fun k (hk : k < rs1.length) p => at2_bd (g1.1 k hk) g1.2.1 g1.2.2.1 p)
  have G2 := Lib.hid (fun k (hk : k < rs2.length) p => at2_bd (g2.1 k hk) g1.2.1 g1.2.2.1 p)
  have HG1 := Lib.hid g1
  have HG2 := Lib.hid g2
  have HL := Lib.hid hl
  have hu : (up != up) = false := by simp
  have hlw : (lo != lo) = false := by simp
  have hln : ((rs1.length : Int) != (rs2.length : Int)) = false := by simp [hl]
  have HB0 : Hid (Below w.heap.size w w) := Lib.hid (Below.refl _ _)
  have HRf0 := Lib.hid (h1)
  have HRg0 := Lib.hid (h2)
  clear h1 h2 g1 g2 hl
  go_enter Try.func123, Try.ntmps123
  go_wp2_with fail
  have hb : Below w.heap.size w (w.alloc (.cells #[.int .i64 up, .int .i64 lo, .slice a1 rs1.length c1] 26)) := (Below.refl _ _).alloc (Nat.le_refl _) _
  have hk : (w.alloc (.cells #[.int .i64 up, .int .i64 lo, .slice a1 rs1.length c1] 26)).heap[w.heap.size]? = some (.cells #[.int .i64 up, .int .i64 lo, .slice a1 rs1.length c1] 26 (0, 0)) := alloc_at rfl
  have hz : (w.alloc (.cells #[.int .i64 up, .int .i64 lo, .slice a1 rs1.length c1] 26)).heap.size = w.heap.size + 1 := by simp
  generalize w.alloc (.cells #[.int .i64 up, .int .i64 lo, .slice a1 rs1.length c1] 26) = w1 at hb hk hz ⊢
  have HB1 : Hid (Below w.heap.size w w1) := Lib.hid (HB0.out.trans (hb.mono HB0.out.size))
  have HZ1 : Hid (w.heap.size ≤ w1.heap.size) := Lib.hid hb.size
  have HRf1 := Lib.hid (HRf0.out.below HB1.out (Nat.le_refl _))
  have HRg1 := Lib.hid (HRg0.out.below HB1.out (Nat.le_refl _))
  have HKf1 := Lib.hid hk
  replace HZ1 : Hid (w.heap.size < w1.heap.size) := Lib.hid (by omega)
  have HE1 := Lib.hid hz
  clear hb hk hz
  have hb : Below w1.heap.size w1 (w1.alloc (.cells #[.int .i64 up, .int .i64 lo, .slice a2 rs2.length c2] 26)) := (Below.refl _ _).alloc (Nat.le_refl _) _
  have hk : (w1.alloc (.cells #[.int .i64 up, .int .i64 lo, .slice a2 rs2.length c2] 26)).heap[w.heap.size + 1]? = some (.cells #[.int .i64 up, .int .i64 lo, .slice a2 rs2.length c2] 26 (0, 0)) := alloc_at (by have := HE1.out; omega)
  have hz : (w1.alloc (.cells #[.int .i64 up, .int .i64 lo, .slice a2 rs2.length c2] 26)).heap.size = w1.heap.size + 1 := by simp
  generalize w1.alloc (.cells #[.int .i64 up, .int .i64 lo, .slice a2 rs2.length c2] 26) = w2 at hb hk hz ⊢
  have HB2 : Hid (Below w.heap.size w w2) := Lib.hid (HB1.out.trans (hb.mono HB1.out.size))
  have HZ2 : Hid (w1.heap.size ≤ w2.heap.size) := Lib.hid hb.size
  have HRf2 := Lib.hid (HRf0.out.below HB2.out (Nat.le_refl _))
  have HRg2 := Lib.hid (HRg0.out.below HB2.out (Nat.le_refl _))
  have HKf2 := Lib.hid ((hb.block _ (lt_of_block HKf1.out)).trans HKf1.out)
  have HKg2 := Lib.hid hk
  replace HZ2 : Hid (w1.heap.size < w2.heap.size) := Lib.hid (by omega)
  have HE2 := Lib.hid hz
  clear hb hk hz
  have ltf := lt_of_block HKf2.out
  obtain ⟨cf0, cf1, cf2, ff0, ff1, ff2⟩ := cell3 HKf2.out
  have ltg := lt_of_block HKg2.out
  obtain ⟨cg0, cg1, cg2, fg0, fg1, fg2⟩ := cell3 HKg2.out
  refine (implIsFrame_yes up lo _ rs1 _ HRf2.out HG1.out).mono ?_
  rintro e w3 ⟨rfl, hb⟩
  have HB3 : Hid (Below w.heap.size w w3) := Lib.hid (HB2.out.trans (hb.mono HB2.out.size))
  have HZ3 : Hid (w2.heap.size ≤ w3.heap.size) := Lib.hid hb.size
  have HRf3 := Lib.hid (HRf0.out.below HB3.out (Nat.le_refl _))
  have HRg3 := Lib.hid (HRg0.out.below HB3.out (Nat.le_refl _))
  have HKf3 := Lib.hid ((hb.block _ (lt_of_block HKf2.out)).trans HKf2.out)
  have HKg3 := Lib.hid ((hb.block _ (lt_of_block HKg2.out)).trans HKg2.out)
  clear hb
  clear cf0 cf1 cf2 ff0 ff1 ff2 ltf cg0 cg1 cg2 fg0 fg1 fg2 ltg
  have ltf := lt_of_block HKf3.out
  obtain ⟨cf0, cf1, cf2, ff0, ff1, ff2⟩ := cell3 HKf3.out
  have ltg := lt_of_block HKg3.out
  obtain ⟨cg0, cg1, cg2, fg0, fg1, fg2⟩ := cell3 HKg3.out
  go_wp2_with fail
  refine (implIsFrame_yes up lo _ rs2 _ HRg3.out HG2.out).mono ?_
  rintro e w4 ⟨rfl, hb⟩
  have HB4 : Hid (Below w.heap.size w w4) := Lib.hid (HB3.out.trans (hb.mono HB3.out.size))
  have HZ4 : Hid (w3.heap.size ≤ w4.heap.size) := Lib.hid hb.size
  have HRf4 := Lib.hid (HRf0.out.below HB4.out (Nat.le_refl _))
  have HRg4 := Lib.hid (HRg0.out.below HB4.out (Nat.le_refl _))
  have HKf4 := Lib.hid ((hb.block _ (lt_of_block HKf3.out)).trans HKf3.out)
  have HKg4 := Lib.hid ((hb.block _ (lt_of_block HKg3.out)).trans HKg3.out)
  clear hb
  clear cf0 cf1 cf2 ff0 ff1 ff2 ltf cg0 cg1 cg2 fg0 fg1 fg2 ltg
  have ltf := lt_of_block HKf4.out
  obtain ⟨cf0, cf1, cf2, ff0, ff1, ff2⟩ := cell3 HKf4.out
  have ltg := lt_of_block HKg4.out
  obtain ⟨cg0, cg1, cg2, fg0, fg1, fg2⟩ := cell3 HKg4.out
  have HO := Lib.hid (World.ownsRow_made (base := w4.heap.size) (e := 75) (size := 3) w4 #[] 0 (Nat.le_refl _) (Nat.zero_le _) (by simp))
  go_wp2_with fail
  go_loopw [6, 46] (fun out i wr => ∃ k : Nat, k ≤ rs1.length ∧ i = .int .i64 k ∧ wr.ownsRow w4.heap.size 75 3 out (btwL rs1 rs2 (2 * k)).length (flatC mvC (btwL rs1 rs2 (2 * k))) ∧ Below w4.heap.size w4 wr) (fun _ i _ => rs1.length - (intOf i).toNat)
  case atStart => exact ⟨0, Nat.zero_le _, rfl, HO.out, (Below.refl _ _).alloc (Nat.le_refl _) _⟩
  case round =>
    obtain ⟨k, hk, rfl, hown, hb⟩ := hrel
    rename World => wo
    have HBo := Lib.hid hb
    have HO3 := Lib.hid hown
    have HBW0 : Hid (Below w.heap.size w wo) := Lib.hid (HB4.out.trans (hb.mono HB4.out.size))
    have d2 := (hb.cell (p := ⟨w.heap.size, 2, none⟩) ltf).trans cf2
    have hsz := hb.size
    clear hb hown
    by_cases hlt : k < rs1.length
    · have z1 : (0 : Int) ≤ (k : Int) := by omega
      have z2 : (k : Int) < (rs1.length : Int) := by omega
      have hlt2 : k < rs2.length := by have := HL.out; omega
      have z3 : (k : Int) < (rs2.length : Int) := by omega
      obtain ⟨b1, o1, rfl, m0, m1⟩ := A1.out _ HBW0.out k hlt
      have HIX : Hid (∀ (p : Nat), p < 2 → ∀ w, (Instr.index 83 (.agg #[.int .i64 rs1[k].1, .int .i64 rs1[k].2]) (.int .i64 (p : Int))).run Try.prog w = .ok (.int .i64 (at2 rs1[k] p)) w) := Lib.hid (fun p hp w => by
        rcases (show p = 0 ∨ p = 1 by omega) with rfl | rfl
        · exact ix0 _ _ w
        · exact ix1 _ _ w)
      go_wp2_with fail
      go_loopw [6, 54] (fun out i wi => ∃ p : Nat, p ≤ 2 ∧ i = .int .i64 p ∧ wi.ownsRow w4.heap.size 75 3 out (btwL rs1 rs2 (2 * k + p)).length (flatC mvC (btwL rs1 rs2 (2 * k + p))) ∧ Below w4.heap.size w4 wi) (fun _ i _ => 2 - (intOf i).toNat)
      case atStart => exact ⟨0, Nat.zero_le _, rfl, HO3.out, HBo.out⟩
      case round =>
        obtain ⟨p, hp, rfl, hown, hb⟩ := hrel
        rename World => wi
        have HBi := Lib.hid hb
        have HO4 := Lib.hid hown
        have HBW : Hid (Below w.heap.size w wi) := Lib.hid (HB4.out.trans (hb.mono HB4.out.size))
        have q2 := (hb.cell (p := ⟨w.heap.size + 1, 2, none⟩) ltg).trans cg2
        have hll := btwL_len rs1 rs2 (2 * k + p)
        have HSZ := Lib.hid hb.size
        clear hb hown d2
        by_cases hp2 : p < 2
        · have y1 : (0 : Int) ≤ (p : Int) := by omega
          have y2 : (p : Int) < 2 := by omega
          obtain ⟨b2, o2, rfl, n0, n1⟩ := A2.out _ HBW.out k hlt2
          have p2 : wi.cell? ⟨b2, o2 + k * 2 + p, none⟩ = some (.int .i64 (at2 rs2[k] p)) := by
            rcases (show p = 0 ∨ p = 1 by omega) with rfl | rfl
            · exact n0
            · exact n1
          have hix := HIX.out p hp2
          obtain ⟨x0, x1⟩ := G1.out k hlt p
          obtain ⟨v0, v1⟩ := G2.out k hlt2 p
          have HSN := Lib.hid (btwL_snoc rs1 rs2 k p hp2 hlt hlt2)
          obtain ⟨x, hx⟩ : ∃ x, at2 rs1[k] p = x := ⟨_, rfl⟩
          obtain ⟨y, hy⟩ : ∃ y, at2 rs2[k] p = y := ⟨_, rfl⟩
          rw [hx] at x0 x1 hix
          rw [hy] at v0 v1 p2
          have HX := Lib.hid hx
          have HY := Lib.hid hy
          have hws : IntKind.i64.wrap (y - x) = y - x := by rw [IntKind.wrap_i64]; omega
          clear n0 n1 hx hy m0 m1
          by_cases hd : y - x = 0
          · have HE : Hid (btw1 k p rs1[k] rs2[k] = []) := Lib.hid (by unfold btw1; rw [HX.out, HY.out, if_pos hd])
            have hdb : (y - x != 0) = false := by simp [hd]
            have HD := Lib.hid hd
            clear hd
            go_wp2_with fail
            go_roundw
            case rel => exact ⟨p + 1, by omega, by go_num, by rw [← Nat.add_assoc, HSN.out, HE.out, List.append_nil]; exact HO4.out, HBi.out⟩
            case measure => simp [intOf]; omega
          · have HE : Hid (btw1 k p rs1[k] rs2[k] = [⟨k, p, y - x⟩]) := Lib.hid (by unfold btw1; rw [HX.out, HY.out, if_neg hd])
            have hdb : (y - x != 0) = true := by simp [hd]
            have hsz4 := HSZ.out
            clear hd
            go_wp2_with (at_builtin; refine wpList_append_own _ rfl _ _ 32 rfl w4.heap.size 75 i0 (.agg #[.int .i64 0, .int .i64 0, .int .i64 0]) 3 24 Try.underlying32 hi hz0 hz1 hz2 rfl (by decide) _ _ _ rfl (HO4.out.alloc _) ⟨wi.heap.size, 0, none⟩ 1 1 (mvC ⟨k, p, y - x⟩) rfl rfl ?c1 ?c2 ?c3 ?c4 ?c5 ?_)
            case c1 => exact news_at (vs := mvC ⟨k, p, y - x⟩) (alloc_at (by simp))
            case c2 => exact mvC_one _
            case c3 => unfold maxLen; omega
            case c4 => omega
            case c5 => simp; omega
            intro v' w9 hown9 hgrow9 _
            have HO9 := Lib.hid hown9
            have HBn : Hid (Below w4.heap.size w4 w9) := Lib.hid ((HBi.out.alloc HBi.out.size _).grown hgrow9 (by simp; omega) (fun q hq => (HO4.out.lt q hq).1))
            clear hown9 hgrow9
            go_wp2_with fail
            go_roundw
            case rel =>
              refine ⟨p + 1, by omega, by go_num, ?_, HBn.out⟩
              rw [← Nat.add_assoc, HSN.out, HE.out, flatC_app]
              have := HO9.out
              simpa [flatC] using this
            case measure => simp [intOf]; omega
        · have hpe : p = 2 := by omega
          subst hpe
          go_wp2_with fail
          go_roundw
          case rel => exact ⟨k + 1, by omega, by go_num, HO4.out, HBi.out⟩
          case measure => simp [intOf]; omega
    · have hke : k = rs1.length := by omega
      subst hke
      go_wp2_with fail
      go_ret2
      exact ⟨⟨_, rfl, own_mono HO3.out HB4.out.size⟩, HB4.out.trans (HBo.out.mono HB4.out.size)⟩

set_option maxRecDepth 100000 in
set_option maxHeartbeats 3200000 in
theorem implBetween_no (u1 l1 : Int) (s1 : Value) (rs1 : List (Int × Int)) (u2 l2 : Int) (s2 : Value) (rs2 : List (Int × Int)) (w : World) (h1 : RodsR w s1 rs1) (h2 : RodsR w s2 rs2) (ha : ¬ alikeF u1 l1 rs1 u2 l2 rs2) :
    Calls Try.prog 123 #[.agg #[.int .i64 u1, .int .i64 l1, s1], .agg #[.int .i64 u2, .int .i64 l2, s2]] w fun e w' => (∃ sq, e = .returned (.tuple #[sq, .bool false]) ∧ w'.ownsRow w.heap.size 75 3 sq ([] : List Mv).length (flatC mvC [])) ∧ Below w.heap.size w w' := by
  obtain ⟨a1, c1, rfl⟩ : ∃ a c, s1 = .slice a rs1.length c := by obtain ⟨a, c, e, _⟩ := h1; exact ⟨a, c, e⟩
  obtain ⟨a2, c2, rfl⟩ : ∃ a c, s2 = .slice a rs2.length c := by obtain ⟨a, c, e, _⟩ := h2; exact ⟨a, c, e⟩
  have HA := Lib.hid ha
  have HB0 : Hid (Below w.heap.size w w) := Lib.hid (Below.refl _ _)
  have HRf0 := Lib.hid (h1)
  have HRg0 := Lib.hid (h2)
  clear h1 h2 ha
  go_enter Try.func123, Try.ntmps123
  go_wp2_with fail
  have hb : Below w.heap.size w (w.alloc (.cells #[.int .i64 u1, .int .i64 l1, .slice a1 rs1.length c1] 26)) := (Below.refl _ _).alloc (Nat.le_refl _) _
  have hk : (w.alloc (.cells #[.int .i64 u1, .int .i64 l1, .slice a1 rs1.length c1] 26)).heap[w.heap.size]? = some (.cells #[.int .i64 u1, .int .i64 l1, .slice a1 rs1.length c1] 26 (0, 0)) := alloc_at rfl
  have hz : (w.alloc (.cells #[.int .i64 u1, .int .i64 l1, .slice a1 rs1.length c1] 26)).heap.size = w.heap.size + 1 := by simp
  generalize w.alloc (.cells #[.int .i64 u1, .int .i64 l1, .slice a1 rs1.length c1] 26) = w1 at hb hk hz ⊢
  have HB1 : Hid (Below w.heap.size w w1) := Lib.hid (HB0.out.trans (hb.mono HB0.out.size))
  have HZ1 : Hid (w.heap.size ≤ w1.heap.size) := Lib.hid hb.size
  have HRf1 := Lib.hid (HRf0.out.below HB1.out (Nat.le_refl _))
  have HRg1 := Lib.hid (HRg0.out.below HB1.out (Nat.le_refl _))
  have HKf1 := Lib.hid hk
  replace HZ1 : Hid (w.heap.size < w1.heap.size) := Lib.hid (by omega)
  have HE1 := Lib.hid hz
  clear hb hk hz
  have hb : Below w1.heap.size w1 (w1.alloc (.cells #[.int .i64 u2, .int .i64 l2, .slice a2 rs2.length c2] 26)) := (Below.refl _ _).alloc (Nat.le_refl _) _
  have hk : (w1.alloc (.cells #[.int .i64 u2, .int .i64 l2, .slice a2 rs2.length c2] 26)).heap[w.heap.size + 1]? = some (.cells #[.int .i64 u2, .int .i64 l2, .slice a2 rs2.length c2] 26 (0, 0)) := alloc_at (by have := HE1.out; omega)
  have hz : (w1.alloc (.cells #[.int .i64 u2, .int .i64 l2, .slice a2 rs2.length c2] 26)).heap.size = w1.heap.size + 1 := by simp
  generalize w1.alloc (.cells #[.int .i64 u2, .int .i64 l2, .slice a2 rs2.length c2] 26) = w2 at hb hk hz ⊢
  have HB2 : Hid (Below w.heap.size w w2) := Lib.hid (HB1.out.trans (hb.mono HB1.out.size))
  have HZ2 : Hid (w1.heap.size ≤ w2.heap.size) := Lib.hid hb.size
  have HRf2 := Lib.hid (HRf0.out.below HB2.out (Nat.le_refl _))
  have HRg2 := Lib.hid (HRg0.out.below HB2.out (Nat.le_refl _))
  have HKf2 := Lib.hid ((hb.block _ (lt_of_block HKf1.out)).trans HKf1.out)
  have HKg2 := Lib.hid hk
  replace HZ2 : Hid (w1.heap.size < w2.heap.size) := Lib.hid (by omega)
  have HE2 := Lib.hid hz
  clear hb hk hz
  have ltf := lt_of_block HKf2.out
  obtain ⟨cf0, cf1, cf2, ff0, ff1, ff2⟩ := cell3 HKf2.out
  have ltg := lt_of_block HKg2.out
  obtain ⟨cg0, cg1, cg2, fg0, fg1, fg2⟩ := cell3 HKg2.out
  by_cases hg1 : goodF u1 l1 rs1
  · have HG1 := Lib.hid hg1
    clear hg1
    refine (implIsFrame_yes u1 l1 _ rs1 _ HRf2.out HG1.out).mono ?_
    rintro e w3 ⟨rfl, hb⟩
    have HB3 : Hid (Below w.heap.size w w3) := Lib.hid (HB2.out.trans (hb.mono HB2.out.size))
    have HZ3 : Hid (w2.heap.size ≤ w3.heap.size) := Lib.hid hb.size
    have HRf3 := Lib.hid (HRf0.out.below HB3.out (Nat.le_refl _))
    have HRg3 := Lib.hid (HRg0.out.below HB3.out (Nat.le_refl _))
    have HKf3 := Lib.hid ((hb.block _ (lt_of_block HKf2.out)).trans HKf2.out)
    have HKg3 := Lib.hid ((hb.block _ (lt_of_block HKg2.out)).trans HKg2.out)
    clear hb
    clear cf0 cf1 cf2 ff0 ff1 ff2 ltf cg0 cg1 cg2 fg0 fg1 fg2 ltg
    have ltf := lt_of_block HKf3.out
    obtain ⟨cf0, cf1, cf2, ff0, ff1, ff2⟩ := cell3 HKf3.out
    have ltg := lt_of_block HKg3.out
    obtain ⟨cg0, cg1, cg2, fg0, fg1, fg2⟩ := cell3 HKg3.out
    go_wp2_with fail
    by_cases hg2 : goodF u2 l2 rs2
    · have HG2 := Lib.hid hg2
      clear hg2
      refine (implIsFrame_yes u2 l2 _ rs2 _ HRg3.out HG2.out).mono ?_
      rintro e w4 ⟨rfl, hb⟩
      have HB4 : Hid (Below w.heap.size w w4) := Lib.hid (HB3.out.trans (hb.mono HB3.out.size))
      have HZ4 : Hid (w3.heap.size ≤ w4.heap.size) := Lib.hid hb.size
      have HRf4 := Lib.hid (HRf0.out.below HB4.out (Nat.le_refl _))
      have HRg4 := Lib.hid (HRg0.out.below HB4.out (Nat.le_refl _))
      have HKf4 := Lib.hid ((hb.block _ (lt_of_block HKf3.out)).trans HKf3.out)
      have HKg4 := Lib.hid ((hb.block _ (lt_of_block HKg3.out)).trans HKg3.out)
      clear hb
      clear cf0 cf1 cf2 ff0 ff1 ff2 ltf cg0 cg1 cg2 fg0 fg1 fg2 ltg
      have ltf := lt_of_block HKf4.out
      obtain ⟨cf0, cf1, cf2, ff0, ff1, ff2⟩ := cell3 HKf4.out
      have ltg := lt_of_block HKg4.out
      obtain ⟨cg0, cg1, cg2, fg0, fg1, fg2⟩ := cell3 HKg4.out
      by_cases hu : u1 = u2
      · have hu' : (u1 != u2) = false := by simp [hu]
        by_cases hv : l1 = l2
        · have hv' : (l1 != l2) = false := by simp [hv]
          have hn : ¬ rs1.length = rs2.length := fun e => HA.out ⟨HG1.out, HG2.out, hu, hv, e⟩
          have hn' : ((rs1.length : Int) != (rs2.length : Int)) = true := by simp; omega
          clear hu hv hn
          go_wp2_with fail
          go_ret2
          exact ⟨⟨_, rfl, World.ownsRow_made (base := w.heap.size) (e := 75) (size := 3) _ #[] 0 HB4.out.size (Nat.zero_le _) (by simp)⟩, HB4.out.alloc HB4.out.size _⟩
        · have hv' : (l1 != l2) = true := by simp [hv]
          clear hu hv
          go_wp2_with fail
          go_ret2
          exact ⟨⟨_, rfl, World.ownsRow_made (base := w.heap.size) (e := 75) (size := 3) _ #[] 0 HB4.out.size (Nat.zero_le _) (by simp)⟩, HB4.out.alloc HB4.out.size _⟩
      · have hu' : (u1 != u2) = true := by simp [hu]
        clear hu
        go_wp2_with fail
        go_ret2
        exact ⟨⟨_, rfl, World.ownsRow_made (base := w.heap.size) (e := 75) (size := 3) _ #[] 0 HB4.out.size (Nat.zero_le _) (by simp)⟩, HB4.out.alloc HB4.out.size _⟩
    · have HG2 := Lib.hid hg2
      clear hg2
      refine (implIsFrame_no u2 l2 _ rs2 _ HRg3.out HG2.out).mono ?_
      rintro e w4 ⟨rfl, hb⟩
      have HB4 : Hid (Below w.heap.size w w4) := Lib.hid (HB3.out.trans (hb.mono HB3.out.size))
      have HZ4 : Hid (w3.heap.size ≤ w4.heap.size) := Lib.hid hb.size
      have HRf4 := Lib.hid (HRf0.out.below HB4.out (Nat.le_refl _))
      have HRg4 := Lib.hid (HRg0.out.below HB4.out (Nat.le_refl _))
      have HKf4 := Lib.hid ((hb.block _ (lt_of_block HKf3.out)).trans HKf3.out)
      have HKg4 := Lib.hid ((hb.block _ (lt_of_block HKg3.out)).trans HKg3.out)
      clear hb
      clear cf0 cf1 cf2 ff0 ff1 ff2 ltf cg0 cg1 cg2 fg0 fg1 fg2 ltg
      have ltf := lt_of_block HKf4.out
      obtain ⟨cf0, cf1, cf2, ff0, ff1, ff2⟩ := cell3 HKf4.out
      have ltg := lt_of_block HKg4.out
      obtain ⟨cg0, cg1, cg2, fg0, fg1, fg2⟩ := cell3 HKg4.out
      go_wp2_with fail
      go_ret2
      exact ⟨⟨_, rfl, World.ownsRow_made (base := w.heap.size) (e := 75) (size := 3) _ #[] 0 HB4.out.size (Nat.zero_le _) (by simp)⟩, HB4.out.alloc HB4.out.size _⟩
  · have HG1 := Lib.hid hg1
    clear hg1
    refine (implIsFrame_no u1 l1 _ rs1 _ HRf2.out HG1.out).mono ?_
    rintro e w3 ⟨rfl, hb⟩
    have HB3 : Hid (Below w.heap.size w w3) := Lib.hid (HB2.out.trans (hb.mono HB2.out.size))
    have HZ3 : Hid (w2.heap.size ≤ w3.heap.size) := Lib.hid hb.size
    have HRf3 := Lib.hid (HRf0.out.below HB3.out (Nat.le_refl _))
    have HRg3 := Lib.hid (HRg0.out.below HB3.out (Nat.le_refl _))
    have HKf3 := Lib.hid ((hb.block _ (lt_of_block HKf2.out)).trans HKf2.out)
    have HKg3 := Lib.hid ((hb.block _ (lt_of_block HKg2.out)).trans HKg2.out)
    clear hb
    clear cf0 cf1 cf2 ff0 ff1 ff2 ltf cg0 cg1 cg2 fg0 fg1 fg2 ltg
    have ltf := lt_of_block HKf3.out
    obtain ⟨cf0, cf1, cf2, ff0, ff1, ff2⟩ := cell3 HKf3.out
    have ltg := lt_of_block HKg3.out
    obtain ⟨cg0, cg1, cg2, fg0, fg1, fg2⟩ := cell3 HKg3.out
    go_wp2_with fail
    go_ret2
    exact ⟨⟨_, rfl, World.ownsRow_made (base := w.heap.size) (e := 75) (size := 3) _ #[] 0 HB3.out.size (Nat.zero_le _) (by simp)⟩, HB3.out.alloc HB3.out.size _⟩
theorem implBetween_any (u1 l1 : Int) (s1 : Value) (rs1 : List (Int × Int)) (u2 l2 : Int) (s2 : Value) (rs2 : List (Int × Int)) (w : World) (h1 : RodsR w s1 rs1) (h2 : RodsR w s2 rs2) (ms : List Mv) (t : Bool) (hb : BtF u1 l1 rs1 u2 l2 rs2 ms t) :
    Calls Try.prog 123 #[.agg #[.int .i64 u1, .int .i64 l1, s1], .agg #[.int .i64 u2, .int .i64 l2, s2]] w fun e w' => (∃ sq, e = .returned (.tuple #[sq, .bool t]) ∧ w'.ownsRow w.heap.size 75 3 sq ms.length (flatC mvC ms)) ∧ Below w.heap.size w w' := by
  rcases hb with ⟨⟨g1, g2, rfl, rfl, hl⟩, rfl, rfl⟩ | ⟨ha, rfl, rfl⟩
  · exact implBetween_in u1 l1 s1 rs1 s2 rs2 w h1 h2 g1 g2 hl
  · exact implBetween_no u1 l1 s1 rs1 u2 l2 s2 rs2 w h1 h2 ha
end Go.Proofs.Ytjkjaadcdolbhaa
