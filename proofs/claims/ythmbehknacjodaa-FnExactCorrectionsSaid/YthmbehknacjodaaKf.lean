/- Parts laid as one: Appo, Qbtw, Adb, Cob. -/
import Derived.Test.YthmbehknacjodaaKa
import Derived.Deep.AppendSrc
import Derived.Maps.AppendAt
import Derived.Test.YthmbehknacjodaaKz
import Derived.Test.YthmbehknacjodaaKn
import Derived.Test.YthmbehknacjodaaKd
import Derived.Test.YthmbehknacjodaaSet
/-! Appo -/
namespace Go.Proofs.Ythmbehknacjodaa
set_option linter.unusedVariables false
open Go.RowKit

theorem wpList_append_rows {P : Program} {w : World} {ops : Array Oper} {rest : List Oper} {o : Oper} {a : Act} {Q : Exit → Act → World → Prop} (hgd : o.guard = none) (s x : Operand) (t : TypeId)
    (ho : o.op = .call { callee := .builtin .append, args := #[s, x], argTypes := #[t, t] }) (base : Nat) (e : TypeId) (i : TypeInfo) (z : Value) (size bytes : Nat) (ht : P.underlying t = some (.slice e)) (hi : P.info? e = some i) (hz : i.zero = some z)
    (hsize : i.size = size) (hby : i.bytes = bytes) (hzs : z.cells.size = size) (hsz : 0 < size) {α : Type} {cells : α → List Value} (hc : ∀ p, (cells p).length = size) (h1 : ∀ p, ∀ u ∈ cells p, u.oneCell' = true)
    (b n c : Nat) (xs : List Value) (hs : a.eval s = .slice (some ⟨b, 0, none⟩) n c) (hown : w.ownsRow base e size (.slice (some ⟨b, 0, none⟩) n c) n xs) (oa : Option Addr) (cp : Nat) (ps : List α) (hx : a.eval x = .slice oa ps.length cp)
    (hsrc : (oa = none ∧ ps = []) ∨ ∃ ad, oa = some ad ∧ ∀ j u, (flatC cells ps)[j]? = some u → w.cell? (ad.add j) = some u)
    (h63 : n + ps.length ≤ maxLen) (hbytes : (n + ps.length) * bytes ≤ 140737488355328) (hbase : base ≤ w.heap.size)
    (h : ∀ g c' w', w'.ownsRow base e size (.slice (some ⟨g, 0, none⟩) (n + ps.length) c') (n + ps.length) (xs ++ flatC cells ps) → w.grownBy w' (some b) → (g = b ∨ g = w.heap.size) → wpList P ops Q rest (a.put o.dst (.slice (some ⟨g, 0, none⟩) (n + ps.length) c')) w') : wpList P ops Q (o :: rest) a w := by
  rcases hsrc with ⟨rfl, rfl⟩ | ⟨ad, rfl, hcell⟩
  · have hnc : n ≤ c := by
      rcases hown.2 with ⟨h0, _⟩ | ⟨g, cap, cur, h0, _, _, hnc, _⟩
      · simp at h0
      · injection h0 with _ _ h2; omega
    refine wpList_plain hgd fun K hK => ?_
    have hrun := run_append_room_src (P := P) w t t o.type e i ht hi b 0 n c (.slice none 0 cp) 0 [] (Src.ofNil w ht cp) (by omega) (fun j hj => absurd hj (by simp)) (fun j hj => absurd hj (by simp))
    have e1 : w.setCells b (0 + n * i.size) [] = w := by simp [World.setCells]
    rw [e1] at hrun
    unfold Oper.wp
    simp [execOp, ho, resolve, invoke, builtin, hs, hx, hrun, Result.andThen]
    have := h b c w (by simpa [flatC] using hown) (World.grownBy.refl w _) (Or.inl rfl)
    exact hK _ _ (by simpa using this)
  · refine wpList_append_own_at _ hgd s x t ho base e i z size bytes ht hi hz hsize hby hzs hsz _ n xs hs hown ad ps.length cp (flatC cells ps) hx (flatC_len hc ps) hcell (flatC_one h1 ps) h63 hbytes hbase ?_
    intro v' w' ho' hg _ hat
    rcases ho'.2 with ⟨h0, _⟩ | ⟨g, cap, cur, rfl, hr⟩
    · subst h0
      simp [Value.ownBlock] at hat
    · refine h g cap w' ho' hg ?_
      rcases hat with hat | hat
      · left; simpa [Value.ownBlock] using hat
      · right; simpa [Value.ownBlock] using hat
end Go.Proofs.Ythmbehknacjodaa

/-! Qbtw -/
namespace Go.Proofs.Ythmbehknacjodaa
set_option linter.unusedVariables false
open Go.RowKit

set_option maxRecDepth 100000 in
set_option maxHeartbeats 6400000 in
theorem implBetween_in (up lo : Int) (s1 : Value) (rs1 : List (Int × Int)) (s2 : Value) (rs2 : List (Int × Int)) (w : World) (h1 : RodsR w s1 rs1) (h2 : RodsR w s2 rs2) (g1 : goodF up lo rs1) (g2 : goodF up lo rs2) (hl : rs1.length = rs2.length) :
    Calls Try.prog 141 #[.agg #[.int .i64 up, .int .i64 lo, s1], .agg #[.int .i64 up, .int .i64 lo, s2]] w fun e w' => (∃ sq, e = .returned (.tuple #[sq, .bool true]) ∧ w'.ownsRow w.heap.size 138 3 sq (btwL rs1 rs2 (2 * rs1.length)).length (flatC mvC (btwL rs1 rs2 (2 * rs1.length)))) ∧ Below w.heap.size w w' := by
  obtain ⟨i0, hi, hz0, hz1, hz2⟩ := info_parts Try.infoBeadMove
  obtain ⟨a1, c1, rfl⟩ : ∃ a c, s1 = .slice a rs1.length c := by obtain ⟨a, c, e, _⟩ := h1; exact ⟨a, c, e⟩
  obtain ⟨a2, c2, rfl⟩ : ∃ a c, s2 = .slice a rs2.length c := by obtain ⟨a, c, e, _⟩ := h2; exact ⟨a, c, e⟩
  have hl8 : rs1.length ≤ 8 := g1.2.2.2.2
  have hl82 : rs2.length ≤ 8 := g2.2.2.2.2
  have A1 := Lib.hid (rods_at h1)
  have A2 := Lib.hid (rods_at h2)
  have G1 := Lib.hid (fun k (hk : k < rs1.length) p => at2_bd (g1.1 k hk) g1.2.1 g1.2.2.1 p)
  have G2 := Lib.hid (fun k (hk : k < rs2.length) p => at2_bd (g2.1 k hk) g1.2.1 g1.2.2.1 p)
  have HG1 := Lib.hid g1
  have HG2 := Lib.hid g2
  have HL := Lib.hid hl
  have hu : (up != up) = false := by simp
  have hlw : (lo != lo) = false := by simp
  have hln : ((rs1.length : Int) != (rs2.length : Int)) = false := by simp [hl]
  have HB0 : Hid (Below w.heap.size w w) := Lib.hid (Below.refl _ _)
  have HRf0 := Lib.hid (h1)
  have HRg0 := Lib.hid (h2)
  clear h1 h2 g1 g2 hl
  go_enter Try.func141, Try.ntmps141
  go_wp2_with fail
  have hb : Below w.heap.size w (w.alloc (.cells #[.int .i64 up, .int .i64 lo, .slice a1 rs1.length c1] 42)) := (Below.refl _ _).alloc (Nat.le_refl _) _
  have hk : (w.alloc (.cells #[.int .i64 up, .int .i64 lo, .slice a1 rs1.length c1] 42)).heap[w.heap.size]? = some (.cells #[.int .i64 up, .int .i64 lo, .slice a1 rs1.length c1] 42 (0, 0)) := alloc_at rfl
  have hz : (w.alloc (.cells #[.int .i64 up, .int .i64 lo, .slice a1 rs1.length c1] 42)).heap.size = w.heap.size + 1 := by simp
  generalize w.alloc (.cells #[.int .i64 up, .int .i64 lo, .slice a1 rs1.length c1] 42) = w1 at hb hk hz ⊢
  have HB1 : Hid (Below w.heap.size w w1) := Lib.hid (HB0.out.trans (hb.mono HB0.out.size))
  have HZ1 : Hid (w.heap.size ≤ w1.heap.size) := Lib.hid hb.size
  have HRf1 := Lib.hid (HRf0.out.below HB1.out (Nat.le_refl _))
  have HRg1 := Lib.hid (HRg0.out.below HB1.out (Nat.le_refl _))
  have HKf1 := Lib.hid hk
  replace HZ1 : Hid (w.heap.size < w1.heap.size) := Lib.hid (by omega)
  have HE1 := Lib.hid hz
  clear hb hk hz
  have hb : Below w1.heap.size w1 (w1.alloc (.cells #[.int .i64 up, .int .i64 lo, .slice a2 rs2.length c2] 42)) := (Below.refl _ _).alloc (Nat.le_refl _) _
  have hk : (w1.alloc (.cells #[.int .i64 up, .int .i64 lo, .slice a2 rs2.length c2] 42)).heap[w.heap.size + 1]? = some (.cells #[.int .i64 up, .int .i64 lo, .slice a2 rs2.length c2] 42 (0, 0)) := alloc_at (by have := HE1.out; omega)
  have hz : (w1.alloc (.cells #[.int .i64 up, .int .i64 lo, .slice a2 rs2.length c2] 42)).heap.size = w1.heap.size + 1 := by simp
  generalize w1.alloc (.cells #[.int .i64 up, .int .i64 lo, .slice a2 rs2.length c2] 42) = w2 at hb hk hz ⊢
  have HB2 : Hid (Below w.heap.size w w2) := Lib.hid (HB1.out.trans (hb.mono HB1.out.size))
  have HZ2 : Hid (w1.heap.size ≤ w2.heap.size) := Lib.hid hb.size
  have HRf2 := Lib.hid (HRf0.out.below HB2.out (Nat.le_refl _))
  have HRg2 := Lib.hid (HRg0.out.below HB2.out (Nat.le_refl _))
  have HKf2 := Lib.hid ((hb.block _ (lt_of_block HKf1.out)).trans HKf1.out)
  have HKg2 := Lib.hid hk
  replace HZ2 : Hid (w1.heap.size < w2.heap.size) := Lib.hid (by omega)
  have HE2 := Lib.hid hz
  clear hb hk hz
  have ltf := lt_of_block HKf2.out
  obtain ⟨cf0, cf1, cf2, ff0, ff1, ff2⟩ := cell3 HKf2.out
  have ltg := lt_of_block HKg2.out
  obtain ⟨cg0, cg1, cg2, fg0, fg1, fg2⟩ := cell3 HKg2.out
  refine (implIsFrame_yes up lo _ rs1 _ HRf2.out HG1.out).mono ?_
  rintro e w3 ⟨rfl, hb⟩
  have HB3 : Hid (Below w.heap.size w w3) := Lib.hid (HB2.out.trans (hb.mono HB2.out.size))
  have HZ3 : Hid (w2.heap.size ≤ w3.heap.size) := Lib.hid hb.size
  have HRf3 := Lib.hid (HRf0.out.below HB3.out (Nat.le_refl _))
  have HRg3 := Lib.hid (HRg0.out.below HB3.out (Nat.le_refl _))
  have HKf3 := Lib.hid ((hb.block _ (lt_of_block HKf2.out)).trans HKf2.out)
  have HKg3 := Lib.hid ((hb.block _ (lt_of_block HKg2.out)).trans HKg2.out)
  clear hb
  clear cf0 cf1 cf2 ff0 ff1 ff2 ltf cg0 cg1 cg2 fg0 fg1 fg2 ltg
  have ltf := lt_of_block HKf3.out
  obtain ⟨cf0, cf1, cf2, ff0, ff1, ff2⟩ := cell3 HKf3.out
  have ltg := lt_of_block HKg3.out
  obtain ⟨cg0, cg1, cg2, fg0, fg1, fg2⟩ := cell3 HKg3.out
  go_wp2_with fail
  refine (implIsFrame_yes up lo _ rs2 _ HRg3.out HG2.out).mono ?_
  rintro e w4 ⟨rfl, hb⟩
  have HB4 : Hid (Below w.heap.size w w4) := Lib.hid (HB3.out.trans (hb.mono HB3.out.size))
  have HZ4 : Hid (w3.heap.size ≤ w4.heap.size) := Lib.hid hb.size
  have HRf4 := Lib.hid (HRf0.out.below HB4.out (Nat.le_refl _))
  have HRg4 := Lib.hid (HRg0.out.below HB4.out (Nat.le_refl _))
  have HKf4 := Lib.hid ((hb.block _ (lt_of_block HKf3.out)).trans HKf3.out)
  have HKg4 := Lib.hid ((hb.block _ (lt_of_block HKg3.out)).trans HKg3.out)
  clear hb
  clear cf0 cf1 cf2 ff0 ff1 ff2 ltf cg0 cg1 cg2 fg0 fg1 fg2 ltg
  have ltf := lt_of_block HKf4.out
  obtain ⟨cf0, cf1, cf2, ff0, ff1, ff2⟩ := cell3 HKf4.out
  have ltg := lt_of_block HKg4.out
  obtain ⟨cg0, cg1, cg2, fg0, fg1, fg2⟩ := cell3 HKg4.out
  have HO := Lib.hid (World.ownsRow_made (base := w4.heap.size) (e := 138) (size := 3) w4 #[] 0 (Nat.le_refl _) (Nat.zero_le _) (by simp))
  go_wp2_with fail
  go_loopw [6, 46] (fun out i wr => ∃ k : Nat, k ≤ rs1.length ∧ i = .int .i64 k ∧ wr.ownsRow w4.heap.size 138 3 out (btwL rs1 rs2 (2 * k)).length (flatC mvC (btwL rs1 rs2 (2 * k))) ∧ Below w4.heap.size w4 wr) (fun _ i _ => rs1.length - (intOf i).toNat)
  case atStart => exact ⟨0, Nat.zero_le _, rfl, HO.out, (Below.refl _ _).alloc (Nat.le_refl _) _⟩
  case round =>
    obtain ⟨k, hk, rfl, hown, hb⟩ := hrel
    rename World => wo
    have HBo := Lib.hid hb
    have HO3 := Lib.hid hown
    have HBW0 : Hid (Below w.heap.size w wo) := Lib.hid (HB4.out.trans (hb.mono HB4.out.size))
    have d2 := (hb.cell (p := ⟨w.heap.size, 2, none⟩) ltf).trans cf2
    have hsz := hb.size
    clear hb hown
    by_cases hlt : k < rs1.length
    · have z1 : (0 : Int) ≤ (k : Int) := by omega
      have z2 : (k : Int) < (rs1.length : Int) := by omega
      have hlt2 : k < rs2.length := by have := HL.out; omega
      have z3 : (k : Int) < (rs2.length : Int) := by omega
      obtain ⟨b1, o1, rfl, m0, m1⟩ := A1.out _ HBW0.out k hlt
      have HIX : Hid (∀ (p : Nat), p < 2 → ∀ w, (Instr.index 77 (.agg #[.int .i64 rs1[k].1, .int .i64 rs1[k].2]) (.int .i64 (p : Int))).run Try.prog w = .ok (.int .i64 (at2 rs1[k] p)) w) := Lib.hid (fun p hp w => by
        rcases (show p = 0 ∨ p = 1 by omega) with rfl | rfl
        · exact ix0 _ _ w
        · exact ix1 _ _ w)
      go_wp2_with fail
      go_loopw [6, 54] (fun out i wi => ∃ p : Nat, p ≤ 2 ∧ i = .int .i64 p ∧ wi.ownsRow w4.heap.size 138 3 out (btwL rs1 rs2 (2 * k + p)).length (flatC mvC (btwL rs1 rs2 (2 * k + p))) ∧ Below w4.heap.size w4 wi) (fun _ i _ => 2 - (intOf i).toNat)
      case atStart => exact ⟨0, Nat.zero_le _, rfl, HO3.out, HBo.out⟩
      case round =>
        obtain ⟨p, hp, rfl, hown, hb⟩ := hrel
        rename World => wi
        have HBi := Lib.hid hb
        have HO4 := Lib.hid hown
        have HBW : Hid (Below w.heap.size w wi) := Lib.hid (HB4.out.trans (hb.mono HB4.out.size))
        have q2 := (hb.cell (p := ⟨w.heap.size + 1, 2, none⟩) ltg).trans cg2
        have hll := btwL_len rs1 rs2 (2 * k + p)
        have HSZ := Lib.hid hb.size
        clear hb hown d2
        by_cases hp2 : p < 2
        · have y1 : (0 : Int) ≤ (p : Int) := by omega
          have y2 : (p : Int) < 2 := by omega
          obtain ⟨b2, o2, rfl, n0, n1⟩ := A2.out _ HBW.out k hlt2
          have p2 : wi.cell? ⟨b2, o2 + k * 2 + p, none⟩ = some (.int .i64 (at2 rs2[k] p)) := by
            rcases (show p = 0 ∨ p = 1 by omega) with rfl | rfl
            · exact n0
            · exact n1
          have hix := HIX.out p hp2
          obtain ⟨x0, x1⟩ := G1.out k hlt p
          obtain ⟨v0, v1⟩ := G2.out k hlt2 p
          have HSN := Lib.hid (btwL_snoc rs1 rs2 k p hp2 hlt hlt2)
          obtain ⟨x, hx⟩ : ∃ x, at2 rs1[k] p = x := ⟨_, rfl⟩
          obtain ⟨y, hy⟩ : ∃ y, at2 rs2[k] p = y := ⟨_, rfl⟩
          rw [hx] at x0 x1 hix
          rw [hy] at v0 v1 p2
          have HX := Lib.hid hx
          have HY := Lib.hid hy
          have hws : IntKind.i64.wrap (y - x) = y - x := by rw [IntKind.wrap_i64]; omega
          clear n0 n1 hx hy m0 m1
          by_cases hd : y - x = 0
          · have HE : Hid (btw1 k p rs1[k] rs2[k] = []) := Lib.hid (by unfold btw1; rw [HX.out, HY.out, if_pos hd])
            have hdb : (y - x != 0) = false := by simp [hd]
            have HD := Lib.hid hd
            clear hd
            go_wp2_with fail
            go_roundw
            case rel => exact ⟨p + 1, by omega, by go_num, by rw [← Nat.add_assoc, HSN.out, HE.out, List.append_nil]; exact HO4.out, HBi.out⟩
            case measure => simp [intOf]; omega
          · have HE : Hid (btw1 k p rs1[k] rs2[k] = [⟨k, p, y - x⟩]) := Lib.hid (by unfold btw1; rw [HX.out, HY.out, if_neg hd])
            have hdb : (y - x != 0) = true := by simp [hd]
            have hsz4 := HSZ.out
            clear hd
            go_wp2_with (at_builtin; refine wpList_append_own _ rfl _ _ 81 rfl w4.heap.size 138 i0 (.agg #[.int .i64 0, .int .i64 0, .int .i64 0]) 3 24 Try.underlying81 hi hz0 hz1 hz2 rfl (by decide) _ _ _ rfl (HO4.out.alloc _) ⟨wi.heap.size, 0, none⟩ 1 1 (mvC ⟨k, p, y - x⟩) rfl rfl ?c1 ?c2 ?c3 ?c4 ?c5 ?_)
            case c1 => exact news_at (vs := mvC ⟨k, p, y - x⟩) (alloc_at (by simp))
            case c2 => exact mvC_one _
            case c3 => unfold maxLen; omega
            case c4 => omega
            case c5 => simp; omega
            intro v' w9 hown9 hgrow9 _
            have HO9 := Lib.hid hown9
            have HBn : Hid (Below w4.heap.size w4 w9) := Lib.hid ((HBi.out.alloc HBi.out.size _).grown hgrow9 (by simp; omega) (fun q hq => (HO4.out.lt q hq).1))
            clear hown9 hgrow9
            go_wp2_with fail
            go_roundw
            case rel =>
              refine ⟨p + 1, by omega, by go_num, ?_, HBn.out⟩
              rw [← Nat.add_assoc, HSN.out, HE.out, flatC_app]
              have := HO9.out
              simpa [flatC] using this
            case measure => simp [intOf]; omega
        · have hpe : p = 2 := by omega
          subst hpe
          go_wp2_with fail
          go_roundw
          case rel => exact ⟨k + 1, by omega, by go_num, HO4.out, HBi.out⟩
          case measure => simp [intOf]; omega
    · have hke : k = rs1.length := by omega
      subst hke
      go_wp2_with fail
      go_ret2
      exact ⟨⟨_, rfl, own_mono HO3.out HB4.out.size⟩, HB4.out.trans (HBo.out.mono HB4.out.size)⟩

set_option maxRecDepth 100000 in
set_option maxHeartbeats 3200000 in
theorem implBetween_no (u1 l1 : Int) (s1 : Value) (rs1 : List (Int × Int)) (u2 l2 : Int) (s2 : Value) (rs2 : List (Int × Int)) (w : World) (h1 : RodsR w s1 rs1) (h2 : RodsR w s2 rs2) (ha : ¬ alikeF u1 l1 rs1 u2 l2 rs2) :
    Calls Try.prog 141 #[.agg #[.int .i64 u1, .int .i64 l1, s1], .agg #[.int .i64 u2, .int .i64 l2, s2]] w fun e w' => (∃ sq, e = .returned (.tuple #[sq, .bool false]) ∧ w'.ownsRow w.heap.size 138 3 sq ([] : List Mv).length (flatC mvC [])) ∧ Below w.heap.size w w' := by
  obtain ⟨a1, c1, rfl⟩ : ∃ a c, s1 = .slice a rs1.length c := by obtain ⟨a, c, e, _⟩ := h1; exact ⟨a, c, e⟩
  obtain ⟨a2, c2, rfl⟩ : ∃ a c, s2 = .slice a rs2.length c := by obtain ⟨a, c, e, _⟩ := h2; exact ⟨a, c, e⟩
  have HA := Lib.hid ha
  have HB0 : Hid (Below w.heap.size w w) := Lib.hid (Below.refl _ _)
  have HRf0 := Lib.hid (h1)
  have HRg0 := Lib.hid (h2)
  clear h1 h2 ha
  go_enter Try.func141, Try.ntmps141
  go_wp2_with fail
  have hb : Below w.heap.size w (w.alloc (.cells #[.int .i64 u1, .int .i64 l1, .slice a1 rs1.length c1] 42)) := (Below.refl _ _).alloc (Nat.le_refl _) _
  have hk : (w.alloc (.cells #[.int .i64 u1, .int .i64 l1, .slice a1 rs1.length c1] 42)).heap[w.heap.size]? = some (.cells #[.int .i64 u1, .int .i64 l1, .slice a1 rs1.length c1] 42 (0, 0)) := alloc_at rfl
  have hz : (w.alloc (.cells #[.int .i64 u1, .int .i64 l1, .slice a1 rs1.length c1] 42)).heap.size = w.heap.size + 1 := by simp
  generalize w.alloc (.cells #[.int .i64 u1, .int .i64 l1, .slice a1 rs1.length c1] 42) = w1 at hb hk hz ⊢
  have HB1 : Hid (Below w.heap.size w w1) := Lib.hid (HB0.out.trans (hb.mono HB0.out.size))
  have HZ1 : Hid (w.heap.size ≤ w1.heap.size) := Lib.hid hb.size
  have HRf1 := Lib.hid (HRf0.out.below HB1.out (Nat.le_refl _))
  have HRg1 := Lib.hid (HRg0.out.below HB1.out (Nat.le_refl _))
  have HKf1 := Lib.hid hk
  replace HZ1 : Hid (w.heap.size < w1.heap.size) := Lib.hid (by omega)
  have HE1 := Lib.hid hz
  clear hb hk hz
  have hb : Below w1.heap.size w1 (w1.alloc (.cells #[.int .i64 u2, .int .i64 l2, .slice a2 rs2.length c2] 42)) := (Below.refl _ _).alloc (Nat.le_refl _) _
  have hk : (w1.alloc (.cells #[.int .i64 u2, .int .i64 l2, .slice a2 rs2.length c2] 42)).heap[w.heap.size + 1]? = some (.cells #[.int .i64 u2, .int .i64 l2, .slice a2 rs2.length c2] 42 (0, 0)) := alloc_at (by have := HE1.out; omega)
  have hz : (w1.alloc (.cells #[.int .i64 u2, .int .i64 l2, .slice a2 rs2.length c2] 42)).heap.size = w1.heap.size + 1 := by simp
  generalize w1.alloc (.cells #[.int .i64 u2, .int .i64 l2, .slice a2 rs2.length c2] 42) = w2 at hb hk hz ⊢
  have HB2 : Hid (Below w.heap.size w w2) := Lib.hid (HB1.out.trans (hb.mono HB1.out.size))
  have HZ2 : Hid (w1.heap.size ≤ w2.heap.size) := Lib.hid hb.size
  have HRf2 := Lib.hid (HRf0.out.below HB2.out (Nat.le_refl _))
  have HRg2 := Lib.hid (HRg0.out.below HB2.out (Nat.le_refl _))
  have HKf2 := Lib.hid ((hb.block _ (lt_of_block HKf1.out)).trans HKf1.out)
  have HKg2 := Lib.hid hk
  replace HZ2 : Hid (w1.heap.size < w2.heap.size) := Lib.hid (by omega)
  have HE2 := Lib.hid hz
  clear hb hk hz
  have ltf := lt_of_block HKf2.out
  obtain ⟨cf0, cf1, cf2, ff0, ff1, ff2⟩ := cell3 HKf2.out
  have ltg := lt_of_block HKg2.out
  obtain ⟨cg0, cg1, cg2, fg0, fg1, fg2⟩ := cell3 HKg2.out
  by_cases hg1 : goodF u1 l1 rs1
  · have HG1 := Lib.hid hg1
    clear hg1
    refine (implIsFrame_yes u1 l1 _ rs1 _ HRf2.out HG1.out).mono ?_
    rintro e w3 ⟨rfl, hb⟩
    have HB3 : Hid (Below w.heap.size w w3) := Lib.hid (HB2.out.trans (hb.mono HB2.out.size))
    have HZ3 : Hid (w2.heap.size ≤ w3.heap.size) := Lib.hid hb.size
    have HRf3 := Lib.hid (HRf0.out.below HB3.out (Nat.le_refl _))
    have HRg3 := Lib.hid (HRg0.out.below HB3.out (Nat.le_refl _))
    have HKf3 := Lib.hid ((hb.block _ (lt_of_block HKf2.out)).trans HKf2.out)
    have HKg3 := Lib.hid ((hb.block _ (lt_of_block HKg2.out)).trans HKg2.out)
    clear hb
    clear cf0 cf1 cf2 ff0 ff1 ff2 ltf cg0 cg1 cg2 fg0 fg1 fg2 ltg
    have ltf := lt_of_block HKf3.out
    obtain ⟨cf0, cf1, cf2, ff0, ff1, ff2⟩ := cell3 HKf3.out
    have ltg := lt_of_block HKg3.out
    obtain ⟨cg0, cg1, cg2, fg0, fg1, fg2⟩ := cell3 HKg3.out
    go_wp2_with fail
    by_cases hg2 : goodF u2 l2 rs2
    · have HG2 := Lib.hid hg2
      clear hg2
      refine (implIsFrame_yes u2 l2 _ rs2 _ HRg3.out HG2.out).mono ?_
      rintro e w4 ⟨rfl, hb⟩
      have HB4 : Hid (Below w.heap.size w w4) := Lib.hid (HB3.out.trans (hb.mono HB3.out.size))
      have HZ4 : Hid (w3.heap.size ≤ w4.heap.size) := Lib.hid hb.size
      have HRf4 := Lib.hid (HRf0.out.below HB4.out (Nat.le_refl _))
      have HRg4 := Lib.hid (HRg0.out.below HB4.out (Nat.le_refl _))
      have HKf4 := Lib.hid ((hb.block _ (lt_of_block HKf3.out)).trans HKf3.out)
      have HKg4 := Lib.hid ((hb.block _ (lt_of_block HKg3.out)).trans HKg3.out)
      clear hb
      clear cf0 cf1 cf2 ff0 ff1 ff2 ltf cg0 cg1 cg2 fg0 fg1 fg2 ltg
      have ltf := lt_of_block HKf4.out
      obtain ⟨cf0, cf1, cf2, ff0, ff1, ff2⟩ := cell3 HKf4.out
      have ltg := lt_of_block HKg4.out
      obtain ⟨cg0, cg1, cg2, fg0, fg1, fg2⟩ := cell3 HKg4.out
      by_cases hu : u1 = u2
      · have hu' : (u1 != u2) = false := by simp [hu]
        by_cases hv : l1 = l2
        · have hv' : (l1 != l2) = false := by simp [hv]
          have hn : ¬ rs1.length = rs2.length := fun e => HA.out ⟨HG1.out, HG2.out, hu, hv, e⟩
          have hn' : ((rs1.length : Int) != (rs2.length : Int)) = true := by simp; omega
          clear hu hv hn
          go_wp2_with fail
          go_ret2
          exact ⟨⟨_, rfl, World.ownsRow_made (base := w.heap.size) (e := 138) (size := 3) _ #[] 0 HB4.out.size (Nat.zero_le _) (by simp)⟩, HB4.out.alloc HB4.out.size _⟩
        · have hv' : (l1 != l2) = true := by simp [hv]
          clear hu hv
          go_wp2_with fail
          go_ret2
          exact ⟨⟨_, rfl, World.ownsRow_made (base := w.heap.size) (e := 138) (size := 3) _ #[] 0 HB4.out.size (Nat.zero_le _) (by simp)⟩, HB4.out.alloc HB4.out.size _⟩
      · have hu' : (u1 != u2) = true := by simp [hu]
        clear hu
        go_wp2_with fail
        go_ret2
        exact ⟨⟨_, rfl, World.ownsRow_made (base := w.heap.size) (e := 138) (size := 3) _ #[] 0 HB4.out.size (Nat.zero_le _) (by simp)⟩, HB4.out.alloc HB4.out.size _⟩
    · have HG2 := Lib.hid hg2
      clear hg2
      refine (implIsFrame_no u2 l2 _ rs2 _ HRg3.out HG2.out).mono ?_
      rintro e w4 ⟨rfl, hb⟩
      have HB4 : Hid (Below w.heap.size w w4) := Lib.hid (HB3.out.trans (hb.mono HB3.out.size))
      have HZ4 : Hid (w3.heap.size ≤ w4.heap.size) := Lib.hid hb.size
      have HRf4 := Lib.hid (HRf0.out.below HB4.out (Nat.le_refl _))
      have HRg4 := Lib.hid (HRg0.out.below HB4.out (Nat.le_refl _))
      have HKf4 := Lib.hid ((hb.block _ (lt_of_block HKf3.out)).trans HKf3.out)
      have HKg4 := Lib.hid ((hb.block _ (lt_of_block HKg3.out)).trans HKg3.out)
      clear hb
      clear cf0 cf1 cf2 ff0 ff1 ff2 ltf cg0 cg1 cg2 fg0 fg1 fg2 ltg
      have ltf := lt_of_block HKf4.out
      obtain ⟨cf0, cf1, cf2, ff0, ff1, ff2⟩ := cell3 HKf4.out
      have ltg := lt_of_block HKg4.out
      obtain ⟨cg0, cg1, cg2, fg0, fg1, fg2⟩ := cell3 HKg4.out
      go_wp2_with fail
      go_ret2
      exact ⟨⟨_, rfl, World.ownsRow_made (base := w.heap.size) (e := 138) (size := 3) _ #[] 0 HB4.out.size (Nat.zero_le _) (by simp)⟩, HB4.out.alloc HB4.out.size _⟩
  · have HG1 := Lib.hid hg1
    clear hg1
    refine (implIsFrame_no u1 l1 _ rs1 _ HRf2.out HG1.out).mono ?_
    rintro e w3 ⟨rfl, hb⟩
    have HB3 : Hid (Below w.heap.size w w3) := Lib.hid (HB2.out.trans (hb.mono HB2.out.size))
    have HZ3 : Hid (w2.heap.size ≤ w3.heap.size) := Lib.hid hb.size
    have HRf3 := Lib.hid (HRf0.out.below HB3.out (Nat.le_refl _))
    have HRg3 := Lib.hid (HRg0.out.below HB3.out (Nat.le_refl _))
    have HKf3 := Lib.hid ((hb.block _ (lt_of_block HKf2.out)).trans HKf2.out)
    have HKg3 := Lib.hid ((hb.block _ (lt_of_block HKg2.out)).trans HKg2.out)
    clear hb
    clear cf0 cf1 cf2 ff0 ff1 ff2 ltf cg0 cg1 cg2 fg0 fg1 fg2 ltg
    have ltf := lt_of_block HKf3.out
    obtain ⟨cf0, cf1, cf2, ff0, ff1, ff2⟩ := cell3 HKf3.out
    have ltg := lt_of_block HKg3.out
    obtain ⟨cg0, cg1, cg2, fg0, fg1, fg2⟩ := cell3 HKg3.out
    go_wp2_with fail
    go_ret2
    exact ⟨⟨_, rfl, World.ownsRow_made (base := w.heap.size) (e := 138) (size := 3) _ #[] 0 HB3.out.size (Nat.zero_le _) (by simp)⟩, HB3.out.alloc HB3.out.size _⟩
theorem implBetween_any (u1 l1 : Int) (s1 : Value) (rs1 : List (Int × Int)) (u2 l2 : Int) (s2 : Value) (rs2 : List (Int × Int)) (w : World) (h1 : RodsR w s1 rs1) (h2 : RodsR w s2 rs2) (ms : List Mv) (t : Bool) (hb : BtF u1 l1 rs1 u2 l2 rs2 ms t) :
    Calls Try.prog 141 #[.agg #[.int .i64 u1, .int .i64 l1, s1], .agg #[.int .i64 u2, .int .i64 l2, s2]] w fun e w' => (∃ sq, e = .returned (.tuple #[sq, .bool t]) ∧ w'.ownsRow w.heap.size 138 3 sq ms.length (flatC mvC ms)) ∧ Below w.heap.size w w' := by
  rcases hb with ⟨⟨g1, g2, rfl, rfl, hl⟩, rfl, rfl⟩ | ⟨ha, rfl, rfl⟩
  · exact implBetween_in u1 l1 s1 rs1 s2 rs2 w h1 h2 g1 g2 hl
  · exact implBetween_no u1 l1 s1 rs1 u2 l2 s2 rs2 w h1 h2 ha
end Go.Proofs.Ythmbehknacjodaa

/-! Adb -/
namespace Go.Proofs.Ythmbehknacjodaa
set_option linter.unusedVariables false
open Go.RowKit

/-- In a world: the box A of an addition, its rods and its moves, all in blocks from B on. -/
structure AdAt (B : Nat) (w : World) (A : Nat) (up lo : Int) (sv : Value) (mg mc : Nat) (rs : List (Int × Int)) (ms : List Mv) (c k0 k1 k2 k3 : Int) : Prop where
  ord : B ≤ A
  box : w.heap[A]? = some (.cells #[.int .i64 up, .int .i64 lo, sv, .slice (some ⟨mg, 0, none⟩) ms.length mc, .int .i64 c, .int .i64 k0, .int .i64 k1, .int .i64 k2, .int .i64 k3] 86 (0, 0))
  rods : w.ownsRow B 77 2 sv rs.length (flat rs)
  moves : w.ownsRow B 138 3 (.slice (some ⟨mg, 0, none⟩) ms.length mc) ms.length (flatC mvC ms)

theorem own_box {w : World} {B : Nat} {e : TypeId} {size n : Nat} {v : Value} {xs : List Value} (h : w.ownsRow B e size v n xs) {A : Nat} {cs : Array Value} {T : TypeId} (hb : w.heap[A]? = some (.cells cs T (0, 0))) (hT : T ≠ e) : ∀ g, v.ownBlock = some g → g ≠ A := by
  intro g hg e1
  subst e1
  obtain ⟨cur, hc⟩ := own_heap h hg
  rw [hb] at hc
  injection hc with hc
  injection hc with _ h3 _
  exact hT h3
theorem own_set_box {w : World} {B : Nat} {e : TypeId} {size n : Nat} {v : Value} {xs : List Value} (h : w.ownsRow B e size v n xs) {A : Nat} (hA : ∀ g, v.ownBlock = some g → g ≠ A) (i : Nat) (u : Value) : (w.setCell ⟨A, i, none⟩ u).ownsRow B e size v n xs :=
  own_of_block h fun g hg => Below.heap_setCell w ⟨A, i, none⟩ u g (hA g hg)
section
variable {B : Nat} {w : World} {A : Nat} {up lo : Int} {sv : Value} {mg mc : Nat} {rs : List (Int × Int)} {ms : List Mv} {c k0 k1 k2 k3 : Int}
theorem AdAt.lt (h : AdAt B w A up lo sv mg mc rs ms c k0 k1 k2 k3) : A < w.heap.size := (Array.getElem?_eq_some_iff.1 h.box).1
theorem AdAt.sne (h : AdAt B w A up lo sv mg mc rs ms c k0 k1 k2 k3) : ∀ g, sv.ownBlock = some g → g ≠ A := own_box h.rods h.box (by decide)
theorem AdAt.mne (h : AdAt B w A up lo sv mg mc rs ms c k0 k1 k2 k3) : ∀ g, (Value.slice (some ⟨mg, 0, none⟩) ms.length mc).ownBlock = some g → g ≠ A := own_box h.moves h.box (by decide)
theorem AdAt.next {w' : World} (h : AdAt B w A up lo sv mg mc rs ms c k0 k1 k2 k3) (hb : Below w.heap.size w w') : AdAt B w' A up lo sv mg mc rs ms c k0 k1 k2 k3 :=
  ⟨h.ord, (hb.block _ h.lt).trans h.box, own_below h.rods hb, own_below h.moves hb⟩
/-- The frame is set anew. -/
theorem AdAt.setF {rs' : List (Int × Int)} {sv' : Value} (h : AdAt B w A up lo sv mg mc rs ms c k0 k1 k2 k3) (ho : w.ownsRow B 77 2 sv' rs'.length (flat rs')) :
    AdAt B (((w.setCell ⟨A, 0, none⟩ (.int .i64 up)).setCell ⟨A, 1, none⟩ (.int .i64 lo)).setCell ⟨A, 2, none⟩ sv') A up lo sv' mg mc rs' ms c k0 k1 k2 k3 := by
  have hs := own_box ho h.box (by decide)
  have hm := h.mne
  refine ⟨h.ord, ?_, own_set_box (own_set_box (own_set_box ho hs _ _) hs _ _) hs _ _, own_set_box (own_set_box (own_set_box h.moves hm _ _) hm _ _) hm _ _⟩
  have h1 := heap_setCell_same w A 0 _ _ (.int .i64 up) h.box
  have h2 := heap_setCell_same _ A 1 _ _ (.int .i64 lo) h1
  have h3 := heap_setCell_same _ A 2 _ _ sv' h2
  simpa using h3
/-- The moves are longer now. -/
theorem AdAt.setM {w' : World} {g c' : Nat} {ns : List Mv} (h : AdAt B w A up lo sv mg mc rs ms c k0 k1 k2 k3) (ho : w'.ownsRow B 138 3 (.slice (some ⟨g, 0, none⟩) (ms.length + ns.length) c') (ms.length + ns.length) (flatC mvC ms ++ flatC mvC ns)) (hg : w.grownBy w' (some mg)) :
    AdAt B (w'.setCell ⟨A, 3, none⟩ (.slice (some ⟨g, 0, none⟩) (ms.length + ns.length) c')) A up lo sv g c' rs (ms ++ ns) c k0 k1 k2 k3 := by
  have hb : w'.heap[A]? = _ := (hg.block A h.lt (by intro e; injection e with e; exact h.mne mg rfl e.symm)).trans h.box
  have hr : w'.ownsRow B 77 2 sv rs.length (flat rs) := own_kept2 h.rods h.moves (by decide) hg
  have hs := own_box hr hb (by decide)
  have hm := own_box ho hb (by decide)
  rw [← flatC_app] at ho
  have hl : (ms ++ ns).length = ms.length + ns.length := List.length_append
  refine ⟨h.ord, ?_, own_set_box hr hs _ _, ?_⟩
  · have h3 := heap_setCell_same w' A 3 _ _ (.slice (some ⟨g, 0, none⟩) (ms.length + ns.length) c') hb
    rw [hl]
    simpa using h3
  · rw [hl]; exact own_set_box ho hm _ _
theorem AdAt.setC (h : AdAt B w A up lo sv mg mc rs ms c k0 k1 k2 k3) (x : Int) : AdAt B (w.setCell ⟨A, 4, none⟩ (.int .i64 x)) A up lo sv mg mc rs ms x k0 k1 k2 k3 := by
  refine ⟨h.ord, ?_, own_set_box h.rods h.sne _ _, own_set_box h.moves h.mne _ _⟩
  simpa using heap_setCell_same w A 4 _ _ (.int .i64 x) h.box
theorem AdAt.setK0 (h : AdAt B w A up lo sv mg mc rs ms c k0 k1 k2 k3) (x : Int) : AdAt B (w.setCell ⟨A, 5, none⟩ (.int .i64 x)) A up lo sv mg mc rs ms c x k1 k2 k3 := by
  refine ⟨h.ord, ?_, own_set_box h.rods h.sne _ _, own_set_box h.moves h.mne _ _⟩
  simpa using heap_setCell_same w A 5 _ _ (.int .i64 x) h.box
theorem AdAt.setK1 (h : AdAt B w A up lo sv mg mc rs ms c k0 k1 k2 k3) (x : Int) : AdAt B (w.setCell ⟨A, 6, none⟩ (.int .i64 x)) A up lo sv mg mc rs ms c k0 x k2 k3 := by
  refine ⟨h.ord, ?_, own_set_box h.rods h.sne _ _, own_set_box h.moves h.mne _ _⟩
  simpa using heap_setCell_same w A 6 _ _ (.int .i64 x) h.box
theorem AdAt.setK2 (h : AdAt B w A up lo sv mg mc rs ms c k0 k1 k2 k3) (x : Int) : AdAt B (w.setCell ⟨A, 7, none⟩ (.int .i64 x)) A up lo sv mg mc rs ms c k0 k1 x k3 := by
  refine ⟨h.ord, ?_, own_set_box h.rods h.sne _ _, own_set_box h.moves h.mne _ _⟩
  simpa using heap_setCell_same w A 7 _ _ (.int .i64 x) h.box
theorem AdAt.setK3 (h : AdAt B w A up lo sv mg mc rs ms c k0 k1 k2 k3) (x : Int) : AdAt B (w.setCell ⟨A, 8, none⟩ (.int .i64 x)) A up lo sv mg mc rs ms c k0 k1 k2 x := by
  refine ⟨h.ord, ?_, own_set_box h.rods h.sne _ _, own_set_box h.moves h.mne _ _⟩
  simpa using heap_setCell_same w A 8 _ _ (.int .i64 x) h.box
end
/-- The moves between a frame and the one with a rod set are the rod's. -/
theorem btwL_eq (rs1 rs2 : List (Int × Int)) : ∀ t, (∀ i, 2 * i < t → btw1 i 0 (rs1.getD i (0, 0)) (rs2.getD i (0, 0)) = [] ∧ btw1 i 1 (rs1.getD i (0, 0)) (rs2.getD i (0, 0)) = []) → btwL rs1 rs2 t = []
  | 0, _ => rfl
  | t + 1, h => by
    have ih := btwL_eq rs1 rs2 t (fun i hi => h i (by omega))
    unfold btwL at ih ⊢
    rw [List.range_succ, List.flatMap_append, ih]
    have h2 := h (t / 2) (by omega)
    simp only [List.flatMap_cons, List.flatMap_nil, List.append_nil, List.nil_append]
    rcases Nat.mod_two_eq_zero_or_one t with e | e
    · rw [e]; exact h2.1
    · rw [e]; exact h2.2
theorem btw1_same (i p : Nat) (x : Int × Int) : btw1 i p x x = [] := by unfold btw1; rw [if_pos (by omega)]
theorem btwL_set (rs : List (Int × Int)) (hs : stdF rs) (q : Nat) (hq : q < rs.length) (d : Int) : btwL rs (rs.set q (digR d)) (2 * rs.length) = turnM q (vAt rs q) d := by
  have hv : digR (vAt rs q) = rs[q] := by rw [vAt_in hq]; exact rod_std (hs q hq)
  have hne : ∀ i, i ≠ q → (rs.set q (digR d)).getD i (0, 0) = rs.getD i (0, 0) := fun i hi => by
    rw [List.getD_eq_getElem?_getD, List.getElem?_set_ne (fun e => hi e.symm), ← List.getD_eq_getElem?_getD]
  have key : ∀ k, q + 1 + k ≤ rs.length → btwL rs (rs.set q (digR d)) (2 * (q + 1 + k)) = turnM q (vAt rs q) d := by
    intro k
    induction k with
    | zero =>
      intro _
      have h0 : btwL rs (rs.set q (digR d)) (2 * q) = [] := btwL_eq _ _ _ (fun i hi => by
        rw [hne i (by omega)]; exact ⟨btw1_same _ _ _, btw1_same _ _ _⟩)
      have s1 := btwL_snoc rs (rs.set q (digR d)) q 0 (by omega) hq (by rw [List.length_set]; exact hq)
      have s2 := btwL_snoc rs (rs.set q (digR d)) q 1 (by omega) hq (by rw [List.length_set]; exact hq)
      rw [show 2 * (q + 1 + 0) = 2 * q + 1 + 1 by omega, s2, show 2 * q + 1 = 2 * q + 0 + 1 by omega, s1, Nat.add_zero, h0, List.nil_append, List.getElem_set_self]
      unfold turnM
      rw [hv]
    | succ k ih =>
      intro hk
      have hi : q + 1 + k < rs.length := by omega
      have s1 := btwL_snoc rs (rs.set q (digR d)) (q + 1 + k) 0 (by omega) hi (by rw [List.length_set]; exact hi)
      have s2 := btwL_snoc rs (rs.set q (digR d)) (q + 1 + k) 1 (by omega) hi (by rw [List.length_set]; exact hi)
      have e : (rs.set q (digR d))[q + 1 + k]'(by rw [List.length_set]; exact hi) = rs[q + 1 + k] := List.getElem_set_ne (by omega) _
      rw [show 2 * (q + 1 + (k + 1)) = 2 * (q + 1 + k) + 1 + 1 by omega, s2, show 2 * (q + 1 + k) + 1 = 2 * (q + 1 + k) + 0 + 1 by omega, s1, Nat.add_zero, ih (by omega), e, btw1_same, btw1_same, List.append_nil, List.append_nil]
  have := key (rs.length - (q + 1)) (by omega)
  rwa [show q + 1 + (rs.length - (q + 1)) = rs.length by omega] at this
end Go.Proofs.Ythmbehknacjodaa

/-! Cob -/
namespace Go.Proofs.Ythmbehknacjodaa
set_option linter.unusedVariables false
open Go.RowKit

theorem cell4r {w : World} {b : Nat} {x0 x1 x2 x3 : Value} {R : List Value} {T : TypeId} (h : w.heap[b]? = some (.cells (x0 :: x1 :: x2 :: x3 :: R).toArray T (0, 0))) :
    w.cell? ⟨b, 0, none⟩ = some x0 ∧ w.cell? ⟨b, 1, none⟩ = some x1 ∧ w.cell? ⟨b, 2, none⟩ = some x2 ∧ w.cell? ⟨b, 3, none⟩ = some x3 ∧ w.frozen? ⟨b, 0, none⟩ = false ∧ w.frozen? ⟨b, 1, none⟩ = false ∧ w.frozen? ⟨b, 2, none⟩ = false ∧ w.frozen? ⟨b, 3, none⟩ = false := by
  simp [World.cell?, World.frozen?, h]
/-- In a world: the box A that begins with a course, its rods and its moves, all in blocks from B on; R lies behind the course. -/
structure CoAt (B : Nat) (w : World) (A : Nat) (T : TypeId) (R : List Value) (up lo : Int) (sv : Value) (mg mc : Nat) (rs : List (Int × Int)) (ms : List Mv) : Prop where
  ord : B ≤ A
  tne : T ≠ 77 ∧ T ≠ 138
  box : w.heap[A]? = some (.cells (.int .i64 up :: .int .i64 lo :: sv :: .slice (some ⟨mg, 0, none⟩) ms.length mc :: R).toArray T (0, 0))
  rods : w.ownsRow B 77 2 sv rs.length (flat rs)
  moves : w.ownsRow B 138 3 (.slice (some ⟨mg, 0, none⟩) ms.length mc) ms.length (flatC mvC ms)
section
variable {B : Nat} {w : World} {A : Nat} {T : TypeId} {R : List Value} {up lo : Int} {sv : Value} {mg mc : Nat} {rs : List (Int × Int)} {ms : List Mv}
theorem CoAt.lt (h : CoAt B w A T R up lo sv mg mc rs ms) : A < w.heap.size := (Array.getElem?_eq_some_iff.1 h.box).1
theorem CoAt.sne (h : CoAt B w A T R up lo sv mg mc rs ms) : ∀ g, sv.ownBlock = some g → g ≠ A := own_box h.rods h.box h.tne.1
theorem CoAt.mne (h : CoAt B w A T R up lo sv mg mc rs ms) : ∀ g, (Value.slice (some ⟨mg, 0, none⟩) ms.length mc).ownBlock = some g → g ≠ A := own_box h.moves h.box h.tne.2
theorem CoAt.next {w' : World} (h : CoAt B w A T R up lo sv mg mc rs ms) (hb : Below w.heap.size w w') : CoAt B w' A T R up lo sv mg mc rs ms :=
  ⟨h.ord, h.tne, (hb.block _ h.lt).trans h.box, own_below h.rods hb, own_below h.moves hb⟩
/-- The frame is set anew. -/
theorem CoAt.setF {rs' : List (Int × Int)} {sv' : Value} (h : CoAt B w A T R up lo sv mg mc rs ms) (ho : w.ownsRow B 77 2 sv' rs'.length (flat rs')) :
    CoAt B (((w.setCell ⟨A, 0, none⟩ (.int .i64 up)).setCell ⟨A, 1, none⟩ (.int .i64 lo)).setCell ⟨A, 2, none⟩ sv') A T R up lo sv' mg mc rs' ms := by
  have hs := own_box ho h.box h.tne.1
  have hm := h.mne
  refine ⟨h.ord, h.tne, ?_, own_set_box (own_set_box (own_set_box ho hs _ _) hs _ _) hs _ _, own_set_box (own_set_box (own_set_box h.moves hm _ _) hm _ _) hm _ _⟩
  have h1 := heap_setCell_same w A 0 _ _ (.int .i64 up) h.box
  have h2 := heap_setCell_same _ A 1 _ _ (.int .i64 lo) h1
  have h3 := heap_setCell_same _ A 2 _ _ sv' h2
  simpa using h3
/-- The moves are longer now. -/
theorem CoAt.setM {w' : World} {g c' : Nat} {ns : List Mv} (h : CoAt B w A T R up lo sv mg mc rs ms) (ho : w'.ownsRow B 138 3 (.slice (some ⟨g, 0, none⟩) (ms.length + ns.length) c') (ms.length + ns.length) (flatC mvC ms ++ flatC mvC ns)) (hg : w.grownBy w' (some mg)) :
    CoAt B (w'.setCell ⟨A, 3, none⟩ (.slice (some ⟨g, 0, none⟩) (ms.length + ns.length) c')) A T R up lo sv g c' rs (ms ++ ns) := by
  have hb : w'.heap[A]? = _ := (hg.block A h.lt (by intro e; injection e with e; exact h.mne mg rfl e.symm)).trans h.box
  have hr : w'.ownsRow B 77 2 sv rs.length (flat rs) := own_kept2 h.rods h.moves (by decide) hg
  have hs := own_box hr hb h.tne.1
  have hm := own_box ho hb h.tne.2
  rw [← flatC_app] at ho
  have hl : (ms ++ ns).length = ms.length + ns.length := List.length_append
  refine ⟨h.ord, h.tne, ?_, own_set_box hr hs _ _, ?_⟩
  · have h3 := heap_setCell_same w' A 3 _ _ (.slice (some ⟨g, 0, none⟩) (ms.length + ns.length) c') hb
    rw [hl]
    simpa using h3
  · rw [hl]; exact own_set_box ho hm _ _
/-- The cell behind the course is set. -/
theorem CoAt.setC {x : Value} (h : CoAt B w A T [x] up lo sv mg mc rs ms) (y : Value) : CoAt B (w.setCell ⟨A, 4, none⟩ y) A T [y] up lo sv mg mc rs ms := by
  refine ⟨h.ord, h.tne, ?_, own_set_box h.rods h.sne _ _, own_set_box h.moves h.mne _ _⟩
  simpa using heap_setCell_same w A 4 _ _ y h.box
end

set_option maxRecDepth 100000 in
set_option maxHeartbeats 600000 in
theorem coSet_any (B A mg mc : Nat) (up lo : Int) (sv : Value) (rs : List (Int × Int)) (ms : List Mv) (T : TypeId) (R : List Value) (q : Nat) (d : Int) (w : World) (h : CoAt B w A T R up lo sv mg mc rs ms) (hg : goodF up lo rs) (hs : stdF rs) (hq : q < rs.length) (hd0 : 0 ≤ d) (hd1 : d ≤ 9) (hn : ms.length ≤ 200) :
    Calls Try.prog 137 #[.pointer (some ⟨A, 0, none⟩), .int .i64 q, .int .i64 d] w fun e w' => e = .returned (.tuple #[]) ∧ (∃ sv' mg' mc', CoAt B w' A T R up lo sv' mg' mc' (rs.set q (digR d)) (ms ++ turnM q (vAt rs q) d)) ∧ Below B w w' ∧ (∀ b, b < w.heap.size → b ≠ A → b ≠ mg → w'.heap[b]? = w.heap[b]?) := by
  obtain ⟨i0, hi, hz0, hz1, hz2⟩ := info_parts Try.infoBeadMove
  obtain ⟨sa, sc, rfl⟩ := own_form h.rods
  have HA := Lib.hid h
  have HBB : Hid (B ≤ w.heap.size) := Lib.hid (by have := h.ord; have := h.lt; omega)
  have HG := Lib.hid hg
  have HG2 : Hid (goodF up lo (rs.set q (digR d))) := Lib.hid (stdF_good (stdF_set hs q d hd0 hd1) hg.2.1 hg.2.2.1 (by rw [List.length_set]; exact hg.2.2.2))
  have HE := Lib.hid (btwL_set rs hs q hq d)
  have hl8 : rs.length ≤ 8 := hg.2.2.2.2
  obtain ⟨c0, c1, c2, c3, f0, f1, f2, f3⟩ := cell4r h.box
  clear h hg hs
  go_enter Try.func137, Try.ntmps137
  go_wp2_with fail
  refine (implSetRod_ok up lo _ rs _ (RodsR.of_own HA.out.rods) q d HG.out hq hd0 hd1).mono ?_
  rintro e w1 ⟨⟨sq, rfl, ho⟩, hb⟩
  obtain ⟨pq, kq, rfl⟩ := own_form ho
  rw [show Value.slice pq (rs.set q (digR d)).length kq = .slice pq rs.length kq by rw [List.length_set]] at ho
  have HA1 := Lib.hid (HA.out.next hb)
  have HO1 := Lib.hid (own_mono ho HBB.out)
  have HB1 : Hid (Below B w w1) := Lib.hid (hb.mono HBB.out)
  have HW1 : Hid (Below w.heap.size w w1) := Lib.hid hb
  have HS1 : Hid (w.heap.size ≤ w1.heap.size) := Lib.hid hb.size
  clear c0 c1 c2 c3 f0 f1 f2 f3 hb ho
  obtain ⟨c0, c1, c2, c3, f0, f1, f2, f3⟩ := cell4r HA1.out.box
  go_wp2_with fail
  have hb : Below w1.heap.size w1 (w1.alloc (.cells #[.int .i64 up, .int .i64 lo, .slice pq rs.length kq] 42)) := (Below.refl _ _).alloc (Nat.le_refl _) _
  have hk : (w1.alloc (.cells #[.int .i64 up, .int .i64 lo, .slice pq rs.length kq] 42)).heap[w1.heap.size]? = some (.cells #[.int .i64 up, .int .i64 lo, .slice pq rs.length kq] 42 (0, 0)) := alloc_at rfl
  have hl9 : (rs.set q (digR d)).length = rs.length := List.length_set
  generalize (w1.alloc (.cells #[.int .i64 up, .int .i64 lo, .slice pq rs.length kq] 42)) = w2 at hb hk ⊢
  have HA2 := Lib.hid (HA1.out.next hb)
  have HO2 := Lib.hid (own_below HO1.out hb)
  have HB2 : Hid (Below B w w2) := Lib.hid (HB1.out.trans (hb.mono (by have := HBB.out; have := HS1.out; omega)))
  have HW2 : Hid (Below w.heap.size w w2) := Lib.hid (HW1.out.trans (hb.mono HW1.out.size))
  have HT2 := Lib.hid hk
  have HS2 : Hid (B ≤ w2.heap.size) := Lib.hid (by have := hb.size; have := HBB.out; have := HS1.out; omega)
  have HL9 := Lib.hid hl9
  clear c0 c1 c2 c3 f0 f1 f2 f3 hb hk hl9
  obtain ⟨c0, c1, c2, c3, f0, f1, f2, f3⟩ := cell4r HA2.out.box
  obtain ⟨d0, d1, d2, g0, g1, g2⟩ := cell3 HT2.out
  refine wp_region_held_drew (S := (fun u => u.cell? ⟨A, 0, none⟩ = some (.int .i64 up) ∧ u.cell? ⟨A, 1, none⟩ = some (.int .i64 lo) ∧ u.cell? ⟨A, 2, none⟩ = some (.slice sa rs.length sc) ∧ u.cell? ⟨w1.heap.size, 0, none⟩ = some (.int .i64 up) ∧ u.cell? ⟨w1.heap.size, 1, none⟩ = some (.int .i64 lo) ∧ u.cell? ⟨w1.heap.size, 2, none⟩ = some (.slice pq rs.length kq))) (by kernel_rfl) (⟨c0, c1, c2, d0, d1, d2⟩) (fun hHeld => ?_)
  have hb : Below w2.heap.size w2 w2.drew := (Below.refl _ _).drew
  generalize w2.drew = w3 at hb hHeld ⊢
  have HA3 := Lib.hid (HA2.out.next hb)
  have HO3 := Lib.hid (own_below HO2.out hb)
  have HB3 : Hid (Below B w w3) := Lib.hid (HB2.out.trans (hb.mono HS2.out))
  have HW3 : Hid (Below w.heap.size w w3) := Lib.hid (HW2.out.trans (hb.mono HW2.out.size))
  have HT3 := Lib.hid ((hb.block _ (Array.getElem?_eq_some_iff.1 HT2.out).1).trans HT2.out)
  have HS3 : Hid (B ≤ w3.heap.size) := Lib.hid (by have := hb.size; have := HS2.out; omega)
  clear c0 c1 c2 c3 f0 f1 f2 f3 d0 d1 d2 g0 g1 g2 hb
  refine take1 (i := 0) (v := ?v1) (some 21) rfl rfl (by kernel_rfl) (by kernel_rfl) (by kernel_rfl) (fun _ _ _ h => h) (Or.inl ⟨by rfl, ?y1⟩) (by assumption) ?r1
  case y1 => (intro w hSw; (try dsimp only at hSw); go_simp; (first | done | with_reducible rfl))
  try simp only [Act.put, List.setIfInBounds_toArray, List.set_cons_zero, List.set_cons_succ]
  refine take1 (i := 1) (v := ?v2) (some 22) rfl rfl (by kernel_rfl) (by kernel_rfl) (by kernel_rfl) (fun _ _ _ h => h) (Or.inl ⟨by rfl, ?y2⟩) (by assumption) ?r2
  case y2 => (intro w hSw; (try dsimp only at hSw); go_simp; (first | done | with_reducible rfl))
  try simp only [Act.put, List.setIfInBounds_toArray, List.set_cons_zero, List.set_cons_succ]
  refine take1 (i := 2) (v := ?v3) (some 23) rfl rfl (by kernel_rfl) (by kernel_rfl) (by kernel_rfl) (fun _ _ _ h => h) (Or.inl ⟨by rfl, ?y3⟩) (by assumption) ?r3
  case y3 => (intro w hSw; (try dsimp only at hSw); go_simp; (first | done | with_reducible rfl))
  try simp only [Act.put, List.setIfInBounds_toArray, List.set_cons_zero, List.set_cons_succ]
  refine take1 (i := 3) (v := ?v4) (some 24) rfl rfl (by kernel_rfl) (by kernel_rfl) (by kernel_rfl) (fun _ _ _ h => h) (Or.inl ⟨by rfl, ?y4⟩) (by assumption) ?r4
  case y4 => (intro w hSw; (try dsimp only at hSw); go_simp; (first | done | with_reducible rfl))
  try simp only [Act.put, List.setIfInBounds_toArray, List.set_cons_zero, List.set_cons_succ]
  refine take1 (i := 4) (v := ?v5) (some 25) rfl rfl (by kernel_rfl) (by kernel_rfl) (by kernel_rfl) (fun _ _ _ h => h) (Or.inl ⟨by rfl, ?y5⟩) (by assumption) ?r5
  case y5 => (intro w hSw; (try dsimp only at hSw); go_simp; (first | done | with_reducible rfl))
  try simp only [Act.put, List.setIfInBounds_toArray, List.set_cons_zero, List.set_cons_succ]
  refine wpAnyH_ready (rs := [5]) (by kernel_rfl) (by simp) ?_
  refine AllReadyH.cons rfl (fun K hK => ?_) AllReadyH.nil
  go_simp
  go_at_call 141
  refine (implBetween_in up lo _ rs _ (rs.set q (digR d)) _ (RodsR.of_own HA3.out.rods) (RodsR.of_own HO3.out) HG.out HG2.out HL9.out.symm).mono ?_
  rintro e w4 ⟨⟨sm, rfl, ho⟩, hb⟩
  rw [HE.out] at ho
  obtain ⟨pm, km, rfl⟩ := own_form ho
  have HA4 := Lib.hid (HA3.out.next hb)
  have HO4 := Lib.hid (own_below HO3.out hb)
  have HM4 := Lib.hid (own_mono ho HS3.out)
  have HB4 : Hid (Below B w w4) := Lib.hid (HB3.out.trans (hb.mono HS3.out))
  have HW4 : Hid (Below w.heap.size w w4) := Lib.hid (HW3.out.trans (hb.mono HW3.out.size))
  have HT4 := Lib.hid ((hb.block _ (Array.getElem?_eq_some_iff.1 HT3.out).1).trans HT3.out)
  have HS4 : Hid (B ≤ w4.heap.size) := Lib.hid (by have := hb.size; have := HS3.out; omega)
  clear hb ho
  obtain ⟨c0, c1, c2, c3, f0, f1, f2, f3⟩ := cell4r HA4.out.box
  obtain ⟨d0, d1, d2, g0, g1, g2⟩ := cell3 HT4.out
  try go_simp
  refine hK.out _ _ (⟨c0, c1, c2, d0, d1, d2⟩) (fun hHeld => ?_)
  clear hK K
  try simp only [Act.put, List.setIfInBounds_toArray, List.set_cons_zero, List.set_cons_succ]
  refine take1 (i := 6) (v := ?v6) (some 20) rfl rfl (by kernel_rfl) (by kernel_rfl) (by kernel_rfl) (fun _ _ _ h => h) (Or.inl ⟨by rfl, ?y6⟩) (by assumption) ?r6
  case y6 => (intro w hSw; (try dsimp only at hSw); go_simp; (first | done | with_reducible rfl))
  try simp only [Act.put, List.setIfInBounds_toArray, List.set_cons_zero, List.set_cons_succ]
  refine take1 (i := 7) (v := ?v7) (some 27) rfl rfl (by kernel_rfl) (by kernel_rfl) (by kernel_rfl) (fun _ _ _ h => h) (Or.inl ⟨by rfl, ?y7⟩) (by assumption) ?r7
  case y7 => (intro w hSw; (try dsimp only at hSw); go_simp; (first | done | with_reducible rfl))
  try simp only [Act.put, List.setIfInBounds_toArray, List.set_cons_zero, List.set_cons_succ]
  refine take1 (i := 8) (v := ?v8) (some 28) rfl rfl (by kernel_rfl) (by kernel_rfl) (by kernel_rfl) (fun _ _ _ h => h) (Or.inl ⟨by rfl, ?y8⟩) (by assumption) ?r8
  case y8 => (intro w hSw; (try dsimp only at hSw); go_simp; (first | done | with_reducible rfl))
  try simp only [Act.put, List.setIfInBounds_toArray, List.set_cons_zero, List.set_cons_succ]
  refine take1 (i := 9) (v := ?v9) (some 8) rfl rfl (by kernel_rfl) (by kernel_rfl) (by kernel_rfl) (fun _ _ _ h => h) (Or.inl ⟨by rfl, ?y9⟩) (by assumption) ?r9
  case y9 => (intro w hSw; (try dsimp only at hSw); go_simp; (first | done | with_reducible rfl))
  try simp only [Act.put, List.setIfInBounds_toArray, List.set_cons_zero, List.set_cons_succ]
  refine take1 (i := 10) (v := ?v10) (some 9) rfl rfl (by kernel_rfl) (by kernel_rfl) (by kernel_rfl) (fun _ _ _ h => h) (Or.inl ⟨by rfl, ?y10⟩) (by assumption) ?r10
  case y10 => (intro w hSw; (try dsimp only at hSw); go_simp; (first | done | with_reducible rfl))
  try simp only [Act.put, List.setIfInBounds_toArray, List.set_cons_zero, List.set_cons_succ]
  refine wpAnyH_done (by kernel_rfl) ?_ _
  -- the frame is stored: the world behind it
  obtain ⟨W, hW⟩ : ∃ W, (((w4.setCell ⟨A, 0, none⟩ (.int .i64 up)).setCell ⟨A, 1, none⟩ (.int .i64 lo)).setCell ⟨A, 2, none⟩ (.slice pq rs.length kq)) = W := ⟨_, rfl⟩
  have h5 := HA4.out.setF (rs' := rs.set q (digR d)) (sv' := .slice pq rs.length kq) HO4.out
  have b5 : Below B w4 (((w4.setCell ⟨A, 0, none⟩ (.int .i64 up)).setCell ⟨A, 1, none⟩ (.int .i64 lo)).setCell ⟨A, 2, none⟩ (.slice pq rs.length kq)) := bl_set3 (Below.refl _ _) HA4.out.ord _ _ _
  have hwb : ∀ b, b ≠ A → W.heap[b]? = w4.heap[b]? := fun b hA => by
    rw [← hW, Below.heap_setCell _ ⟨A, 2, none⟩ _ b hA, Below.heap_setCell _ ⟨A, 1, none⟩ _ b hA, Below.heap_setCell _ ⟨A, 0, none⟩ _ b hA]
  have HWB := Lib.hid hwb
  have HWS : Hid (W.heap.size = w4.heap.size) := Lib.hid (by rw [← hW]; simp)
  clear hwb
  rw [hW] at h5 b5
  obtain ⟨e0, e1, e2, e3, m0, m1, m2, m3⟩ := cell4r h5.box
  have H5 := Lib.hid h5
  have B5 := Lib.hid b5
  clear h5 b5
  have HM5 : Hid (W.ownsRow B 138 3 (.slice pm (turnM q (vAt rs q) d).length km) (turnM q (vAt rs q) d).length (flatC mvC (turnM q (vAt rs q) d))) := Lib.hid (by
    rw [← hW]
    have hne := own_box HM4.out HA4.out.box HA4.out.tne.2
    exact own_set_box (own_set_box (own_set_box HM4.out hne _ _) hne _ _) hne _ _)
  have HS5 : Hid (B ≤ W.heap.size) := Lib.hid (by have := H5.out.lt; have := H5.out.ord; omega)
  have htl := turnM_len q (vAt rs q) d
  go_wp2_with (at_builtin; refine wpList_append_rows (w := W) rfl _ _ 81 rfl B 138 i0 (.agg #[.int .i64 0, .int .i64 0, .int .i64 0]) 3 24 Try.underlying81 hi hz0 hz1 hz2 rfl (by decide) mvC_len mvC_one mg ms.length mc (flatC mvC ms) rfl H5.out.moves pm km (turnM q (vAt rs q) d) rfl ?c2 ?c3 ?c4 ?c5 ?_)
  case c2 =>
    rcases (RowsR.of_own mvC_len HM5.out).src mvC_len (by decide) with h | ⟨ad, e1, h⟩
    · exact Or.inl h
    · exact Or.inr ⟨ad, e1, fun j u hj => h W (Below.refl _ _) j u hj⟩
  case c3 => unfold maxLen; omega
  case c4 => omega
  case c5 => exact HS5.out
  intro g c' w6 ho6 hg6 _
  have hA6 := H5.out.setM ho6 hg6
  have hkp : ∀ b, b < w.heap.size → b ≠ A → b ≠ mg → w6.heap[b]? = w.heap[b]? := by
    intro b hbl hA hmg
    have hW4 : b < W.heap.size := by have := HW4.out.size; have := HWS.out; omega
    rw [hg6.block b hW4 (by intro e; injection e with e; exact hmg e), HWB.out b hA]
    exact HW4.out.block b hbl
  have HKP := Lib.hid hkp
  clear hkp
  have hb6 : Below B w w6 := (HB4.out.trans B5.out).grown hg6 (by have := HS5.out; omega) (fun q hq => by cases hq; exact (H5.out.moves.lt mg rfl).1)
  have hbx : w6.heap[A]? = _ := (hg6.block A H5.out.lt (by intro e; injection e with e; exact H5.out.mne mg rfl e.symm)).trans H5.out.box
  clear e0 e1 e2 e3 m0 m1 m2 m3
  obtain ⟨e0, e1, e2, e3, m0, m1, m2, m3⟩ := cell4r hbx
  have HA6 := Lib.hid hA6
  have HB6 := Lib.hid hb6
  have hord := HA6.out.ord
  clear hA6 hb6 hbx ho6 hg6
  go_wp2_with fail
  go_end0
  exact ⟨rfl, ⟨_, _, _, HA6.out⟩, HB6.out.setCell (p := ⟨A, 3, none⟩) hord _, fun b h1 h2 h3 => (Below.heap_setCell _ ⟨A, 3, none⟩ _ b h2).trans (HKP.out b h1 h2 h3)⟩
/-- Blocks that hold no moves, the box A left out, are as they were. -/
def KeepT (w w' : World) (A : Nat) : Prop := ∀ b cs T fr, w.heap[b]? = some (.cells cs T fr) → T ≠ 138 → b ≠ A → w'.heap[b]? = w.heap[b]?
theorem KeepT.of_below {w w' : World} {A : Nat} (hb : Below w.heap.size w w') : KeepT w w' A := fun b _ _ _ h _ _ => hb.block b (Array.getElem?_eq_some_iff.1 h).1
theorem KeepT.trans {w w1 w2 : World} {A : Nat} (h1 : KeepT w w1 A) (h2 : KeepT w1 w2 A) : KeepT w w2 A := fun b cs T fr h ht ha => by
  have e := h1 b cs T fr h ht ha
  exact (h2 b cs T fr (e.trans h) ht ha).trans e
theorem KeepT.setA (w : World) (A i : Nat) (v : Value) : KeepT w (w.setCell ⟨A, i, none⟩ v) A := fun b _ _ _ _ _ ha => Below.heap_setCell w ⟨A, i, none⟩ v b ha
theorem KeepT.of_keep {w w' : World} {A mg n mc B : Nat} {xs : List Value} (hm : w.ownsRow B 138 3 (.slice (some ⟨mg, 0, none⟩) n mc) n xs) (hk : ∀ b, b < w.heap.size → b ≠ A → b ≠ mg → w'.heap[b]? = w.heap[b]?) : KeepT w w' A := fun b cs T fr h ht ha => by
  refine hk b (Array.getElem?_eq_some_iff.1 h).1 ha (fun e => ?_)
  subst e
  obtain ⟨cur, hc⟩ := own_heap hm (q := b) rfl
  rw [h] at hc
  injection hc with hc
  injection hc with _ h3 _
  exact ht h3
theorem own_keepT {w w' : World} {A B : Nat} {e : TypeId} {size n : Nat} {v : Value} {xs : List Value} (h : w.ownsRow B e size v n xs) (hk : KeepT w w' A) (he : e ≠ 138) (hA : ∀ g, v.ownBlock = some g → g ≠ A) : w'.ownsRow B e size v n xs :=
  own_of_block h fun g hg => by
    obtain ⟨cur, hc⟩ := own_heap h hg
    exact hk g _ _ _ hc he (hA g hg)
end Go.Proofs.Ythmbehknacjodaa
