/- The model's l4Alike, l4Between, MovesBetween. -/
import Derived.Test.YtpdckmhhmgkaaaaMundo
import Derived.Test.YtpdckmhhmgkaaaaGood
import Derived.Deep.QuietTactic
namespace Go.Proofs.Ytpdckmhhmgkaaaa
set_option linter.unusedVariables false
open Go.RowKit

def alikeF (u1 l1 : Int) (rs1 : List (Int × Int)) (u2 l2 : Int) (rs2 : List (Int × Int)) : Prop := goodF u1 l1 rs1 ∧ goodF u2 l2 rs2 ∧ u1 = u2 ∧ l1 = l2 ∧ rs1.length = rs2.length
def at2 (r : Int × Int) (p : Nat) : Int := if p = 0 then r.1 else r.2
/-- The moves of one part of one rod. -/
def btw1 (i p : Nat) (x y : Int × Int) : List Mv := if at2 y p - at2 x p = 0 then [] else [⟨i, p, at2 y p - at2 x p⟩]
def btwL (rs1 rs2 : List (Int × Int)) (t : Nat) : List Mv := (List.range t).flatMap fun s => btw1 (s / 2) (s % 2) (rs1.getD (s / 2) (0, 0)) (rs2.getD (s / 2) (0, 0))
theorem btwL_snoc (rs1 rs2 : List (Int × Int)) (i p : Nat) (hp : p < 2) (h1 : i < rs1.length) (h2 : i < rs2.length) : btwL rs1 rs2 (2 * i + p + 1) = btwL rs1 rs2 (2 * i + p) ++ btw1 i p rs1[i] rs2[i] := by
  unfold btwL
  rw [List.range_succ, List.flatMap_append]
  have e1 : (2 * i + p) / 2 = i := by omega
  have e2 : (2 * i + p) % 2 = p := by omega
  simp [e1, e2, List.getD_eq_getElem?_getD, List.getElem?_eq_getElem h1, List.getElem?_eq_getElem h2]
theorem btw1_len (i p : Nat) (x y : Int × Int) : (btw1 i p x y).length ≤ 1 := by unfold btw1; split <;> simp
theorem btwL_len (rs1 rs2 : List (Int × Int)) (t : Nat) : (btwL rs1 rs2 t).length ≤ t := by
  induction t with
  | zero => simp [btwL]
  | succ t ih =>
    have := btw1_len (t / 2) (t % 2) (rs1.getD (t / 2) (0, 0)) (rs2.getD (t / 2) (0, 0))
    unfold btwL at ih ⊢
    rw [List.range_succ, List.flatMap_append, List.length_append]
    simp only [List.flatMap_cons, List.flatMap_nil, List.append_nil]
    omega

set_option maxRecDepth 100000 in
set_option maxHeartbeats 3200000 in
theorem l4Alike_any (u1 l1 : Int) (s1 : Value) (rs1 : List (Int × Int)) (u2 l2 : Int) (s2 : Value) (rs2 : List (Int × Int)) (w : World) (h1 : RodsR w s1 rs1) (h2 : RodsR w s2 rs2) (r : Bool) (hr : r = true ↔ alikeF u1 l1 rs1 u2 l2 rs2) :
    Calls Try.prog 69 #[.agg #[.int .i64 u1, .int .i64 l1, s1], .agg #[.int .i64 u2, .int .i64 l2, s2]] w fun e w' => e = .returned (.bool r) ∧ Below w.heap.size w w' := by
  obtain ⟨a1, c1, rfl⟩ : ∃ a c, s1 = .slice a rs1.length c := by obtain ⟨a, c, e, _⟩ := h1; exact ⟨a, c, e⟩
  obtain ⟨a2, c2, rfl⟩ : ∃ a c, s2 = .slice a rs2.length c := by obtain ⟨a, c, e, _⟩ := h2; exact ⟨a, c, e⟩
  have HR := Lib.hid hr
  have HB0 : Hid (Below w.heap.size w w) := Lib.hid (Below.refl _ _)
  have HRf0 := Lib.hid (h1)
  have HRg0 := Lib.hid (h2)
  clear h1 h2 hr
  go_enter Try.func69, Try.ntmps69
  go_wp2_with fail
  have hb : Below w.heap.size w (w.alloc (.cells #[.int .i64 u1, .int .i64 l1, .slice a1 rs1.length c1] 28)) := (Below.refl _ _).alloc (Nat.le_refl _) _
  have hk : (w.alloc (.cells #[.int .i64 u1, .int .i64 l1, .slice a1 rs1.length c1] 28)).heap[w.heap.size]? = some (.cells #[.int .i64 u1, .int .i64 l1, .slice a1 rs1.length c1] 28 (0, 0)) := alloc_at rfl
  have hz : (w.alloc (.cells #[.int .i64 u1, .int .i64 l1, .slice a1 rs1.length c1] 28)).heap.size = w.heap.size + 1 := by simp
  generalize w.alloc (.cells #[.int .i64 u1, .int .i64 l1, .slice a1 rs1.length c1] 28) = w1 at hb hk hz ⊢
  have HB1 : Hid (Below w.heap.size w w1) := Lib.hid (HB0.out.trans (hb.mono HB0.out.size))
  have HZ1 : Hid (w.heap.size ≤ w1.heap.size) := Lib.hid hb.size
  have HRf1 := Lib.hid (HRf0.out.below HB1.out (Nat.le_refl _))
  have HRg1 := Lib.hid (HRg0.out.below HB1.out (Nat.le_refl _))
  have HKf1 := Lib.hid hk
  replace HZ1 : Hid (w.heap.size < w1.heap.size) := Lib.hid (by omega)
  have HE1 := Lib.hid hz
  clear hb hk hz
  have hb : Below w1.heap.size w1 (w1.alloc (.cells #[.int .i64 u2, .int .i64 l2, .slice a2 rs2.length c2] 28)) := (Below.refl _ _).alloc (Nat.le_refl _) _
  have hk : (w1.alloc (.cells #[.int .i64 u2, .int .i64 l2, .slice a2 rs2.length c2] 28)).heap[w.heap.size + 1]? = some (.cells #[.int .i64 u2, .int .i64 l2, .slice a2 rs2.length c2] 28 (0, 0)) := alloc_at (by have := HE1.out; omega)
  have hz : (w1.alloc (.cells #[.int .i64 u2, .int .i64 l2, .slice a2 rs2.length c2] 28)).heap.size = w1.heap.size + 1 := by simp
  generalize w1.alloc (.cells #[.int .i64 u2, .int .i64 l2, .slice a2 rs2.length c2] 28) = w2 at hb hk hz ⊢
  have HB2 : Hid (Below w.heap.size w w2) := Lib.hid (HB1.out.trans (hb.mono HB1.out.size))
  have HZ2 : Hid (w1.heap.size ≤ w2.heap.size) := Lib.hid hb.size
  have HRf2 := Lib.hid (HRf0.out.below HB2.out (Nat.le_refl _))
  have HRg2 := Lib.hid (HRg0.out.below HB2.out (Nat.le_refl _))
  have HKf2 := Lib.hid ((hb.block _ (lt_of_block HKf1.out)).trans HKf1.out)
  have HKg2 := Lib.hid hk
  replace HZ2 : Hid (w1.heap.size < w2.heap.size) := Lib.hid (by omega)
  have HE2 := Lib.hid hz
  clear hb hk hz
  have ltf := lt_of_block HKf2.out
  obtain ⟨cf0, cf1, cf2, ff0, ff1, ff2⟩ := cell3 HKf2.out
  have ltg := lt_of_block HKg2.out
  obtain ⟨cg0, cg1, cg2, fg0, fg1, fg2⟩ := cell3 HKg2.out
  by_cases hg1 : goodF u1 l1 rs1
  · have HG1 := Lib.hid hg1
    clear hg1
    refine (l2Good_yes _ _ _ _ _ HRf2.out HG1.out).mono ?_
    rintro e w3 ⟨rfl, hb⟩
    have HB3 : Hid (Below w.heap.size w w3) := Lib.hid (HB2.out.trans (hb.mono HB2.out.size))
    have HZ3 : Hid (w2.heap.size ≤ w3.heap.size) := Lib.hid hb.size
    have HRf3 := Lib.hid (HRf0.out.below HB3.out (Nat.le_refl _))
    have HRg3 := Lib.hid (HRg0.out.below HB3.out (Nat.le_refl _))
    have HKf3 := Lib.hid ((hb.block _ (lt_of_block HKf2.out)).trans HKf2.out)
    have HKg3 := Lib.hid ((hb.block _ (lt_of_block HKg2.out)).trans HKg2.out)
    clear hb
    clear cf0 cf1 cf2 ff0 ff1 ff2 ltf cg0 cg1 cg2 fg0 fg1 fg2 ltg
    have ltf := lt_of_block HKf3.out
    obtain ⟨cf0, cf1, cf2, ff0, ff1, ff2⟩ := cell3 HKf3.out
    have ltg := lt_of_block HKg3.out
    obtain ⟨cg0, cg1, cg2, fg0, fg1, fg2⟩ := cell3 HKg3.out
    go_wp2_with fail
    by_cases hg2 : goodF u2 l2 rs2
    · have HG2 := Lib.hid hg2
      clear hg2
      refine (l2Good_yes _ _ _ _ _ HRg3.out HG2.out).mono ?_
      rintro e w4 ⟨rfl, hb⟩
      have HB4 : Hid (Below w.heap.size w w4) := Lib.hid (HB3.out.trans (hb.mono HB3.out.size))
      have HZ4 : Hid (w3.heap.size ≤ w4.heap.size) := Lib.hid hb.size
      have HRf4 := Lib.hid (HRf0.out.below HB4.out (Nat.le_refl _))
      have HRg4 := Lib.hid (HRg0.out.below HB4.out (Nat.le_refl _))
      have HKf4 := Lib.hid ((hb.block _ (lt_of_block HKf3.out)).trans HKf3.out)
      have HKg4 := Lib.hid ((hb.block _ (lt_of_block HKg3.out)).trans HKg3.out)
      clear hb
      clear cf0 cf1 cf2 ff0 ff1 ff2 ltf cg0 cg1 cg2 fg0 fg1 fg2 ltg
      have ltf := lt_of_block HKf4.out
      obtain ⟨cf0, cf1, cf2, ff0, ff1, ff2⟩ := cell3 HKf4.out
      have ltg := lt_of_block HKg4.out
      obtain ⟨cg0, cg1, cg2, fg0, fg1, fg2⟩ := cell3 HKg4.out
      by_cases e1 : u1 = u2
      · by_cases e2 : l1 = l2
        · by_cases e3 : rs1.length = rs2.length
          · have HN := Lib.hid (HR.out.2 ⟨HG1.out, HG2.out, e1, e2, e3⟩)
            have b1 : (u1 == u2) = true := by simp [e1]
            have b2 : (l1 == l2) = true := by simp [e2]
            have b3 : ((rs1.length : Int) == (rs2.length : Int)) = true := by simp [e3]
            clear e1 e2 e3
            go_wp2_with fail
            go_ret
            exact ⟨ret_bool HN.out.symm, HB4.out⟩
          · have HN := Lib.hid (show r = false from Bool.eq_false_iff.2 fun e => e3 (HR.out.1 e).2.2.2.2)
            have b1 : (u1 == u2) = true := by simp [e1]
            have b2 : (l1 == l2) = true := by simp [e2]
            have b3 : ((rs1.length : Int) == (rs2.length : Int)) = false := by simp; omega
            clear e1 e2 e3
            go_wp2_with fail
            go_ret
            exact ⟨ret_bool HN.out.symm, HB4.out⟩
        · have HN := Lib.hid (show r = false from Bool.eq_false_iff.2 fun e => e2 (HR.out.1 e).2.2.2.1)
          have b1 : (u1 == u2) = true := by simp [e1]
          have b2 : (l1 == l2) = false := by simp [e2]
          clear e1 e2
          go_wp2_with fail
          go_ret
          exact ⟨ret_bool HN.out.symm, HB4.out⟩
      · have HN := Lib.hid (show r = false from Bool.eq_false_iff.2 fun e => e1 (HR.out.1 e).2.2.1)
        have b1 : (u1 == u2) = false := by simp [e1]
        clear e1
        go_wp2_with fail
        go_ret
        exact ⟨ret_bool HN.out.symm, HB4.out⟩
    · have HN := Lib.hid (show r = false from Bool.eq_false_iff.2 fun e => hg2 (HR.out.1 e).2.1)
      have HG2 := Lib.hid hg2
      clear hg2
      refine (l2Good_no _ _ _ _ _ HRg3.out HG2.out).mono ?_
      rintro e w4 ⟨rfl, hb⟩
      have HB4 : Hid (Below w.heap.size w w4) := Lib.hid (HB3.out.trans (hb.mono HB3.out.size))
      have HZ4 : Hid (w3.heap.size ≤ w4.heap.size) := Lib.hid hb.size
      have HRf4 := Lib.hid (HRf0.out.below HB4.out (Nat.le_refl _))
      have HRg4 := Lib.hid (HRg0.out.below HB4.out (Nat.le_refl _))
      have HKf4 := Lib.hid ((hb.block _ (lt_of_block HKf3.out)).trans HKf3.out)
      have HKg4 := Lib.hid ((hb.block _ (lt_of_block HKg3.out)).trans HKg3.out)
      clear hb
      clear cf0 cf1 cf2 ff0 ff1 ff2 ltf cg0 cg1 cg2 fg0 fg1 fg2 ltg
      have ltf := lt_of_block HKf4.out
      obtain ⟨cf0, cf1, cf2, ff0, ff1, ff2⟩ := cell3 HKf4.out
      have ltg := lt_of_block HKg4.out
      obtain ⟨cg0, cg1, cg2, fg0, fg1, fg2⟩ := cell3 HKg4.out
      go_wp2_with fail
      go_ret
      exact ⟨ret_bool HN.out.symm, HB4.out⟩
  · have HN := Lib.hid (show r = false from Bool.eq_false_iff.2 fun e => hg1 (HR.out.1 e).1)
    have HG1 := Lib.hid hg1
    clear hg1
    refine (l2Good_no _ _ _ _ _ HRf2.out HG1.out).mono ?_
    rintro e w3 ⟨rfl, hb⟩
    have HB3 : Hid (Below w.heap.size w w3) := Lib.hid (HB2.out.trans (hb.mono HB2.out.size))
    have HZ3 : Hid (w2.heap.size ≤ w3.heap.size) := Lib.hid hb.size
    have HRf3 := Lib.hid (HRf0.out.below HB3.out (Nat.le_refl _))
    have HRg3 := Lib.hid (HRg0.out.below HB3.out (Nat.le_refl _))
    have HKf3 := Lib.hid ((hb.block _ (lt_of_block HKf2.out)).trans HKf2.out)
    have HKg3 := Lib.hid ((hb.block _ (lt_of_block HKg2.out)).trans HKg2.out)
    clear hb
    clear cf0 cf1 cf2 ff0 ff1 ff2 ltf cg0 cg1 cg2 fg0 fg1 fg2 ltg
    have ltf := lt_of_block HKf3.out
    obtain ⟨cf0, cf1, cf2, ff0, ff1, ff2⟩ := cell3 HKf3.out
    have ltg := lt_of_block HKg3.out
    obtain ⟨cg0, cg1, cg2, fg0, fg1, fg2⟩ := cell3 HKg3.out
    go_wp2_with fail
    go_ret
    exact ⟨ret_bool HN.out.symm, HB3.out⟩

theorem at2_bd {up lo : Int} {r : Int × Int} (h : rodOk up lo r) (hu : 1 ≤ up ∧ up ≤ 2) (hl : 4 ≤ lo ∧ lo ≤ 5) (p : Nat) : 0 ≤ at2 r p ∧ at2 r p ≤ 5 := by
  unfold rodOk at h; unfold at2; split <;> omega

set_option maxRecDepth 100000 in
set_option maxHeartbeats 6400000 in
theorem l4Between_any (up lo : Int) (s1 : Value) (rs1 : List (Int × Int)) (s2 : Value) (rs2 : List (Int × Int)) (w : World) (h1 : RodsR w s1 rs1) (h2 : RodsR w s2 rs2) (g1 : goodF up lo rs1) (g2 : goodF up lo rs2) (hl : rs1.length = rs2.length) :
    Calls Try.prog 70 #[.agg #[.int .i64 up, .int .i64 lo, s1], .agg #[.int .i64 up, .int .i64 lo, s2]] w fun e w' => (∃ sq, e = .returned sq ∧ w'.ownsRow w.heap.size 38 3 sq (btwL rs1 rs2 (2 * rs1.length)).length (flatC mvC (btwL rs1 rs2 (2 * rs1.length)))) ∧ Below w.heap.size w w' := by
  obtain ⟨i0, hi, hz0, hz1, hz2⟩ := info_parts Try.infoBeadMove
  obtain ⟨a1, c1, rfl⟩ : ∃ a c, s1 = .slice a rs1.length c := by obtain ⟨a, c, e, _⟩ := h1; exact ⟨a, c, e⟩
  obtain ⟨a2, c2, rfl⟩ : ∃ a c, s2 = .slice a rs2.length c := by obtain ⟨a, c, e, _⟩ := h2; exact ⟨a, c, e⟩
  have hl8 : rs1.length ≤ 8 := g1.2.2.2.2
  have hl82 : rs2.length ≤ 8 := g2.2.2.2.2
  have A1 := Lib.hid (rods_at h1)
  have A2 := Lib.hid (rods_at h2)
  have G1 := Lib.hid (fun k (hk : k < rs1.length) p => at2_bd (g1.1 k hk) g1.2.1 g1.2.2.1 p)
  have G2 := Lib.hid (fun k (hk : k < rs2.length) p => at2_bd (g2.1 k hk) g1.2.1 g1.2.2.1 p)
  have HL := Lib.hid hl
  have HB0 : Hid (Below w.heap.size w w) := Lib.hid (Below.refl _ _)
  clear h1 h2 g1 g2 hl
  go_enter Try.func70, Try.ntmps70
  go_wp2_with fail
  have hb : Below w.heap.size w (w.alloc (.cells #[.int .i64 up, .int .i64 lo, .slice a1 rs1.length c1] 28)) := (Below.refl _ _).alloc (Nat.le_refl _) _
  have hk : (w.alloc (.cells #[.int .i64 up, .int .i64 lo, .slice a1 rs1.length c1] 28)).heap[w.heap.size]? = some (.cells #[.int .i64 up, .int .i64 lo, .slice a1 rs1.length c1] 28 (0, 0)) := alloc_at rfl
  have hz : (w.alloc (.cells #[.int .i64 up, .int .i64 lo, .slice a1 rs1.length c1] 28)).heap.size = w.heap.size + 1 := by simp
  generalize w.alloc (.cells #[.int .i64 up, .int .i64 lo, .slice a1 rs1.length c1] 28) = w1 at hb hk hz ⊢
  have HB1 : Hid (Below w.heap.size w w1) := Lib.hid (HB0.out.trans (hb.mono HB0.out.size))
  have HZ1 : Hid (w.heap.size ≤ w1.heap.size) := Lib.hid hb.size
  have HKf1 := Lib.hid hk
  replace HZ1 : Hid (w.heap.size < w1.heap.size) := Lib.hid (by omega)
  have HE1 := Lib.hid hz
  clear hb hk hz
  have hb : Below w1.heap.size w1 (w1.alloc (.cells #[.int .i64 up, .int .i64 lo, .slice a2 rs2.length c2] 28)) := (Below.refl _ _).alloc (Nat.le_refl _) _
  have hk : (w1.alloc (.cells #[.int .i64 up, .int .i64 lo, .slice a2 rs2.length c2] 28)).heap[w.heap.size + 1]? = some (.cells #[.int .i64 up, .int .i64 lo, .slice a2 rs2.length c2] 28 (0, 0)) := alloc_at (by have := HE1.out; omega)
  have hz : (w1.alloc (.cells #[.int .i64 up, .int .i64 lo, .slice a2 rs2.length c2] 28)).heap.size = w1.heap.size + 1 := by simp
  generalize w1.alloc (.cells #[.int .i64 up, .int .i64 lo, .slice a2 rs2.length c2] 28) = w2 at hb hk hz ⊢
  have HB2 : Hid (Below w.heap.size w w2) := Lib.hid (HB1.out.trans (hb.mono HB1.out.size))
  have HZ2 : Hid (w1.heap.size ≤ w2.heap.size) := Lib.hid hb.size
  have HKf2 := Lib.hid ((hb.block _ (lt_of_block HKf1.out)).trans HKf1.out)
  have HKg2 := Lib.hid hk
  replace HZ2 : Hid (w1.heap.size < w2.heap.size) := Lib.hid (by omega)
  have HE2 := Lib.hid hz
  clear hb hk hz
  have ltf := lt_of_block HKf2.out
  obtain ⟨cf0, cf1, cf2, ff0, ff1, ff2⟩ := cell3 HKf2.out
  have ltg := lt_of_block HKg2.out
  obtain ⟨cg0, cg1, cg2, fg0, fg1, fg2⟩ := cell3 HKg2.out
  have HO := Lib.hid (World.ownsRow_made (base := w2.heap.size) (e := 38) (size := 3) w2 #[] 0 (Nat.le_refl _) (Nat.zero_le _) (by simp))
  go_wp2_with fail
  go_loopw [5, 6] (fun out i wr => ∃ k : Nat, k ≤ rs1.length ∧ i = .int .i64 k ∧ wr.ownsRow w2.heap.size 38 3 out (btwL rs1 rs2 (2 * k)).length (flatC mvC (btwL rs1 rs2 (2 * k))) ∧ Below w2.heap.size w2 wr) (fun _ i _ => rs1.length - (intOf i).toNat)
  case atStart =>
    have hz : w.heap.size + 1 + 1 = w2.heap.size := by have := HE1.out; have := HE2.out; omega
    rw [hz]
    exact ⟨0, Nat.zero_le _, rfl, HO.out, (Below.refl _ _).alloc (Nat.le_refl _) _⟩
  case round =>
    obtain ⟨k, hk, rfl, hown, hb⟩ := hrel
    rename World => wo
    have HB3 := Lib.hid hb
    have HO3 := Lib.hid hown
    have d2 := (hb.cell (p := ⟨w.heap.size, 2, none⟩) ltf).trans cf2
    have hsz := hb.size
    clear hb hown
    by_cases hlt : k < rs1.length
    · have z1 : (0 : Int) ≤ (k : Int) := by omega
      have z2 : (k : Int) < (rs1.length : Int) := by omega
      have hlt2 : k < rs2.length := by have := HL.out; omega
      have z3 : (k : Int) < (rs2.length : Int) := by omega
      go_wp2_with fail
      go_loopw [5, 7] (fun out i wi => ∃ p : Nat, p ≤ 2 ∧ i = .int .i64 p ∧ wi.ownsRow w2.heap.size 38 3 out (btwL rs1 rs2 (2 * k + p)).length (flatC mvC (btwL rs1 rs2 (2 * k + p))) ∧ Below w2.heap.size w2 wi) (fun _ i _ => 2 - (intOf i).toNat)
      case atStart => exact ⟨0, Nat.zero_le _, rfl, HO3.out, HB3.out⟩
      case round =>
        obtain ⟨p, hp, rfl, hown, hb⟩ := hrel
        rename World => wi
        have HB4 := Lib.hid hb
        have HO4 := Lib.hid hown
        have HBW : Hid (Below w.heap.size w wi) := Lib.hid (HB2.out.trans (hb.mono HB2.out.size))
        have e2 := (hb.cell (p := ⟨w.heap.size, 2, none⟩) ltf).trans cf2
        have q2 := (hb.cell (p := ⟨w.heap.size + 1, 2, none⟩) ltg).trans cg2
        have hll := btwL_len rs1 rs2 (2 * k + p)
        have HSZ := Lib.hid hb.size
        clear hb hown
        by_cases hp2 : p < 2
        · have y1 : (0 : Int) ≤ (p : Int) := by omega
          have y2 : (p : Int) < 2 := by omega
          obtain ⟨b1, o1, rfl, m0, m1⟩ := A1.out _ HBW.out k hlt
          obtain ⟨b2, o2, rfl, n0, n1⟩ := A2.out _ HBW.out k hlt2
          have p1 : wi.cell? ⟨b1, o1 + k * 2 + p, none⟩ = some (.int .i64 (at2 rs1[k] p)) := by
            rcases (show p = 0 ∨ p = 1 by omega) with rfl | rfl
            · exact m0
            · exact m1
          have p2 : wi.cell? ⟨b2, o2 + k * 2 + p, none⟩ = some (.int .i64 (at2 rs2[k] p)) := by
            rcases (show p = 0 ∨ p = 1 by omega) with rfl | rfl
            · exact n0
            · exact n1
          obtain ⟨x0, x1⟩ := G1.out k hlt p
          obtain ⟨v0, v1⟩ := G2.out k hlt2 p
          have HSN := Lib.hid (btwL_snoc rs1 rs2 k p hp2 hlt hlt2)
          obtain ⟨x, hx⟩ : ∃ x, at2 rs1[k] p = x := ⟨_, rfl⟩
          obtain ⟨y, hy⟩ : ∃ y, at2 rs2[k] p = y := ⟨_, rfl⟩
          rw [hx] at x0 x1 p1
          rw [hy] at v0 v1 p2
          have HX := Lib.hid hx
          have HY := Lib.hid hy
          have hws : IntKind.i64.wrap (y - x) = y - x := by rw [IntKind.wrap_i64]; omega
          clear m0 m1 n0 n1 hx hy
          by_cases hd : y - x = 0
          · have HE : Hid (btw1 k p rs1[k] rs2[k] = []) := Lib.hid (by unfold btw1; rw [HX.out, HY.out, if_pos hd])
            have hdb : (y - x != 0) = false := by simp [hd]
            go_wp2_with fail
            go_quiet (fail)
            rename Nat => nq
            have hbq : Below wi.heap.size wi (wi.drewN nq) := bl_drewN (Below.refl _ _) nq
            have HO5 := Lib.hid (own_below HO4.out hbq)
            have HB5 : Hid (Below w2.heap.size w2 (wi.drewN nq)) := Lib.hid (HB4.out.trans (hbq.mono HB4.out.size))
            clear e2 q2 p1 p2 d2
            generalize wi.drewN nq = wj at HO5 HB5 hbq ⊢
            clear hbq
            go_wp2_with fail
            go_roundw
            case rel => exact ⟨p + 1, by omega, by go_num, by rw [← Nat.add_assoc, HSN.out, HE.out, List.append_nil]; exact HO5.out, HB5.out⟩
            case measure => simp [intOf]; omega
          · have HE : Hid (btw1 k p rs1[k] rs2[k] = [⟨k, p, y - x⟩]) := Lib.hid (by unfold btw1; rw [HX.out, HY.out, if_neg hd])
            have hdb : (y - x != 0) = true := by simp [hd]
            go_wp2_with fail
            go_quiet (fail)
            rename Nat => nq
            have hbq : Below wi.heap.size wi (wi.drewN nq) := bl_drewN (Below.refl _ _) nq
            have HO5 := Lib.hid (own_below HO4.out hbq)
            have HB5 : Hid (Below w2.heap.size w2 (wi.drewN nq)) := Lib.hid (HB4.out.trans (hbq.mono HB4.out.size))
            clear e2 q2 p1 p2 d2
            generalize wi.drewN nq = wj at HO5 HB5 hbq ⊢
            clear hbq
            have HSZ5 := Lib.hid HB5.out.size
            go_wp2_with (at_builtin; refine wpList_append_own _ rfl _ _ 46 rfl w2.heap.size 38 i0 (.agg #[.int .i64 0, .int .i64 0, .int .i64 0]) 3 24 Try.underlying46 hi hz0 hz1 hz2 rfl (by decide) _ _ _ rfl (HO5.out.alloc _) ⟨wj.heap.size, 0, none⟩ 1 1 (mvC ⟨k, p, y - x⟩) rfl rfl ?c1 ?c2 ?c3 ?c4 ?c5 ?_)
            case c1 => exact news_at (vs := mvC ⟨k, p, y - x⟩) (alloc_at (by simp))
            case c2 => exact mvC_one _
            case c3 => unfold maxLen; omega
            case c4 => omega
            case c5 => have := HSZ5.out; simp; omega
            intro v' w9 hown9 hgrow9 _
            have HO9 := Lib.hid hown9
            have HB9 : Hid (Below w2.heap.size w2 w9) := Lib.hid ((HB5.out.alloc HB5.out.size _).grown hgrow9 (by have := HSZ5.out; simp; omega) (fun q hq => (HO5.out.lt q hq).1))
            clear hown9 hgrow9
            go_wp2_with fail
            go_roundw
            case rel =>
              refine ⟨p + 1, by omega, by go_num, ?_, HB9.out⟩
              rw [← Nat.add_assoc, HSN.out, HE.out, flatC_app]
              have := HO9.out
              simpa [flatC] using this
            case measure => simp [intOf]; omega
        · have hpe : p = 2 := by omega
          subst hpe
          go_wp2_with fail
          go_roundw
          case rel => exact ⟨k + 1, by omega, by go_num, HO4.out, HB4.out⟩
          case measure => simp [intOf]; omega
    · have hke : k = rs1.length := by omega
      subst hke
      go_wp2_with fail
      go_ret
      exact ⟨⟨_, rfl, own_mono HO3.out HB2.out.size⟩, HB2.out.trans (HB3.out.mono HB2.out.size)⟩

/-- MovesBetween: the answer. -/
def BtF (u1 l1 : Int) (rs1 : List (Int × Int)) (u2 l2 : Int) (rs2 : List (Int × Int)) (ms : List Mv) (t : Bool) : Prop :=
  (alikeF u1 l1 rs1 u2 l2 rs2 ∧ ms = btwL rs1 rs2 (2 * rs1.length) ∧ t = true) ∨ (¬ alikeF u1 l1 rs1 u2 l2 rs2 ∧ ms = [] ∧ t = false)
theorem btF_or (u1 l1 : Int) (rs1 : List (Int × Int)) (u2 l2 : Int) (rs2 : List (Int × Int)) : ∃ ms t, BtF u1 l1 rs1 u2 l2 rs2 ms t := by
  by_cases h : alikeF u1 l1 rs1 u2 l2 rs2
  · exact ⟨_, true, .inl ⟨h, rfl, rfl⟩⟩
  · exact ⟨[], false, .inr ⟨h, rfl, rfl⟩⟩
theorem btF_len {u1 l1 : Int} {rs1 : List (Int × Int)} {u2 l2 : Int} {rs2 : List (Int × Int)} {ms : List Mv} {t : Bool} (h : BtF u1 l1 rs1 u2 l2 rs2 ms t) : ms.length ≤ 16 := by
  rcases h with ⟨h, rfl, _⟩ | ⟨_, rfl, _⟩
  · have := btwL_len rs1 rs2 (2 * rs1.length); have := h.1.2.2.2; omega
  · simp

set_option maxRecDepth 100000 in
set_option maxHeartbeats 3200000 in
theorem specBetween_any (u1 l1 : Int) (s1 : Value) (rs1 : List (Int × Int)) (u2 l2 : Int) (s2 : Value) (rs2 : List (Int × Int)) (w : World) (h1 : RodsR w s1 rs1) (h2 : RodsR w s2 rs2) (ms : List Mv) (t : Bool) (hb : BtF u1 l1 rs1 u2 l2 rs2 ms t) :
    Calls Try.prog 38 #[.agg #[.int .i64 u1, .int .i64 l1, s1], .agg #[.int .i64 u2, .int .i64 l2, s2]] w fun e w' => (∃ sq, e = .returned (.tuple #[sq, .bool t]) ∧ w'.ownsRow w.heap.size 38 3 sq ms.length (flatC mvC ms)) ∧ Below w.heap.size w w' := by
  obtain ⟨a1, c1, rfl⟩ : ∃ a c, s1 = .slice a rs1.length c := by obtain ⟨a, c, e, _⟩ := h1; exact ⟨a, c, e⟩
  obtain ⟨a2, c2, rfl⟩ : ∃ a c, s2 = .slice a rs2.length c := by obtain ⟨a, c, e, _⟩ := h2; exact ⟨a, c, e⟩
  have HB0 : Hid (Below w.heap.size w w) := Lib.hid (Below.refl _ _)
  have HRf0 := Lib.hid (h1)
  have HRg0 := Lib.hid (h2)
  clear h1 h2
  go_enter Try.func38, Try.ntmps38
  go_wp2_with fail
  have hb : Below w.heap.size w (w.alloc (.cells #[.int .i64 u1, .int .i64 l1, .slice a1 rs1.length c1] 28)) := (Below.refl _ _).alloc (Nat.le_refl _) _
  have hk : (w.alloc (.cells #[.int .i64 u1, .int .i64 l1, .slice a1 rs1.length c1] 28)).heap[w.heap.size]? = some (.cells #[.int .i64 u1, .int .i64 l1, .slice a1 rs1.length c1] 28 (0, 0)) := alloc_at rfl
  have hz : (w.alloc (.cells #[.int .i64 u1, .int .i64 l1, .slice a1 rs1.length c1] 28)).heap.size = w.heap.size + 1 := by simp
  generalize w.alloc (.cells #[.int .i64 u1, .int .i64 l1, .slice a1 rs1.length c1] 28) = w1 at hb hk hz ⊢
  have HB1 : Hid (Below w.heap.size w w1) := Lib.hid (HB0.out.trans (hb.mono HB0.out.size))
  have HZ1 : Hid (w.heap.size ≤ w1.heap.size) := Lib.hid hb.size
  have HRf1 := Lib.hid (HRf0.out.below HB1.out (Nat.le_refl _))
  have HRg1 := Lib.hid (HRg0.out.below HB1.out (Nat.le_refl _))
  have HKf1 := Lib.hid hk
  replace HZ1 : Hid (w.heap.size < w1.heap.size) := Lib.hid (by omega)
  have HE1 := Lib.hid hz
  clear hb hk hz
  have hb : Below w1.heap.size w1 (w1.alloc (.cells #[.int .i64 u2, .int .i64 l2, .slice a2 rs2.length c2] 28)) := (Below.refl _ _).alloc (Nat.le_refl _) _
  have hk : (w1.alloc (.cells #[.int .i64 u2, .int .i64 l2, .slice a2 rs2.length c2] 28)).heap[w.heap.size + 1]? = some (.cells #[.int .i64 u2, .int .i64 l2, .slice a2 rs2.length c2] 28 (0, 0)) := alloc_at (by have := HE1.out; omega)
  have hz : (w1.alloc (.cells #[.int .i64 u2, .int .i64 l2, .slice a2 rs2.length c2] 28)).heap.size = w1.heap.size + 1 := by simp
  generalize w1.alloc (.cells #[.int .i64 u2, .int .i64 l2, .slice a2 rs2.length c2] 28) = w2 at hb hk hz ⊢
  have HB2 : Hid (Below w.heap.size w w2) := Lib.hid (HB1.out.trans (hb.mono HB1.out.size))
  have HZ2 : Hid (w1.heap.size ≤ w2.heap.size) := Lib.hid hb.size
  have HRf2 := Lib.hid (HRf0.out.below HB2.out (Nat.le_refl _))
  have HRg2 := Lib.hid (HRg0.out.below HB2.out (Nat.le_refl _))
  have HKf2 := Lib.hid ((hb.block _ (lt_of_block HKf1.out)).trans HKf1.out)
  have HKg2 := Lib.hid hk
  replace HZ2 : Hid (w1.heap.size < w2.heap.size) := Lib.hid (by omega)
  have HE2 := Lib.hid hz
  clear hb hk hz
  have ltf := lt_of_block HKf2.out
  obtain ⟨cf0, cf1, cf2, ff0, ff1, ff2⟩ := cell3 HKf2.out
  have ltg := lt_of_block HKg2.out
  obtain ⟨cg0, cg1, cg2, fg0, fg1, fg2⟩ := cell3 HKg2.out
  rcases hb with ⟨ha, rfl, rfl⟩ | ⟨ha, rfl, rfl⟩
  · have HA := Lib.hid ha
    clear ha
    refine (l4Alike_any u1 l1 _ rs1 u2 l2 _ rs2 _ HRf2.out HRg2.out true ⟨fun _ => HA.out, fun _ => rfl⟩).mono ?_
    rintro e w3 ⟨rfl, hb⟩
    have HB3 : Hid (Below w.heap.size w w3) := Lib.hid (HB2.out.trans (hb.mono HB2.out.size))
    have HZ3 : Hid (w2.heap.size ≤ w3.heap.size) := Lib.hid hb.size
    have HRf3 := Lib.hid (HRf0.out.below HB3.out (Nat.le_refl _))
    have HRg3 := Lib.hid (HRg0.out.below HB3.out (Nat.le_refl _))
    have HKf3 := Lib.hid ((hb.block _ (lt_of_block HKf2.out)).trans HKf2.out)
    have HKg3 := Lib.hid ((hb.block _ (lt_of_block HKg2.out)).trans HKg2.out)
    clear hb
    clear cf0 cf1 cf2 ff0 ff1 ff2 ltf cg0 cg1 cg2 fg0 fg1 fg2 ltg
    have ltf := lt_of_block HKf3.out
    obtain ⟨cf0, cf1, cf2, ff0, ff1, ff2⟩ := cell3 HKf3.out
    have ltg := lt_of_block HKg3.out
    obtain ⟨cg0, cg1, cg2, fg0, fg1, fg2⟩ := cell3 HKg3.out
    go_wp2_with fail
    obtain ⟨rfl, rfl⟩ : u1 = u2 ∧ l1 = l2 := ⟨HA.out.2.2.1, HA.out.2.2.2.1⟩
    refine (l4Between_any u1 l1 _ rs1 _ rs2 _ HRf3.out HRg3.out HA.out.1 HA.out.2.1 HA.out.2.2.2.2).mono ?_
    rintro e w4 ⟨⟨sq, rfl, ho⟩, hb⟩
    have HB4 : Hid (Below w.heap.size w w4) := Lib.hid (HB3.out.trans (hb.mono HB3.out.size))
    have HZ4 : Hid (w3.heap.size ≤ w4.heap.size) := Lib.hid hb.size
    have HRf4 := Lib.hid (HRf0.out.below HB4.out (Nat.le_refl _))
    have HRg4 := Lib.hid (HRg0.out.below HB4.out (Nat.le_refl _))
    have HKf4 := Lib.hid ((hb.block _ (lt_of_block HKf3.out)).trans HKf3.out)
    have HKg4 := Lib.hid ((hb.block _ (lt_of_block HKg3.out)).trans HKg3.out)
    clear hb
    have HO := Lib.hid (own_mono ho (show w.heap.size ≤ _ from HB3.out.size))
    clear ho
    go_wp2_with fail
    go_ret2
    exact ⟨⟨_, rfl, HO.out⟩, HB4.out⟩
  · have HA := Lib.hid ha
    clear ha
    refine (l4Alike_any u1 l1 _ rs1 u2 l2 _ rs2 _ HRf2.out HRg2.out false ⟨fun h => by simp at h, fun h => absurd h HA.out⟩).mono ?_
    rintro e w3 ⟨rfl, hb⟩
    have HB3 : Hid (Below w.heap.size w w3) := Lib.hid (HB2.out.trans (hb.mono HB2.out.size))
    have HZ3 : Hid (w2.heap.size ≤ w3.heap.size) := Lib.hid hb.size
    have HRf3 := Lib.hid (HRf0.out.below HB3.out (Nat.le_refl _))
    have HRg3 := Lib.hid (HRg0.out.below HB3.out (Nat.le_refl _))
    have HKf3 := Lib.hid ((hb.block _ (lt_of_block HKf2.out)).trans HKf2.out)
    have HKg3 := Lib.hid ((hb.block _ (lt_of_block HKg2.out)).trans HKg2.out)
    clear hb
    have HO := Lib.hid (World.ownsRow_made (base := w.heap.size) (e := 38) (size := 3) w3 #[] 0 HB3.out.size (Nat.zero_le _) (by simp))
    clear cf0 cf1 cf2 ff0 ff1 ff2 ltf cg0 cg1 cg2 fg0 fg1 fg2 ltg
    have ltf := lt_of_block HKf3.out
    obtain ⟨cf0, cf1, cf2, ff0, ff1, ff2⟩ := cell3 HKf3.out
    have ltg := lt_of_block HKg3.out
    obtain ⟨cg0, cg1, cg2, fg0, fg1, fg2⟩ := cell3 HKg3.out
    go_wp2_with fail
    go_ret2
    exact ⟨⟨_, rfl, HO.out⟩, HB3.out.alloc HB3.out.size _⟩
end Go.Proofs.Ytpdckmhhmgkaaaa
