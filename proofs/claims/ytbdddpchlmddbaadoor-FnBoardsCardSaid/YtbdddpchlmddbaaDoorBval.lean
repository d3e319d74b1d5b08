/- The model's value of a board, its counters. -/
import Derived.Test.YtbdddpchlmddbaaDoorBgood
import Derived.Test.YtbdddpchlmddbaaDoorKa
import Derived.BigQuiet
namespace Go.Proofs.YtbdddpchlmddbaaDoor
set_option linter.unusedVariables false
open Go.RowKit

def valB : List Int → List Int → Int
  | x :: a, y :: b => x + 5 * y + 10 * valB a b
  | _, _ => 0
theorem valB_step (ls ss : List Int) (k : Nat) (h1 : k < ls.length) (h2 : k < ss.length) : valB (ls.drop k) (ss.drop k) = ls[k] + 5 * ss[k] + 10 * valB (ls.drop (k + 1)) (ss.drop (k + 1)) := by
  rw [List.drop_eq_getElem_cons h1, List.drop_eq_getElem_cons h2]; rfl
theorem valB_end (ls ss : List Int) (k : Nat) (h : ls.length ≤ k) : valB (ls.drop k) (ss.drop k) = 0 := by
  rw [List.drop_eq_nil_of_le h]; rfl
theorem valB_bd {ls ss : List Int} (h : okB ls ss) : ∀ d k, k + d = ls.length → 0 ≤ valB (ls.drop k) (ss.drop k) ∧ valB (ls.drop k) (ss.drop k) + 20 ≤ 20 * 10 ^ d := by
  intro d
  induction d with
  | zero => intro k hk; rw [valB_end ls ss k (by omega)]; simp
  | succ d ih =>
    intro k hk
    obtain ⟨i1, i2⟩ := ih (k + 1) (by omega)
    have h1 : k < ls.length := by omega
    have h2 : k < ss.length := by rw [h.2.1]; exact h1
    obtain ⟨⟨b1, b2⟩, b3, b4⟩ := h.2.2 k h1 h2
    rw [valB_step ls ss k h1 h2, Int.pow_succ]
    omega
theorem valB_max {ls ss : List Int} (h : okB ls ss) (k : Nat) (hk : k ≤ ls.length) : 0 ≤ valB (ls.drop k) (ss.drop k) ∧ valB (ls.drop k) (ss.drop k) ≤ 2000000000 := by
  obtain ⟨h1, h2⟩ := valB_bd h (ls.length - k) k (by omega)
  have := (pow_bd (ls.length - k) (by have := h.1.2; omega)).2
  omega
def cntB (ls ss : List Int) (k : Nat) : Int := (ls.take k).sum + (ss.take k).sum
theorem cntB_step (ls ss : List Int) (k : Nat) (h1 : k < ls.length) (h2 : k < ss.length) : cntB ls ss (k + 1) = cntB ls ss k + ls[k] + ss[k] := by
  unfold cntB
  rw [List.take_succ_eq_append_getElem h1, List.take_succ_eq_append_getElem h2, List.sum_append, List.sum_append]
  simp; omega

set_option maxRecDepth 100000 in
set_option maxHeartbeats 1600000 in
theorem specCounters_yes (v1 v2 : Value) (ls ss : List Int) (w : World) (h : BrdR w v1 v2 ls ss) (hg : okB ls ss) :
    Calls Tryd.prog 18 #[.agg #[v1, v2]] w fun e w' => e = .returned (.tuple #[.int .i64 (cntB ls ss ls.length), .bool true]) ∧ Below w.heap.size w w' := by
  obtain ⟨a1, c1, a2, c2, rfl, rfl⟩ := h.form
  have A1 := Lib.hid (int_at h.1)
  have A2 := Lib.hid (int_at h.2)
  have HG := Lib.hid hg
  have hl6 : ls.length ≤ 6 := hg.1.2
  have hns : (ss.length : Int) ≤ 6 := by have := hg.2.1; omega
  have HB0 : Hid (Below w.heap.size w w) := Lib.hid (Below.refl _ _)
  have HRf0 := Lib.hid (h)
  clear h hg
  go_enter Tryd.func18, Tryd.ntmps18
  go_wp2_with fail
  have hb : Below w.heap.size w (w.alloc (.cells #[.slice a1 ls.length c1, .slice a2 ss.length c2] 26)) := (Below.refl _ _).alloc (Nat.le_refl _) _
  have hk : (w.alloc (.cells #[.slice a1 ls.length c1, .slice a2 ss.length c2] 26)).heap[w.heap.size]? = some (.cells #[.slice a1 ls.length c1, .slice a2 ss.length c2] 26 (0, 0)) := alloc_at rfl
  have hz : (w.alloc (.cells #[.slice a1 ls.length c1, .slice a2 ss.length c2] 26)).heap.size = w.heap.size + 1 := by simp
  generalize w.alloc (.cells #[.slice a1 ls.length c1, .slice a2 ss.length c2] 26) = w1 at hb hk hz ⊢
  have HB1 : Hid (Below w.heap.size w w1) := Lib.hid (HB0.out.trans (hb.mono HB0.out.size))
  have HZ1 : Hid (w.heap.size ≤ w1.heap.size) := Lib.hid hb.size
  have HRf1 := Lib.hid (HRf0.out.below HB1.out (Nat.le_refl _))
  have HKb1 := Lib.hid hk
  replace HZ1 : Hid (w.heap.size < w1.heap.size) := Lib.hid (by omega)
  have HE1 := Lib.hid hz
  clear hb hk hz
  have ltb := lt_of_block HKb1.out
  obtain ⟨cb0, cb1, fb0, fb1⟩ := cell2 HKb1.out
  refine (l5Good_any _ _ ls ss _ HRf1.out true ⟨fun _ => HG.out, fun _ => rfl⟩).mono ?_
  rintro e w2 ⟨rfl, hb⟩
  have HB2 : Hid (Below w.heap.size w w2) := Lib.hid (HB1.out.trans (hb.mono HB1.out.size))
  have HZ2 : Hid (w1.heap.size ≤ w2.heap.size) := Lib.hid hb.size
  have HRf2 := Lib.hid (HRf0.out.below HB2.out (Nat.le_refl _))
  have HKb2 := Lib.hid ((hb.block _ (lt_of_block HKb1.out)).trans HKb1.out)
  clear hb
  clear cb0 cb1 fb0 fb1 ltb
  have ltb := lt_of_block HKb2.out
  obtain ⟨cb0, cb1, fb0, fb1⟩ := cell2 HKb2.out
  go_wp2_with fail
  go_loopw [4, 5] (fun s i wr => ∃ (k : Nat) (S : Int), k ≤ ls.length ∧ i = .int .i64 k ∧ s = .int .i64 S ∧ Hid (S = cntB ls ss k) ∧ (0 ≤ S ∧ S ≤ 60 * k) ∧ wr.heap[w.heap.size]? = some (.cells #[.slice a1 ls.length c1, .slice a2 ss.length c2] 26 (0, 0)) ∧ Below w.heap.size w wr) (fun _ i _ => ls.length - (intOf i).toNat)
  case atStart => exact ⟨0, 0, Nat.zero_le _, rfl, rfl, Lib.hid (by simp [cntB]), by omega, HKb2.out, HB2.out⟩
  case round =>
    obtain ⟨k, S, hk, rfl, rfl, HS, ⟨s0, s1⟩, hkb, hb⟩ := hrel
    have HB := Lib.hid hb
    have HKB := Lib.hid hkb
    obtain ⟨cb0, cb1, _, _⟩ := cell2 hkb
    by_cases hlt : k < ls.length
    · have hlt2 : k < ss.length := by rw [HG.out.2.1]; exact hlt
      have z1 : (0 : Int) ≤ (k : Int) := by omega
      have z2 : (k : Int) < (ls.length : Int) := by omega
      have z3 : (k : Int) < (ss.length : Int) := by omega
      obtain ⟨b1, o1, rfl, _, p0⟩ := A1.out _ hb k hlt
      obtain ⟨b2, o2, rfl, _, q0⟩ := A2.out _ hb k hlt2
      have HN := Lib.hid (cntB_step ls ss k hlt hlt2)
      obtain ⟨⟨x0, x1⟩, y0, y1⟩ := HG.out.2.2 k hlt hlt2
      generalize ls[k] = x at p0 HN x0 x1
      generalize ss[k] = y at q0 HN y0 y1
      have w2' : IntKind.i64.wrap (S + x) = S + x := by rw [IntKind.wrap_i64]; omega
      have w4' : IntKind.i64.wrap (S + x + y) = S + x + y := by rw [IntKind.wrap_i64]; omega
      clear hb hkb
      go_wp2_with fail
      go_quiet (fail)
      rename Nat => nq
      have hbq : Below wr.heap.size wr (wr.drewN nq) := bl_drewN (Below.refl _ wr) nq
      have HB2 := Lib.hid (HB.out.trans (hbq.mono HB.out.size))
      have HK2 := Lib.hid ((hbq.block _ (lt_of_block HKB.out)).trans HKB.out)
      clear cb0 cb1 p0 q0 w2' w4'
      generalize wr.drewN nq = w9 at HB2 HK2 hbq ⊢
      clear hbq
      go_wp2_with fail
      go_roundw
      case rel => exact ⟨k + 1, S + x + y, by omega, by go_num, rfl, Lib.hid (by rw [HN.out, HS.out]), by omega, HK2.out, HB2.out⟩
      case measure => simp [intOf]; omega
    · have hke : k = ls.length := by omega
      subst hke
      clear hb hkb
      go_wp2_with fail
      go_ret2
      exact ⟨ret_int2 HS.out, HB.out⟩
set_option maxRecDepth 100000 in
set_option maxHeartbeats 800000 in
theorem specCounters_no (v1 v2 : Value) (ls ss : List Int) (w : World) (h : BrdR w v1 v2 ls ss) (hg : ¬ okB ls ss) :
    Calls Tryd.prog 18 #[.agg #[v1, v2]] w fun e w' => e = .returned (.tuple #[.int .i64 0, .bool false]) ∧ Below w.heap.size w w' := by
  have HG := Lib.hid hg
  obtain ⟨a1, c1, a2, c2, rfl, rfl⟩ := h.form
  have HB0 : Hid (Below w.heap.size w w) := Lib.hid (Below.refl _ _)
  have HRf0 := Lib.hid (h)
  clear h hg
  go_enter Tryd.func18, Tryd.ntmps18
  go_wp2_with fail
  have hb : Below w.heap.size w (w.alloc (.cells #[.slice a1 ls.length c1, .slice a2 ss.length c2] 26)) := (Below.refl _ _).alloc (Nat.le_refl _) _
  have hk : (w.alloc (.cells #[.slice a1 ls.length c1, .slice a2 ss.length c2] 26)).heap[w.heap.size]? = some (.cells #[.slice a1 ls.length c1, .slice a2 ss.length c2] 26 (0, 0)) := alloc_at rfl
  have hz : (w.alloc (.cells #[.slice a1 ls.length c1, .slice a2 ss.length c2] 26)).heap.size = w.heap.size + 1 := by simp
  generalize w.alloc (.cells #[.slice a1 ls.length c1, .slice a2 ss.length c2] 26) = w1 at hb hk hz ⊢
  have HB1 : Hid (Below w.heap.size w w1) := Lib.hid (HB0.out.trans (hb.mono HB0.out.size))
  have HZ1 : Hid (w.heap.size ≤ w1.heap.size) := Lib.hid hb.size
  have HRf1 := Lib.hid (HRf0.out.below HB1.out (Nat.le_refl _))
  have HKb1 := Lib.hid hk
  replace HZ1 : Hid (w.heap.size < w1.heap.size) := Lib.hid (by omega)
  have HE1 := Lib.hid hz
  clear hb hk hz
  have ltb := lt_of_block HKb1.out
  obtain ⟨cb0, cb1, fb0, fb1⟩ := cell2 HKb1.out
  refine (l5Good_any _ _ ls ss _ HRf1.out false ⟨fun e => by simp at e, fun e => absurd e HG.out⟩).mono ?_
  rintro e w2 ⟨rfl, hb⟩
  have HB2 : Hid (Below w.heap.size w w2) := Lib.hid (HB1.out.trans (hb.mono HB1.out.size))
  have HZ2 : Hid (w1.heap.size ≤ w2.heap.size) := Lib.hid hb.size
  have HRf2 := Lib.hid (HRf0.out.below HB2.out (Nat.le_refl _))
  have HKb2 := Lib.hid ((hb.block _ (lt_of_block HKb1.out)).trans HKb1.out)
  clear hb
  clear cb0 cb1 fb0 fb1 ltb
  have ltb := lt_of_block HKb2.out
  obtain ⟨cb0, cb1, fb0, fb1⟩ := cell2 HKb2.out
  go_wp2_with fail
  go_ret2
  exact ⟨rfl, HB2.out⟩
end Go.Proofs.YtbdddpchlmddbaaDoor
