/- The program's places of a board, its test of counters and of a board. -/
import Derived.Test.YtbdddpchlmddbaaDoorIlv
namespace Go.Proofs.YtbdddpchlmddbaaDoor
set_option linter.unusedVariables false
open Go.RowKit

theorem mkP_ev (k : Nat) : mkP (2 * k) = 5 := by unfold mkP; rw [if_pos (by omega)]
theorem mkP_od (k : Nat) : mkP (2 * k + 1) = 2 := by unfold mkP; rw [if_neg (by omega)]
theorem mkP_or (p : Nat) : mkP p = 5 ∨ mkP p = 2 := by unfold mkP; split; exact .inl rfl; exact .inr rfl
set_option maxRecDepth 100000 in
set_option maxHeartbeats 400000 in
theorem placeAt_any (line : Bool) (k p : Nat) (w : World) (hk : k ≤ 1000) (hp : Hid (p = if line then 2 * k else 2 * k + 1)) :
    Calls Tryd.prog 42 #[.bool line, .int .i64 k] w fun e w' => e = .returned (.int .i64 (p : Int)) ∧ w' = w := by
  have hp' := hp.out
  cases line with
  | true =>
    rw [if_pos rfl] at hp'
    have HP : Hid ((p : Int) = 2 * (k : Int)) := Lib.hid (by omega)
    have w1' : IntKind.i64.wrap (2 * (k : Int)) = 2 * (k : Int) := by rw [IntKind.wrap_i64]; omega
    clear hp hp'
    go_enter Tryd.func42, Tryd.ntmps42
    go_wp2_with fail
    go_ret
    exact ⟨ret_int HP.out.symm, rfl⟩
  | false =>
    rw [if_neg (by simp)] at hp'
    have HP : Hid ((p : Int) = 2 * (k : Int) + 1) := Lib.hid (by omega)
    have w1' : IntKind.i64.wrap (2 * (k : Int)) = 2 * (k : Int) := by rw [IntKind.wrap_i64]; omega
    have w2' : IntKind.i64.wrap (2 * (k : Int) + 1) = 2 * (k : Int) + 1 := by rw [IntKind.wrap_i64]; omega
    clear hp hp'
    go_enter Tryd.func42, Tryd.ntmps42
    go_wp2_with fail
    go_ret
    exact ⟨ret_int HP.out.symm, rfl⟩
set_option maxRecDepth 100000 in
set_option maxHeartbeats 400000 in
theorem makeOne_any (p : Nat) (m : Int) (w : World) (hm : Hid (m = mkP p)) :
    Calls Tryd.prog 32 #[.int .i64 p] w fun e w' => e = .returned (.int .i64 m) ∧ w' = w := by
  have hm' := hm.out
  unfold mkP at hm'
  have e1 : ((p : Int)).tmod 2 = ((p % 2 : Nat) : Int) := by rw [Int.tmod_eq_emod_of_nonneg (by omega)]; omega
  by_cases h : p % 2 = 0
  · rw [if_pos h] at hm'
    have HM := Lib.hid hm'
    have e2 : ((p : Int).tmod 2 == 0) = true := by rw [e1, h]; rfl
    clear hm hm' e1
    go_enter Tryd.func32, Tryd.ntmps32
    go_wp2_with fail
    go_ret
    exact ⟨ret_int HM.out.symm, rfl⟩
  · rw [if_neg h] at hm'
    have HM := Lib.hid hm'
    have e2 : ((p : Int).tmod 2 == 0) = false := by rw [e1, show p % 2 = 1 by omega]; rfl
    clear hm hm' e1
    go_enter Tryd.func32, Tryd.ntmps32
    go_wp2_with fail
    go_ret
    exact ⟨ret_int HM.out.symm, rfl⟩

set_option maxRecDepth 100000 in
set_option maxHeartbeats 1600000 in
theorem areCounters_scan (v : Value) (ps : List Int) (w : World) (h : RowsR 1 inC w v ps) (hn : ps.length ≤ 12) (p : Nat) (hp : p ≤ ps.length) (hpre : ∀ k (h1 : k < ps.length), k < p → 0 ≤ ps[k] ∧ ps[k] ≤ 30) (hx : ∀ (h1 : p < ps.length), ¬ (0 ≤ ps[p] ∧ ps[p] ≤ 30)) (r : Bool) (hr1 : p < ps.length → r = false) (hr2 : p = ps.length → r = true) :
    Calls Tryd.prog 33 #[v] w fun e w' => e = .returned (.bool r) ∧ Below w.heap.size w w' := by
  obtain ⟨a1, c1, rfl⟩ := h.form
  have A1 := Lib.hid (int_at h)
  have HP := Lib.hid hpre
  have HX := Lib.hid hx
  have HR1 := Lib.hid hr1
  have HR2 := Lib.hid hr2
  clear h hpre hx hr1 hr2
  go_enter Tryd.func33, Tryd.ntmps33
  go_wp2_with fail
  go_loopw [7] (fun i wr => ∃ k : Nat, k ≤ p ∧ i = .int .i64 k ∧ w = wr) (fun i _ => ps.length - (intOf i).toNat)
  case atStart => exact ⟨0, Nat.zero_le _, rfl, rfl⟩
  case round =>
    obtain ⟨k, hk, rfl, rfl⟩ := hrel
    by_cases hlt : k < ps.length
    · have z1 : (0 : Int) ≤ (k : Int) := by omega
      have z2 : (k : Int) < (ps.length : Int) := by omega
      obtain ⟨b1, o1, rfl, _, p0⟩ := A1.out _ (Below.refl _ _) k hlt
      have HPK := Lib.hid (HP.out k hlt)
      have HXK : Hid (k = p → ¬ (0 ≤ ps[k] ∧ ps[k] ≤ 30)) := Lib.hid (by intro e; subst e; exact HX.out hlt)
      generalize ps[k] = x at p0 HPK HXK
      by_cases h1 : x < 0
      · have HN : Hid (r = false) := Lib.hid (HR1.out (by
          rcases Nat.lt_or_ge k p with h3 | h3
          · have := (HPK.out h3).1; omega
          · omega))
        go_wp2_with fail
        go_ret
        exact ⟨ret_bool HN.out.symm, Below.refl _ _⟩
      · by_cases h2 : 30 < x
        · have HN : Hid (r = false) := Lib.hid (HR1.out (by
            rcases Nat.lt_or_ge k p with h3 | h3
            · have := (HPK.out h3).2; omega
            · omega))
          go_wp2_with fail
          go_ret
          exact ⟨ret_bool HN.out.symm, Below.refl _ _⟩
        · have hkp : k < p := by
            rcases Nat.lt_or_ge k p with h3 | h3
            · exact h3
            · exact absurd ⟨by omega, by omega⟩ (HXK.out (by omega))
          go_wp2_with fail
          go_roundw
          case rel => exact ⟨k + 1, by omega, by go_num, by first | trivial | rfl⟩
          case measure => simp [intOf]; omega
    · have HN := Lib.hid (HR2.out (by omega))
      go_wp2_with fail
      go_ret
      exact ⟨ret_bool HN.out.symm, Below.refl _ _⟩
theorem areCounters_any (v : Value) (ps : List Int) (w : World) (h : RowsR 1 inC w v ps) (hn : ps.length ≤ 12) (r : Bool) (hr : Hid (r = true ↔ ctr ps)) :
    Calls Tryd.prog 33 #[v] w fun e w' => e = .returned (.bool r) ∧ Below w.heap.size w w' := by
  obtain ⟨p, hp, hpre, hx⟩ := first_bad ps.length (fun i hi => 0 ≤ ps[i] ∧ ps[i] ≤ 30)
  exact areCounters_scan v ps w h hn p hp (fun k h1 hk => hpre k h1 hk) (fun h1 => hx h1) r (fun hlt => Bool.eq_false_iff.2 fun e => hx hlt (hr.out.1 e p hlt)) (fun he => hr.out.2 fun k h1 => hpre k h1 (by omega))

set_option maxRecDepth 100000 in
set_option maxHeartbeats 1600000 in
theorem implIsBoard_len (v1 v2 : Value) (ls ss : List Int) (w : World) (h : BrdR w v1 v2 ls ss) (hn : ¬ ((1 ≤ ls.length ∧ ls.length ≤ 6) ∧ ss.length = ls.length)) :
    Calls Tryd.prog 21 #[.agg #[v1, v2]] w fun e w' => e = .returned (.bool false) ∧ Below w.heap.size w w' := by
  have hm : ls.length ≤ 9223372036854775807 := by obtain ⟨_, _, _, ⟨m, _⟩, _⟩ := h.1; exact m
  have hm2 : ss.length ≤ 9223372036854775807 := by obtain ⟨_, _, _, ⟨m, _⟩, _⟩ := h.2; exact m
  obtain ⟨a1, c1, a2, c2, rfl, rfl⟩ := h.form
  by_cases h1 : (ls.length : Int) < 1
  · clear h hn
    have HB0 : Hid (Below w.heap.size w w) := Lib.hid (Below.refl _ _)
    go_enter Tryd.func21, Tryd.ntmps21
    go_wp2_with fail
    have hb : Below w.heap.size w (w.alloc (.cells #[.slice a1 ls.length c1, .slice a2 ss.length c2] 26)) := (Below.refl _ _).alloc (Nat.le_refl _) _
    have hk : (w.alloc (.cells #[.slice a1 ls.length c1, .slice a2 ss.length c2] 26)).heap[w.heap.size]? = some (.cells #[.slice a1 ls.length c1, .slice a2 ss.length c2] 26 (0, 0)) := alloc_at rfl
    have hz : (w.alloc (.cells #[.slice a1 ls.length c1, .slice a2 ss.length c2] 26)).heap.size = w.heap.size + 1 := by simp
    generalize w.alloc (.cells #[.slice a1 ls.length c1, .slice a2 ss.length c2] 26) = w1 at hb hk hz ⊢
    have HB1 : Hid (Below w.heap.size w w1) := Lib.hid (HB0.out.trans (hb.mono HB0.out.size))
    have HZ1 : Hid (w.heap.size ≤ w1.heap.size) := Lib.hid hb.size
    have HKb1 := Lib.hid hk
    replace HZ1 : Hid (w.heap.size < w1.heap.size) := Lib.hid (by omega)
    have HE1 := Lib.hid hz
    clear hb hk hz
    have ltb := lt_of_block HKb1.out
    obtain ⟨cb0, cb1, fb0, fb1⟩ := cell2 HKb1.out
    go_wp2_with fail
    go_ret
    exact ⟨rfl, HB1.out⟩
  · by_cases h2 : 6 < (ls.length : Int)
    · clear h hn
      have HB0 : Hid (Below w.heap.size w w) := Lib.hid (Below.refl _ _)
      go_enter Tryd.func21, Tryd.ntmps21
      go_wp2_with fail
      have hb : Below w.heap.size w (w.alloc (.cells #[.slice a1 ls.length c1, .slice a2 ss.length c2] 26)) := (Below.refl _ _).alloc (Nat.le_refl _) _
      have hk : (w.alloc (.cells #[.slice a1 ls.length c1, .slice a2 ss.length c2] 26)).heap[w.heap.size]? = some (.cells #[.slice a1 ls.length c1, .slice a2 ss.length c2] 26 (0, 0)) := alloc_at rfl
      have hz : (w.alloc (.cells #[.slice a1 ls.length c1, .slice a2 ss.length c2] 26)).heap.size = w.heap.size + 1 := by simp
      generalize w.alloc (.cells #[.slice a1 ls.length c1, .slice a2 ss.length c2] 26) = w1 at hb hk hz ⊢
      have HB1 : Hid (Below w.heap.size w w1) := Lib.hid (HB0.out.trans (hb.mono HB0.out.size))
      have HZ1 : Hid (w.heap.size ≤ w1.heap.size) := Lib.hid hb.size
      have HKb1 := Lib.hid hk
      replace HZ1 : Hid (w.heap.size < w1.heap.size) := Lib.hid (by omega)
      have HE1 := Lib.hid hz
      clear hb hk hz
      have ltb := lt_of_block HKb1.out
      obtain ⟨cb0, cb1, fb0, fb1⟩ := cell2 HKb1.out
      go_wp2_with fail
      go_ret
      exact ⟨rfl, HB1.out⟩
    · have h3 : ((ss.length : Int) != (ls.length : Int)) = true := by
        rw [bne_iff_ne]; intro e; exact hn ⟨by omega, by omega⟩
      clear h hn
      have HB0 : Hid (Below w.heap.size w w) := Lib.hid (Below.refl _ _)
      go_enter Tryd.func21, Tryd.ntmps21
      go_wp2_with fail
      have hb : Below w.heap.size w (w.alloc (.cells #[.slice a1 ls.length c1, .slice a2 ss.length c2] 26)) := (Below.refl _ _).alloc (Nat.le_refl _) _
      have hk : (w.alloc (.cells #[.slice a1 ls.length c1, .slice a2 ss.length c2] 26)).heap[w.heap.size]? = some (.cells #[.slice a1 ls.length c1, .slice a2 ss.length c2] 26 (0, 0)) := alloc_at rfl
      have hz : (w.alloc (.cells #[.slice a1 ls.length c1, .slice a2 ss.length c2] 26)).heap.size = w.heap.size + 1 := by simp
      generalize w.alloc (.cells #[.slice a1 ls.length c1, .slice a2 ss.length c2] 26) = w1 at hb hk hz ⊢
      have HB1 : Hid (Below w.heap.size w w1) := Lib.hid (HB0.out.trans (hb.mono HB0.out.size))
      have HZ1 : Hid (w.heap.size ≤ w1.heap.size) := Lib.hid hb.size
      have HKb1 := Lib.hid hk
      replace HZ1 : Hid (w.heap.size < w1.heap.size) := Lib.hid (by omega)
      have HE1 := Lib.hid hz
      clear hb hk hz
      have ltb := lt_of_block HKb1.out
      obtain ⟨cb0, cb1, fb0, fb1⟩ := cell2 HKb1.out
      go_wp2_with fail
      go_ret
      exact ⟨rfl, HB1.out⟩
set_option maxRecDepth 100000 in
set_option maxHeartbeats 1600000 in
theorem implIsBoard_in (v1 v2 : Value) (ls ss : List Int) (w : World) (h : BrdR w v1 v2 ls ss) (hn : 1 ≤ ls.length ∧ ls.length ≤ 6) (hs : ss.length = ls.length) (r : Bool) (hr : r = true ↔ ctr ls ∧ ctr ss) :
    Calls Tryd.prog 21 #[.agg #[v1, v2]] w fun e w' => e = .returned (.bool r) ∧ Below w.heap.size w w' := by
  obtain ⟨a1, c1, a2, c2, rfl, rfl⟩ := h.form
  have h1 : ¬ ((ls.length : Int) < 1) := by omega
  have h2 : ¬ (6 < (ls.length : Int)) := by omega
  have h3 : ((ss.length : Int) != (ls.length : Int)) = false := by rw [hs]; simp
  have hs12 : ss.length ≤ 12 := by omega
  have hl12 : ls.length ≤ 12 := by omega
  by_cases hc : ctr ls
  · have HC := Lib.hid hc
    have HR : Hid (r = true ↔ ctr ss) := Lib.hid ⟨fun e => (hr.1 e).2, fun e => hr.2 ⟨hc, e⟩⟩
    have HB0 : Hid (Below w.heap.size w w) := Lib.hid (Below.refl _ _)
    have HRf0 := Lib.hid (h)
    clear h hr hc hs hn
    go_enter Tryd.func21, Tryd.ntmps21
    go_wp2_with fail
    have hb : Below w.heap.size w (w.alloc (.cells #[.slice a1 ls.length c1, .slice a2 ss.length c2] 26)) := (Below.refl _ _).alloc (Nat.le_refl _) _
    have hk : (w.alloc (.cells #[.slice a1 ls.length c1, .slice a2 ss.length c2] 26)).heap[w.heap.size]? = some (.cells #[.slice a1 ls.length c1, .slice a2 ss.length c2] 26 (0, 0)) := alloc_at rfl
    have hz : (w.alloc (.cells #[.slice a1 ls.length c1, .slice a2 ss.length c2] 26)).heap.size = w.heap.size + 1 := by simp
    generalize w.alloc (.cells #[.slice a1 ls.length c1, .slice a2 ss.length c2] 26) = w1 at hb hk hz ⊢
    have HB1 : Hid (Below w.heap.size w w1) := Lib.hid (HB0.out.trans (hb.mono HB0.out.size))
    have HZ1 : Hid (w.heap.size ≤ w1.heap.size) := Lib.hid hb.size
    have HRf1 := Lib.hid (HRf0.out.below HB1.out (Nat.le_refl _))
    have HKb1 := Lib.hid hk
    replace HZ1 : Hid (w.heap.size < w1.heap.size) := Lib.hid (by omega)
    have HE1 := Lib.hid hz
    clear hb hk hz
    have ltb := lt_of_block HKb1.out
    obtain ⟨cb0, cb1, fb0, fb1⟩ := cell2 HKb1.out
    go_wp2_with fail
    refine (areCounters_any _ ls _ HRf1.out.1 hl12 true (Lib.hid ⟨fun _ => HC.out, fun _ => rfl⟩)).mono ?_
    rintro e w2 ⟨rfl, hb⟩
    have HB2 : Hid (Below w.heap.size w w2) := Lib.hid (HB1.out.trans (hb.mono HB1.out.size))
    have HZ2 : Hid (w1.heap.size ≤ w2.heap.size) := Lib.hid hb.size
    have HRf2 := Lib.hid (HRf0.out.below HB2.out (Nat.le_refl _))
    have HKb2 := Lib.hid ((hb.block _ (lt_of_block HKb1.out)).trans HKb1.out)
    clear hb
    clear cb0 cb1 fb0 fb1 ltb
    have ltb := lt_of_block HKb2.out
    obtain ⟨cb0, cb1, fb0, fb1⟩ := cell2 HKb2.out
    go_wp2_with fail
    refine (areCounters_any _ ss _ HRf2.out.2 hs12 r HR).mono ?_
    rintro e w3 ⟨rfl, hb⟩
    have HB3 : Hid (Below w.heap.size w w3) := Lib.hid (HB2.out.trans (hb.mono HB2.out.size))
    have HZ3 : Hid (w2.heap.size ≤ w3.heap.size) := Lib.hid hb.size
    have HRf3 := Lib.hid (HRf0.out.below HB3.out (Nat.le_refl _))
    have HKb3 := Lib.hid ((hb.block _ (lt_of_block HKb2.out)).trans HKb2.out)
    clear hb
    clear cb0 cb1 fb0 fb1 ltb
    have ltb := lt_of_block HKb3.out
    obtain ⟨cb0, cb1, fb0, fb1⟩ := cell2 HKb3.out
    go_wp2_with fail
    go_ret
    exact ⟨rfl, HB3.out⟩
  · have HC := Lib.hid hc
    obtain rfl : r = false := Bool.eq_false_iff.2 fun e => hc (hr.1 e).1
    have HB0 : Hid (Below w.heap.size w w) := Lib.hid (Below.refl _ _)
    have HRf0 := Lib.hid (h)
    clear h hr hc hs hn
    go_enter Tryd.func21, Tryd.ntmps21
    go_wp2_with fail
    have hb : Below w.heap.size w (w.alloc (.cells #[.slice a1 ls.length c1, .slice a2 ss.length c2] 26)) := (Below.refl _ _).alloc (Nat.le_refl _) _
    have hk : (w.alloc (.cells #[.slice a1 ls.length c1, .slice a2 ss.length c2] 26)).heap[w.heap.size]? = some (.cells #[.slice a1 ls.length c1, .slice a2 ss.length c2] 26 (0, 0)) := alloc_at rfl
    have hz : (w.alloc (.cells #[.slice a1 ls.length c1, .slice a2 ss.length c2] 26)).heap.size = w.heap.size + 1 := by simp
    generalize w.alloc (.cells #[.slice a1 ls.length c1, .slice a2 ss.length c2] 26) = w1 at hb hk hz ⊢
    have HB1 : Hid (Below w.heap.size w w1) := Lib.hid (HB0.out.trans (hb.mono HB0.out.size))
    have HZ1 : Hid (w.heap.size ≤ w1.heap.size) := Lib.hid hb.size
    have HRf1 := Lib.hid (HRf0.out.below HB1.out (Nat.le_refl _))
    have HKb1 := Lib.hid hk
    replace HZ1 : Hid (w.heap.size < w1.heap.size) := Lib.hid (by omega)
    have HE1 := Lib.hid hz
    clear hb hk hz
    have ltb := lt_of_block HKb1.out
    obtain ⟨cb0, cb1, fb0, fb1⟩ := cell2 HKb1.out
    go_wp2_with fail
    refine (areCounters_any _ ls _ HRf1.out.1 hl12 false (Lib.hid ⟨fun e => by simp at e, fun e => absurd e HC.out⟩)).mono ?_
    rintro e w2 ⟨rfl, hb⟩
    have HB2 : Hid (Below w.heap.size w w2) := Lib.hid (HB1.out.trans (hb.mono HB1.out.size))
    have HZ2 : Hid (w1.heap.size ≤ w2.heap.size) := Lib.hid hb.size
    have HRf2 := Lib.hid (HRf0.out.below HB2.out (Nat.le_refl _))
    have HKb2 := Lib.hid ((hb.block _ (lt_of_block HKb1.out)).trans HKb1.out)
    clear hb
    clear cb0 cb1 fb0 fb1 ltb
    have ltb := lt_of_block HKb2.out
    obtain ⟨cb0, cb1, fb0, fb1⟩ := cell2 HKb2.out
    go_wp2_with fail
    go_ret
    exact ⟨rfl, HB2.out⟩
theorem implIsBoard_any (v1 v2 : Value) (ls ss : List Int) (w : World) (h : BrdR w v1 v2 ls ss) (r : Bool) (hr : r = true ↔ okB ls ss) :
    Calls Tryd.prog 21 #[.agg #[v1, v2]] w fun e w' => e = .returned (.bool r) ∧ Below w.heap.size w w' := by
  by_cases hn : (1 ≤ ls.length ∧ ls.length ≤ 6) ∧ ss.length = ls.length
  · exact implIsBoard_in v1 v2 ls ss w h hn.1 hn.2 r (by rw [hr, okB_iff]; exact ⟨fun e => e.2, fun e => ⟨hn, e⟩⟩)
  · obtain rfl : r = false := Bool.eq_false_iff.2 fun e => hn ((okB_iff ls ss).1 (hr.1 e)).1
    exact implIsBoard_len v1 v2 ls ss w h hn
end Go.Proofs.YtbdddpchlmddbaaDoor
