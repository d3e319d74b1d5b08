/- The reference model's test of a frame. -/
import Derived.Test.YthmbehknacjodaaKb
import Derived.Test.YthmbehknacjodaaKa
namespace Go.Proofs.Ythmbehknacjodaa
set_option linter.unusedVariables false
open Go.RowKit

def rodOk (up lo : Int) (r : Int × Int) : Prop := (0 ≤ r.1 ∧ r.1 ≤ up) ∧ (0 ≤ r.2 ∧ r.2 ≤ lo)
def goodF (up lo : Int) (rs : List (Int × Int)) : Prop := (∀ (i : Nat) (h : i < rs.length), rodOk up lo rs[i]) ∧ (1 ≤ up ∧ up ≤ 2) ∧ (4 ≤ lo ∧ lo ≤ 5) ∧ (1 ≤ rs.length ∧ rs.length ≤ 8)

set_option maxRecDepth 100000 in
set_option maxHeartbeats 1600000 in
theorem l2Good_yes (up lo : Int) (sv : Value) (rs : List (Int × Int)) (w : World) (h : RodsR w sv rs) (hg : goodF up lo rs) :
    Calls Try.prog 134 #[.agg #[.int .i64 up, .int .i64 lo, sv]] w fun e w' => e = .returned (.bool true) ∧ Below w.heap.size w w' := by
  obtain ⟨a, cp, rfl, ⟨m1, _⟩, r1⟩ := h
  obtain ⟨g1, ⟨g2, g3⟩, ⟨g4, g5⟩, g6, g7⟩ := hg
  have R1 := Lib.hid r1
  have G1 := Lib.hid g1
  clear r1 g1 m1
  go_enter Try.func134, Try.ntmps134
  go_wp2_with fail
  go_loopw [3] (fun i wr => ∃ k : Nat, k ≤ rs.length ∧ i = .int .i64 k ∧ wr.heap[w.heap.size]? = some (.cells #[.int .i64 up, .int .i64 lo, .slice a rs.length cp] 42 (0, 0)) ∧ Below w.heap.size w wr) (fun i _ => rs.length - (intOf i).toNat)
  case atStart => exact ⟨0, Nat.zero_le _, rfl, alloc_at rfl, (Below.refl _ _).alloc (Nat.le_refl _) _⟩
  case round =>
    obtain ⟨k, hk, rfl, hh, hb⟩ := hrel
    obtain ⟨c0, c1, c2, _, _, _⟩ := cell3 hh
    have HH := Lib.hid hh
    have HB := Lib.hid hb
    by_cases hlt : k < rs.length
    · obtain ⟨b1, o1, rfl, l1, k1⟩ := R1.out (by intro e; subst e; simp at hlt)
      have p1 := (hb.cell (p := ⟨b1, o1 + k * 2, none⟩) l1).trans (k1 k hlt).1
      have p2 := (hb.cell (p := ⟨b1, o1 + k * 2 + 1, none⟩) l1).trans (k1 k hlt).2
      have z1 : (0 : Int) ≤ (k : Int) := by omega
      have z2 : (k : Int) < (rs.length : Int) := by omega
      obtain ⟨⟨d1, d2⟩, d3, d4⟩ := G1.out k hlt
      clear k1 hh hb
      go_wp2_with fail
      go_quiet ((go_at_call 94; exact Calls.quiet_of_same (l1In_yesq _ _ _ _ ⟨by omega, by omega⟩)))
      go_wp2_with fail
      go_roundw
      case rel => exact ⟨k + 1, by omega, by go_num, HH.out, bl_drewN HB.out _⟩
      case measure => simp [intOf]; omega
    · have hke : k = rs.length := by omega
      subst hke
      clear hh hb
      go_wp2_with (go_at_call 94; refine (l1In_yes _ _ _ _ ⟨by omega, by omega⟩).mono ?_; rintro e w' ⟨rfl, rfl⟩)
      go_ret
      exact ⟨rfl, HB.out⟩
set_option maxRecDepth 100000 in
set_option maxHeartbeats 1600000 in
theorem l2Good_bad (up lo : Int) (sv : Value) (rs : List (Int × Int)) (w : World) (h : RodsR w sv rs) (p : Nat) (hp : p < rs.length) (hpre : ∀ (i : Nat) (h : i < rs.length), i < p → rodOk up lo rs[i]) (hx : ¬ rodOk up lo rs[p]) :
    Calls Try.prog 134 #[.agg #[.int .i64 up, .int .i64 lo, sv]] w fun e w' => e = .returned (.bool false) ∧ Below w.heap.size w w' := by
  obtain ⟨a, cp, rfl, ⟨m1, _⟩, r1⟩ := h
  have R1 := Lib.hid r1
  have G1 := Lib.hid hpre
  have HX := Lib.hid hx
  unfold maxLen at m1
  clear r1 hpre hx
  go_enter Try.func134, Try.ntmps134
  go_wp2_with fail
  go_loopw [3] (fun i wr => ∃ k : Nat, k ≤ p ∧ i = .int .i64 k ∧ wr.heap[w.heap.size]? = some (.cells #[.int .i64 up, .int .i64 lo, .slice a rs.length cp] 42 (0, 0)) ∧ Below w.heap.size w wr) (fun i _ => rs.length - (intOf i).toNat)
  case atStart => exact ⟨0, Nat.zero_le _, rfl, alloc_at rfl, (Below.refl _ _).alloc (Nat.le_refl _) _⟩
  case round =>
    obtain ⟨k, hk, rfl, hh, hb⟩ := hrel
    obtain ⟨c0, c1, c2, _, _, _⟩ := cell3 hh
    have HH := Lib.hid hh
    have HB := Lib.hid hb
    have hlt : k < rs.length := by omega
    obtain ⟨b1, o1, rfl, l1, k1⟩ := R1.out (by intro e; subst e; simp at hlt)
    have p1 := (hb.cell (p := ⟨b1, o1 + k * 2, none⟩) l1).trans (k1 k hlt).1
    have p2 := (hb.cell (p := ⟨b1, o1 + k * 2 + 1, none⟩) l1).trans (k1 k hlt).2
    have z1 : (0 : Int) ≤ (k : Int) := by omega
    have z2 : (k : Int) < (rs.length : Int) := by omega
    clear k1 hh hb
    by_cases hkp : k < p
    · obtain ⟨⟨d1, d2⟩, d3, d4⟩ := G1.out k hlt hkp
      go_wp2_with fail
      go_quiet ((go_at_call 94; exact Calls.quiet_of_same (l1In_yesq _ _ _ _ ⟨by omega, by omega⟩)))
      go_wp2_with fail
      go_roundw
      case rel => exact ⟨k + 1, by omega, by go_num, HH.out, bl_drewN HB.out _⟩
      case measure => simp [intOf]; omega
    · have hke : k = p := by omega
      subst hke
      by_cases hf : 0 ≤ rs[k].1 ∧ rs[k].1 ≤ up
      · have q2 : inB rs[k].2 0 lo = false := inB_no fun h2 => HX.out ⟨hf, h2⟩
        have q1 : inB rs[k].1 0 up = true := inB_yes hf.1 hf.2
        clear hf
        go_wp2_with fail
        go_quiet ((go_at_call 94; exact Calls.quiet_of_same (l1In_anyq _ _ _ _)))
        go_wp2_with fail
        go_ret
        exact ⟨rfl, bl_drewN HB.out _⟩
      · have H2 := Lib.hid hf
        clear hf
        go_wp2_with fail
        go_quiet ((go_at_call 94; exact Calls.quiet_of_same (l1In_noq rs[k].1 _ _ _ H2.out)))
        go_wp2_with fail
        go_ret
        exact ⟨rfl, bl_drewN HB.out _⟩
set_option maxRecDepth 100000 in
set_option maxHeartbeats 1600000 in
theorem l2Good_up (up lo : Int) (sv : Value) (rs : List (Int × Int)) (w : World) (h : RodsR w sv rs) (g1 : ∀ (i : Nat) (h : i < rs.length), rodOk up lo rs[i]) (hx : ¬ (1 ≤ up ∧ up ≤ 2)) :
    Calls Try.prog 134 #[.agg #[.int .i64 up, .int .i64 lo, sv]] w fun e w' => e = .returned (.bool false) ∧ Below w.heap.size w w' := by
  obtain ⟨a, cp, rfl, ⟨m1, _⟩, r1⟩ := h
  have R1 := Lib.hid r1
  have G1 := Lib.hid g1
  have HX := Lib.hid hx
  unfold maxLen at m1
  clear r1 g1 hx
  go_enter Try.func134, Try.ntmps134
  go_wp2_with fail
  go_loopw [3] (fun i wr => ∃ k : Nat, k ≤ rs.length ∧ i = .int .i64 k ∧ wr.heap[w.heap.size]? = some (.cells #[.int .i64 up, .int .i64 lo, .slice a rs.length cp] 42 (0, 0)) ∧ Below w.heap.size w wr) (fun i _ => rs.length - (intOf i).toNat)
  case atStart => exact ⟨0, Nat.zero_le _, rfl, alloc_at rfl, (Below.refl _ _).alloc (Nat.le_refl _) _⟩
  case round =>
    obtain ⟨k, hk, rfl, hh, hb⟩ := hrel
    obtain ⟨c0, c1, c2, _, _, _⟩ := cell3 hh
    have HH := Lib.hid hh
    have HB := Lib.hid hb
    by_cases hlt : k < rs.length
    · obtain ⟨b1, o1, rfl, l1, k1⟩ := R1.out (by intro e; subst e; simp at hlt)
      have p1 := (hb.cell (p := ⟨b1, o1 + k * 2, none⟩) l1).trans (k1 k hlt).1
      have p2 := (hb.cell (p := ⟨b1, o1 + k * 2 + 1, none⟩) l1).trans (k1 k hlt).2
      have z1 : (0 : Int) ≤ (k : Int) := by omega
      have z2 : (k : Int) < (rs.length : Int) := by omega
      obtain ⟨⟨d1, d2⟩, d3, d4⟩ := G1.out k hlt
      clear k1 hh hb
      go_wp2_with fail
      go_quiet ((go_at_call 94; exact Calls.quiet_of_same (l1In_yesq _ _ _ _ ⟨by omega, by omega⟩)))
      go_wp2_with fail
      go_roundw
      case rel => exact ⟨k + 1, by omega, by go_num, HH.out, bl_drewN HB.out _⟩
      case measure => simp [intOf]; omega
    · have hke : k = rs.length := by omega
      subst hke
      clear hh hb
      go_wp2_with (go_at_call 94; refine (l1In_no up _ _ _ HX.out).mono ?_; rintro e w' ⟨rfl, rfl⟩)
      go_ret
      exact ⟨rfl, HB.out⟩
set_option maxRecDepth 100000 in
set_option maxHeartbeats 1600000 in
theorem l2Good_lo (up lo : Int) (sv : Value) (rs : List (Int × Int)) (w : World) (h : RodsR w sv rs) (g1 : ∀ (i : Nat) (h : i < rs.length), rodOk up lo rs[i]) (g2 : 1 ≤ up) (g3 : up ≤ 2) (hx : ¬ (4 ≤ lo ∧ lo ≤ 5)) :
    Calls Try.prog 134 #[.agg #[.int .i64 up, .int .i64 lo, sv]] w fun e w' => e = .returned (.bool false) ∧ Below w.heap.size w w' := by
  obtain ⟨a, cp, rfl, ⟨m1, _⟩, r1⟩ := h
  have R1 := Lib.hid r1
  have G1 := Lib.hid g1
  have HX := Lib.hid hx
  unfold maxLen at m1
  clear r1 g1 hx
  go_enter Try.func134, Try.ntmps134
  go_wp2_with fail
  go_loopw [3] (fun i wr => ∃ k : Nat, k ≤ rs.length ∧ i = .int .i64 k ∧ wr.heap[w.heap.size]? = some (.cells #[.int .i64 up, .int .i64 lo, .slice a rs.length cp] 42 (0, 0)) ∧ Below w.heap.size w wr) (fun i _ => rs.length - (intOf i).toNat)
  case atStart => exact ⟨0, Nat.zero_le _, rfl, alloc_at rfl, (Below.refl _ _).alloc (Nat.le_refl _) _⟩
  case round =>
    obtain ⟨k, hk, rfl, hh, hb⟩ := hrel
    obtain ⟨c0, c1, c2, _, _, _⟩ := cell3 hh
    have HH := Lib.hid hh
    have HB := Lib.hid hb
    by_cases hlt : k < rs.length
    · obtain ⟨b1, o1, rfl, l1, k1⟩ := R1.out (by intro e; subst e; simp at hlt)
      have p1 := (hb.cell (p := ⟨b1, o1 + k * 2, none⟩) l1).trans (k1 k hlt).1
      have p2 := (hb.cell (p := ⟨b1, o1 + k * 2 + 1, none⟩) l1).trans (k1 k hlt).2
      have z1 : (0 : Int) ≤ (k : Int) := by omega
      have z2 : (k : Int) < (rs.length : Int) := by omega
      obtain ⟨⟨d1, d2⟩, d3, d4⟩ := G1.out k hlt
      clear k1 hh hb
      go_wp2_with fail
      go_quiet ((go_at_call 94; exact Calls.quiet_of_same (l1In_yesq _ _ _ _ ⟨by omega, by omega⟩)))
      go_wp2_with fail
      go_roundw
      case rel => exact ⟨k + 1, by omega, by go_num, HH.out, bl_drewN HB.out _⟩
      case measure => simp [intOf]; omega
    · have hke : k = rs.length := by omega
      subst hke
      clear hh hb
      go_wp2_with fail
      refine (l1In_yes up _ _ _ ⟨by omega, by omega⟩).mono ?_
      rintro e w' ⟨rfl, rfl⟩
      go_wp2_with fail
      refine (l1In_no lo _ _ _ HX.out).mono ?_
      rintro e w' ⟨rfl, rfl⟩
      go_wp2_with fail
      go_ret
      exact ⟨rfl, HB.out⟩
set_option maxRecDepth 100000 in
set_option maxHeartbeats 1600000 in
theorem l2Good_len (up lo : Int) (sv : Value) (rs : List (Int × Int)) (w : World) (h : RodsR w sv rs) (g1 : ∀ (i : Nat) (h : i < rs.length), rodOk up lo rs[i]) (g2 : 1 ≤ up) (g3 : up ≤ 2) (g4 : 4 ≤ lo) (g5 : lo ≤ 5) (hx : ¬ (1 ≤ (rs.length : Int) ∧ (rs.length : Int) ≤ 8)) :
    Calls Try.prog 134 #[.agg #[.int .i64 up, .int .i64 lo, sv]] w fun e w' => e = .returned (.bool false) ∧ Below w.heap.size w w' := by
  obtain ⟨a, cp, rfl, ⟨m1, _⟩, r1⟩ := h
  have R1 := Lib.hid r1
  have G1 := Lib.hid g1
  have HX := Lib.hid hx
  unfold maxLen at m1
  clear r1 g1 hx
  go_enter Try.func134, Try.ntmps134
  go_wp2_with fail
  go_loopw [3] (fun i wr => ∃ k : Nat, k ≤ rs.length ∧ i = .int .i64 k ∧ wr.heap[w.heap.size]? = some (.cells #[.int .i64 up, .int .i64 lo, .slice a rs.length cp] 42 (0, 0)) ∧ Below w.heap.size w wr) (fun i _ => rs.length - (intOf i).toNat)
  case atStart => exact ⟨0, Nat.zero_le _, rfl, alloc_at rfl, (Below.refl _ _).alloc (Nat.le_refl _) _⟩
  case round =>
    obtain ⟨k, hk, rfl, hh, hb⟩ := hrel
    obtain ⟨c0, c1, c2, _, _, _⟩ := cell3 hh
    have HH := Lib.hid hh
    have HB := Lib.hid hb
    by_cases hlt : k < rs.length
    · obtain ⟨b1, o1, rfl, l1, k1⟩ := R1.out (by intro e; subst e; simp at hlt)
      have p1 := (hb.cell (p := ⟨b1, o1 + k * 2, none⟩) l1).trans (k1 k hlt).1
      have p2 := (hb.cell (p := ⟨b1, o1 + k * 2 + 1, none⟩) l1).trans (k1 k hlt).2
      have z1 : (0 : Int) ≤ (k : Int) := by omega
      have z2 : (k : Int) < (rs.length : Int) := by omega
      obtain ⟨⟨d1, d2⟩, d3, d4⟩ := G1.out k hlt
      clear k1 hh hb
      go_wp2_with fail
      go_quiet ((go_at_call 94; exact Calls.quiet_of_same (l1In_yesq _ _ _ _ ⟨by omega, by omega⟩)))
      go_wp2_with fail
      go_roundw
      case rel => exact ⟨k + 1, by omega, by go_num, HH.out, bl_drewN HB.out _⟩
      case measure => simp [intOf]; omega
    · have hke : k = rs.length := by omega
      subst hke
      clear hh hb
      go_wp2_with fail
      refine (l1In_yes up _ _ _ ⟨by omega, by omega⟩).mono ?_
      rintro e w' ⟨rfl, rfl⟩
      go_wp2_with fail
      refine (l1In_yes lo _ _ _ ⟨by omega, by omega⟩).mono ?_
      rintro e w' ⟨rfl, rfl⟩
      go_wp2_with fail
      refine (l1In_no (rs.length : Int) _ _ _ HX.out).mono ?_
      rintro e w' ⟨rfl, rfl⟩
      go_wp2_with fail
      go_ret
      exact ⟨rfl, HB.out⟩
theorem l2Good_no (up lo : Int) (sv : Value) (rs : List (Int × Int)) (w : World) (h : RodsR w sv rs) (hg : ¬ goodF up lo rs) :
    Calls Try.prog 134 #[.agg #[.int .i64 up, .int .i64 lo, sv]] w fun e w' => e = .returned (.bool false) ∧ Below w.heap.size w w' := by
  by_cases g1 : ∀ (i : Nat) (h : i < rs.length), rodOk up lo rs[i]
  · by_cases g2 : 1 ≤ up ∧ up ≤ 2
    · by_cases g4 : 4 ≤ lo ∧ lo ≤ 5
      · exact l2Good_len up lo sv rs w h g1 g2.1 g2.2 g4.1 g4.2 fun h6 => hg ⟨g1, g2, g4, by omega, by omega⟩
      · exact l2Good_lo up lo sv rs w h g1 g2.1 g2.2 g4
    · exact l2Good_up up lo sv rs w h g1 g2
  · have hex : ∃ k, k < rs.length ∧ ∃ hk : k < rs.length, ¬ rodOk up lo rs[k] := by
      refine Classical.byContradiction fun hn => g1 fun i hi => Classical.byContradiction fun hb => hn ⟨i, hi, hi, hb⟩
    obtain ⟨p, hp, ⟨_, hb⟩, hpre⟩ := first_idx rs.length (fun k => ∃ hk : k < rs.length, ¬ rodOk up lo rs[k]) hex
    exact l2Good_bad up lo sv rs w h p hp (fun i hi hip => Classical.byContradiction fun hn => hpre i hip ⟨hi, hn⟩) hb
end Go.Proofs.Ythmbehknacjodaa
