/- The model's test of a word, and of one pupil. -/
import Derived.Test.YtghdmiimanhjgaaDoorPupils
import Derived.Test.YtghdmiimanhjgaaDoorKa
namespace Go.Proofs.YtghdmiimanhjgaaDoor
set_option linter.unusedVariables false
open Go.RowKit

def letter (b : UInt8) : Prop := 97 ≤ b.toNat ∧ b.toNat ≤ 122
def isWord (s : ByteArray) : Prop := (∀ (k : Nat) (h : k < s.size), letter s[k]) ∧ 1 ≤ s.size ∧ s.size ≤ 10
/-- The first place of a list where P is false, or its length. -/
theorem first_bad' (n : Nat) (P : (i : Nat) → i < n → Prop) : ∃ p, p ≤ n ∧ (∀ i (h : i < n), i < p → P i h) ∧ ∀ h : p < n, ¬ P p h := by
  by_cases hex : ∃ k, k < n ∧ ∃ hk : k < n, ¬ P k hk
  · obtain ⟨p, hp, ⟨hk, hb⟩, hpre⟩ := first_idx n (fun k => ∃ hk : k < n, ¬ P k hk) hex
    exact ⟨p, Nat.le_of_lt hp, fun i h hi => Classical.byContradiction fun hc => hpre i hi ⟨h, hc⟩, fun _ => hb⟩
  · exact ⟨n, Nat.le_refl _, fun i h _ => Classical.byContradiction fun hc => hex ⟨i, h, h, hc⟩, fun h => absurd h (Nat.lt_irrefl _)⟩

set_option maxRecDepth 100000 in
set_option maxHeartbeats 1600000 in
theorem l2Word_scan (s : ByteArray) (w : World) (hs : s.size ≤ maxLen) (p : Nat) (hp : p ≤ s.size) (hpre : ∀ (k : Nat) (h : k < s.size), k < p → letter s[k]) (hx : ∀ h : p < s.size, ¬ letter s[p]) :
    Calls Tryd.prog 47 #[.string s] w fun e w' => e = .returned (.bool (decide (p = s.size) && inB s.size 1 10)) ∧ w' = w := by
  have hm : s.size ≤ 9223372036854775807 := hs
  have HP := Lib.hid hpre
  have HX := Lib.hid hx
  clear hpre hx hs
  go_enter Tryd.func47, Tryd.ntmps47
  go_wp2_with fail
  go_loopw [3] (fun i wr => ∃ k : Nat, k ≤ p ∧ i = .int .i64 k ∧ wr = w) (fun i _ => s.size - (intOf i).toNat)
  case atStart => exact ⟨0, Nat.zero_le _, rfl, rfl⟩
  case round =>
    obtain ⟨k, hk, rfl, rfl⟩ := hrel
    by_cases hlt : k < s.size
    · have z1 : (0 : Int) ≤ (k : Int) := by omega
      have z2 : (k : Int) < (s.size : Int) := by omega
      by_cases hkp : k < p
      · obtain ⟨d1, d2⟩ := HP.out k hlt hkp
        have d3 : (97 : Int) ≤ (s[k].toNat : Int) := by omega
        have d4 : (s[k].toNat : Int) ≤ 122 := by omega
        clear d1 d2
        go_wp2_with fail
        go_roundw
        case rel => exact ⟨k + 1, by omega, by go_num, trivial⟩
        case measure => simp [intOf]; omega
      · have hke : k = p := by omega
        subst hke
        have hq := HX.out hlt
        have HNE : Hid (decide (k = s.size) = false) := Lib.hid (decide_eq_false (by omega))
        by_cases h1 : (s[k].toNat : Int) < 97
        · go_wp2_with fail
          go_ret
          refine ⟨?_, rfl⟩
          show Ending.returned (.bool false) = _
          exact ret_bool (by rw [HNE.out, Bool.false_and])
        · have h2 : (122 : Int) < (s[k].toNat : Int) := by
            unfold letter at hq
            omega
          clear hq
          go_wp2_with fail
          go_ret
          refine ⟨?_, rfl⟩
          show Ending.returned (.bool false) = _
          exact ret_bool (by rw [HNE.out, Bool.false_and])
    · have HPE : Hid (decide (p = s.size) = true) := Lib.hid (decide_eq_true (by omega))
      go_wp2_with fail
      refine (l1In_anyq _ _ _ _).mono ?_
      rintro e w' ⟨rfl, hw⟩
      subst w'
      go_wp2_with fail
      go_ret
      exact ⟨ret_bool (by rw [HPE.out, Bool.true_and]), rfl⟩
theorem l2Word_yes (s : ByteArray) (w : World) (hs : s.size ≤ maxLen) (h : isWord s) :
    Calls Tryd.prog 47 #[.string s] w fun e w' => e = .returned (.bool true) ∧ w' = w := by
  have := l2Word_scan s w hs s.size (Nat.le_refl _) (fun k hk _ => h.1 k hk) (fun h => absurd h (Nat.lt_irrefl _))
  rw [inB_yes (by have := h.2.1; omega) (by have := h.2.2; omega)] at this
  simpa using this
theorem l2Word_no (s : ByteArray) (w : World) (hs : s.size ≤ maxLen) (h : ¬ isWord s) :
    Calls Tryd.prog 47 #[.string s] w fun e w' => e = .returned (.bool false) ∧ w' = w := by
  obtain ⟨p, hp, hpre, hx⟩ := first_bad' s.size (fun k hk => letter s[k])
  have := l2Word_scan s w hs p hp hpre hx
  by_cases hpe : p = s.size
  · have hn : ¬ ((1 : Int) ≤ (s.size : Int) ∧ (s.size : Int) ≤ 10) := fun hh => h ⟨fun k hk => hpre k hk (by omega), by omega, by omega⟩
    rw [inB_no hn, Bool.and_false] at this
    exact this
  · rw [decide_eq_false hpe, Bool.false_and] at this
    exact this

def okPu (p : Pu) : Prop := (1 ≤ p.id ∧ p.id ≤ 999) ∧ isWord p.name ∧ (1900 ≤ p.born ∧ p.born ≤ 2100) ∧ (0 ≤ p.cls ∧ p.cls ≤ 9) ∧ (0 ≤ p.lvl ∧ p.lvl ≤ 10)
end Go.Proofs.YtghdmiimanhjgaaDoor
