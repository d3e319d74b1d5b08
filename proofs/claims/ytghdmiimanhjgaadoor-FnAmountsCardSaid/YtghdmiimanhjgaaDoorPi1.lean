/- One pupil: the program's tests. -/
import Derived.Test.YtghdmiimanhjgaaDoorWord
namespace Go.Proofs.YtghdmiimanhjgaaDoor
set_option linter.unusedVariables false
open Go.RowKit

set_option maxRecDepth 100000 in
set_option maxHeartbeats 1600000 in
theorem isWord_scan (s : ByteArray) (w : World) (h1 : 1 ≤ s.size) (h10 : s.size ≤ 10) (p : Nat) (hp : p ≤ s.size) (hpre : ∀ (k : Nat) (h : k < s.size), k < p → letter s[k]) (hx : ∀ h : p < s.size, ¬ letter s[p]) (r : Bool) (hr1 : p < s.size → r = false) (hr2 : p = s.size → r = true) :
    Calls Tryd.prog 36 #[.string s] w fun e w' => e = .returned (.bool r) ∧ w' = w := by
  have HP := Lib.hid hpre
  have HX := Lib.hid hx
  have HR1 := Lib.hid hr1
  have HR2 := Lib.hid hr2
  clear hpre hx hr1 hr2
  go_enter Tryd.func36, Tryd.ntmps36
  go_wp2_with fail
  go_loopw [14] (fun i wr => ∃ k : Nat, k ≤ p ∧ i = .int .i64 k ∧ wr = w) (fun i _ => s.size - (intOf i).toNat)
  case atStart => exact ⟨0, Nat.zero_le _, rfl, rfl⟩
  case round =>
    obtain ⟨k, hk, rfl, rfl⟩ := hrel
    by_cases hlt : k < s.size
    · have z1 : (0 : Int) ≤ (k : Int) := by omega
      have z2 : (k : Int) < (s.size : Int) := by omega
      by_cases hkp : k < p
      · obtain ⟨d1, d2⟩ := HP.out k hlt hkp
        have d3 : (97 : Int) ≤ (s[k].toNat : Int) := by omega
        have d4 : (s[k].toNat : Int) ≤ 122 := by omega
        clear d1 d2
        go_wp2_with fail
        go_roundw
        case rel => exact ⟨k + 1, by omega, by go_num, trivial⟩
        case measure => simp [intOf]; omega
      · have hke : k = p := by omega
        subst hke
        have hq := HX.out hlt
        have HE : Hid (r = false) := Lib.hid (HR1.out hlt)
        by_cases h1 : (s[k].toNat : Int) < 97
        · clear hq
          go_wp2_with fail
          go_ret
          exact ⟨ret_bool HE.out.symm, rfl⟩
        · have h2 : (122 : Int) < (s[k].toNat : Int) := by
            unfold letter at hq
            omega
          clear hq
          go_wp2_with fail
          go_ret
          exact ⟨ret_bool HE.out.symm, rfl⟩
    · have HE : Hid (r = true) := Lib.hid (HR2.out (by omega))
      go_wp2_with fail
      go_ret
      exact ⟨ret_bool HE.out.symm, rfl⟩
set_option maxRecDepth 100000 in
set_option maxHeartbeats 400000 in
theorem isWord_out (s : ByteArray) (w : World) (hs : s.size ≤ maxLen) (h : ¬ (1 ≤ s.size ∧ s.size ≤ 10)) :
    Calls Tryd.prog 36 #[.string s] w fun e w' => e = .returned (.bool false) ∧ w' = w := by
  have hm : s.size ≤ 9223372036854775807 := hs
  by_cases h1 : s.size < 1
  · clear h
    go_enter Tryd.func36, Tryd.ntmps36
    go_wp2_with fail
    go_ret
    exact ⟨rfl, rfl⟩
  · have h2 : 10 < s.size := by omega
    clear h
    go_enter Tryd.func36, Tryd.ntmps36
    go_wp2_with fail
    go_ret
    exact ⟨rfl, rfl⟩
theorem isWord_yes (s : ByteArray) (w : World) (h : isWord s) :
    Calls Tryd.prog 36 #[.string s] w fun e w' => e = .returned (.bool true) ∧ w' = w :=
  isWord_scan s w h.2.1 h.2.2 s.size (Nat.le_refl _) (fun k hk _ => h.1 k hk) (fun h => absurd h (Nat.lt_irrefl _)) true (fun h => absurd h (Nat.lt_irrefl _)) (fun _ => rfl)
theorem isWord_no (s : ByteArray) (w : World) (hs : s.size ≤ maxLen) (h : ¬ isWord s) :
    Calls Tryd.prog 36 #[.string s] w fun e w' => e = .returned (.bool false) ∧ w' = w := by
  by_cases hb : 1 ≤ s.size ∧ s.size ≤ 10
  · obtain ⟨p, hp, hpre, hx⟩ := first_bad' s.size (fun k hk => letter s[k])
    exact isWord_scan s w hb.1 hb.2 p hp hpre hx false (fun _ => rfl) (fun e => absurd ⟨fun k hk => hpre k hk (by omega), hb⟩ h)
  · exact isWord_out s w hs hb
end Go.Proofs.YtghdmiimanhjgaaDoor
