/- The model's test of a word, and of one pupil. -/
import Derived.Test.YtlhcediejccieaaPupils
import Derived.Test.YtlhcediejccieaaKa
namespace Go.Proofs.Ytlhcediejccieaa
set_option linter.unusedVariables false
open Go.RowKit

def letter (b : UInt8) : Prop := 97 ≤ b.toNat ∧ b.toNat ≤ 122
def isWord (s : ByteArray) : Prop := (∀ (k : Nat) (h : k < s.size), letter s[k]) ∧ 1 ≤ s.size ∧ s.size ≤ 10
/-- The first place of a list where P is false, or its length. -/
theorem first_bad' (n : Nat) (P : (i : Nat) → i < n → Prop) : ∃ p, p ≤ n ∧ (∀ i (h : i < n), i < p → P i h) ∧ ∀ h : p < n, ¬ P p h := by
  by_cases hex : ∃ k, k < n ∧ ∃ hk : k < n, ¬ P k hk
  · obtain ⟨p, hp, ⟨hk, hb⟩, hpre⟩ := first_idx n (fun k => ∃ hk : k < n, ¬ P k hk) hex
    exact ⟨p, Nat.le_of_lt hp, fun i h hi => Classical.byContradiction fun hc => hpre i hi ⟨h, hc⟩, fun _ => hb⟩
  · exact ⟨n, Nat.le_refl _, fun i h _ => Classical.byContradiction fun hc => hex ⟨i, h, h, hc⟩, fun h => absurd h (Nat.lt_irrefl _)⟩

set_option maxRecDepth 100000 in
set_option maxHeartbeats 1600000 in
theorem l2Word_scan (s : ByteArray) (w : World) (hs : s.size ≤ maxLen) (p : Nat) (hp : p ≤ s.size) (hpre : ∀ (k : Nat) (h : k < s.size), k < p → letter s[k]) (hx : ∀ h : p < s.size, ¬ letter s[p]) :
    Calls Try.prog 66 #[.string s] w fun e w' => e = .returned (.bool (decide (p = s.size) && inB s.size 1 10)) ∧ w' = w := by
  have hm : s.size ≤ 9223372036854775807 := hs
  have HP := Lib.hid hpre
  have HX := Lib.hid hx
  clear hpre hx hs
  go_enter Try.func66, Try.ntmps66
  go_wp2_with fail
  go_loopw [3] (fun i wr => ∃ k : Nat, k ≤ p ∧ i = .int .i64 k ∧ wr = w) (fun i _ => s.size - (intOf i).toNat)
  case atStart => exact ⟨0, Nat.zero_le _, rfl, rfl⟩
  case round =>
    obtain ⟨k, hk, rfl, rfl⟩ := hrel
    by_cases hlt : k < s.size
    · have z1 : (0 : Int) ≤ (k : Int) := by omega
      have z2 : (k : Int) < (s.size : Int) := by omega
      by_cases hkp : k < p
      · obtain ⟨d1, d2⟩ := HP.out k hlt hkp
        have d3 : (97 : Int) ≤ (s[k].toNat : Int) := by omega
        have d4 : (s[k].toNat : Int) ≤ 122 := by omega
        clear d1 d2
        go_wp2_with fail
        go_roundw
        case rel => exact ⟨k + 1, by omega, by go_num, trivial⟩
        case measure => simp [intOf]; omega
      · have hke : k = p := by omega
        subst hke
        have hq := HX.out hlt
        have HNE : Hid (decide (k = s.size) = false) := Lib.hid (decide_eq_false (by omega))
        by_cases h1 : (s[k].toNat : Int) < 97
        · go_wp2_with fail
          go_ret
          refine ⟨?_, rfl⟩
          show Ending.returned (.bool false) = _
          exact ret_bool (by rw [HNE.out, Bool.false_and])
        · have h2 : (122 : Int) < (s[k].toNat : Int) := by
            unfold letter at hq
            omega
          clear hq
          go_wp2_with fail
          go_ret
          refine ⟨?_, rfl⟩
          show Ending.returned (.bool false) = _
          exact ret_bool (by rw [HNE.out, Bool.false_and])
    · have HPE : Hid (decide (p = s.size) = true) := Lib.hid (decide_eq_true (by omega))
      go_wp2_with fail
      refine (l1In_anyq _ _ _ _).mono ?_
      rintro e w' ⟨rfl, hw⟩
      subst w'
      go_wp2_with fail
      go_ret
      exact ⟨ret_bool (by rw [HPE.out, Bool.true_and]), rfl⟩
theorem l2Word_yes (s : ByteArray) (w : World) (hs : s.size ≤ maxLen) (h : isWord s) :
    Calls Try.prog 66 #[.string s] w fun e w' => e = .returned (.bool true) ∧ w' = w := by
  have := l2Word_scan s w hs s.size (Nat.le_refl _) (fun k hk _ => h.1 k hk) (fun h => absurd h (Nat.lt_irrefl _))
  rw [inB_yes (by have := h.2.1; omega) (by have := h.2.2; omega)] at this
  simpa using this
theorem l2Word_no (s : ByteArray) (w : World) (hs : s.size ≤ maxLen) (h : ¬ isWord s) :
    Calls Try.prog 66 #[.string s] w fun e w' => e = .returned (.bool false) ∧ w' = w := by
  obtain ⟨p, hp, hpre, hx⟩ := first_bad' s.size (fun k hk => letter s[k])
  have := l2Word_scan s w hs p hp hpre hx
  by_cases hpe : p = s.size
  · have hn : ¬ ((1 : Int) ≤ (s.size : Int) ∧ (s.size : Int) ≤ 10) := fun hh => h ⟨fun k hk => hpre k hk (by omega), by omega, by omega⟩
    rw [inB_no hn, Bool.and_false] at this
    exact this
  · rw [decide_eq_false hpe, Bool.false_and] at this
    exact this

def okPu (p : Pu) : Prop := (1 ≤ p.id ∧ p.id ≤ 999) ∧ isWord p.name ∧ (1900 ≤ p.born ∧ p.born ≤ 2100) ∧ (0 ≤ p.cls ∧ p.cls ≤ 9) ∧ (0 ≤ p.lvl ∧ p.lvl ≤ 10)
set_option maxRecDepth 100000 in
set_option maxHeartbeats 3200000 in
theorem l3One_yes (p : Pu) (w : World) (hs : p.name.size ≤ maxLen) (h : okPu p) :
    Calls Try.prog 54 #[puV p] w fun e w' => e = .returned (.bool true) ∧ Below w.heap.size w w' := by
  obtain ⟨id, name, born, cls, lvl⟩ := p
  obtain ⟨h1, h2, h3, h4, h5⟩ := h
  show Calls Try.prog 54 #[.agg #[.int .i64 id, .string name, .int .i64 born, .int .i64 cls, .int .i64 lvl]] w fun e w' => e = .returned (.bool true) ∧ Below w.heap.size w w'
  have H2 := Lib.hid h2
  have HS := Lib.hid hs
  clear h2 hs
  have HB0 : Hid (Below w.heap.size w w) := Lib.hid (Below.refl _ _)
  go_enter Try.func54, Try.ntmps54
  go_wp2_with fail
  have hb : Below w.heap.size w (w.alloc (.cells #[.int .i64 id, .string name, .int .i64 born, .int .i64 cls, .int .i64 lvl] 38)) := (Below.refl _ _).alloc (Nat.le_refl _) _
  have hk : (w.alloc (.cells #[.int .i64 id, .string name, .int .i64 born, .int .i64 cls, .int .i64 lvl] 38)).heap[w.heap.size]? = some (.cells #[.int .i64 id, .string name, .int .i64 born, .int .i64 cls, .int .i64 lvl] 38 (0, 0)) := alloc_at rfl
  have hz : (w.alloc (.cells #[.int .i64 id, .string name, .int .i64 born, .int .i64 cls, .int .i64 lvl] 38)).heap.size = w.heap.size + 1 := by simp
  generalize w.alloc (.cells #[.int .i64 id, .string name, .int .i64 born, .int .i64 cls, .int .i64 lvl] 38) = w1 at hb hk hz ⊢
  have HB1 : Hid (Below w.heap.size w w1) := Lib.hid (HB0.out.trans (hb.mono HB0.out.size))
  have HZ1 : Hid (w.heap.size ≤ w1.heap.size) := Lib.hid hb.size
  have HKf1 := Lib.hid hk
  replace HZ1 : Hid (w.heap.size < w1.heap.size) := Lib.hid (by omega)
  have HE1 := Lib.hid hz
  clear hb hk hz
  have ltf := lt_of_block HKf1.out
  obtain ⟨cf0, cf1, cf2, cf3, cf4, ff0, ff1, ff2, ff3, ff4⟩ := cell5 HKf1.out
  refine (l1In_yesq _ _ _ _ h1).mono ?_
  rintro e w' ⟨rfl, hw⟩
  subst w'
  go_wp2_with fail
  refine (l2Word_yes _ _ HS.out H2.out).mono ?_
  rintro e w' ⟨rfl, hw⟩
  subst w'
  go_wp2_with fail
  refine (l1In_yesq _ _ _ _ h3).mono ?_
  rintro e w' ⟨rfl, hw⟩
  subst w'
  go_wp2_with fail
  refine (l1In_yesq _ _ _ _ h4).mono ?_
  rintro e w' ⟨rfl, hw⟩
  subst w'
  go_wp2_with fail
  refine (l1In_yesq _ _ _ _ h5).mono ?_
  rintro e w' ⟨rfl, hw⟩
  subst w'
  go_wp2_with fail
  go_ret
  exact ⟨rfl, HB1.out⟩
set_option maxRecDepth 100000 in
set_option maxHeartbeats 3200000 in
theorem l3One_no (p : Pu) (w : World) (hs : p.name.size ≤ maxLen) (h : ¬ okPu p) :
    Calls Try.prog 54 #[puV p] w fun e w' => e = .returned (.bool false) ∧ Below w.heap.size w w' := by
  obtain ⟨id, name, born, cls, lvl⟩ := p
  show Calls Try.prog 54 #[.agg #[.int .i64 id, .string name, .int .i64 born, .int .i64 cls, .int .i64 lvl]] w fun e w' => e = .returned (.bool false) ∧ Below w.heap.size w w'
  have HN := Lib.hid h
  have HS := Lib.hid hs
  clear h hs
  have HB0 : Hid (Below w.heap.size w w) := Lib.hid (Below.refl _ _)
  go_enter Try.func54, Try.ntmps54
  go_wp2_with fail
  have hb : Below w.heap.size w (w.alloc (.cells #[.int .i64 id, .string name, .int .i64 born, .int .i64 cls, .int .i64 lvl] 38)) := (Below.refl _ _).alloc (Nat.le_refl _) _
  have hk : (w.alloc (.cells #[.int .i64 id, .string name, .int .i64 born, .int .i64 cls, .int .i64 lvl] 38)).heap[w.heap.size]? = some (.cells #[.int .i64 id, .string name, .int .i64 born, .int .i64 cls, .int .i64 lvl] 38 (0, 0)) := alloc_at rfl
  have hz : (w.alloc (.cells #[.int .i64 id, .string name, .int .i64 born, .int .i64 cls, .int .i64 lvl] 38)).heap.size = w.heap.size + 1 := by simp
  generalize w.alloc (.cells #[.int .i64 id, .string name, .int .i64 born, .int .i64 cls, .int .i64 lvl] 38) = w1 at hb hk hz ⊢
  have HB1 : Hid (Below w.heap.size w w1) := Lib.hid (HB0.out.trans (hb.mono HB0.out.size))
  have HZ1 : Hid (w.heap.size ≤ w1.heap.size) := Lib.hid hb.size
  have HKf1 := Lib.hid hk
  replace HZ1 : Hid (w.heap.size < w1.heap.size) := Lib.hid (by omega)
  have HE1 := Lib.hid hz
  clear hb hk hz
  have ltf := lt_of_block HKf1.out
  obtain ⟨cf0, cf1, cf2, cf3, cf4, ff0, ff1, ff2, ff3, ff4⟩ := cell5 HKf1.out
  by_cases h1 : 1 ≤ id ∧ id ≤ 999
  · refine (l1In_yesq _ _ _ _ h1).mono ?_
    rintro e w' ⟨rfl, hw⟩
    subst w'
    go_wp2_with fail
    by_cases h2 : isWord name
    · have H2 := Lib.hid h2
      clear h2
      refine (l2Word_yes _ _ HS.out H2.out).mono ?_
      rintro e w' ⟨rfl, hw⟩
      subst w'
      go_wp2_with fail
      by_cases h3 : 1900 ≤ born ∧ born ≤ 2100
      · refine (l1In_yesq _ _ _ _ h3).mono ?_
        rintro e w' ⟨rfl, hw⟩
        subst w'
        go_wp2_with fail
        by_cases h4 : 0 ≤ cls ∧ cls ≤ 9
        · refine (l1In_yesq _ _ _ _ h4).mono ?_
          rintro e w' ⟨rfl, hw⟩
          subst w'
          go_wp2_with fail
          refine (l1In_noq _ _ _ _ (fun h5 => HN.out ⟨h1, H2.out, h3, h4, h5⟩)).mono ?_
          rintro e w' ⟨rfl, hw⟩
          subst w'
          go_wp2_with fail
          go_ret
          exact ⟨rfl, HB1.out⟩
        · refine (l1In_noq _ _ _ _ h4).mono ?_
          rintro e w' ⟨rfl, hw⟩
          subst w'
          go_wp2_with fail
          go_ret
          exact ⟨rfl, HB1.out⟩
      · refine (l1In_noq _ _ _ _ h3).mono ?_
        rintro e w' ⟨rfl, hw⟩
        subst w'
        go_wp2_with fail
        go_ret
        exact ⟨rfl, HB1.out⟩
    · have H2 := Lib.hid h2
      clear h2
      refine (l2Word_no _ _ HS.out H2.out).mono ?_
      rintro e w' ⟨rfl, hw⟩
      subst w'
      go_wp2_with fail
      go_ret
      exact ⟨rfl, HB1.out⟩
  · refine (l1In_noq _ _ _ _ h1).mono ?_
    rintro e w' ⟨rfl, hw⟩
    subst w'
    go_wp2_with fail
    go_ret
    exact ⟨rfl, HB1.out⟩
end Go.Proofs.Ytlhcediejccieaa
