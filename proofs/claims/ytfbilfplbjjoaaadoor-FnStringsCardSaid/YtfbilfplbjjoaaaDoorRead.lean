/- The reference model reads a number exactly from the texts that its number text gives. -/
import Derived.Test.YtfbilfplbjjoaaaDoorDig
import Derived.Test.YtfbilfplbjjoaaaDoorFmtc
namespace Go.Proofs.YtfbilfplbjjoaaaDoor
set_option linter.unusedVariables false
open Go.RowKit

theorem lneT {l : List UInt8} {s : ByteArray} (h : l ≠ s.data.toList) : (!l == s.toList) = true := by
  rw [Bool.not_eq_true', beq_eq_false_iff_ne, ByteArray.toList_eq]; exact h
theorem lneF {l : List UInt8} {s : ByteArray} (h : l = s.data.toList) : (!l == s.toList) = false := by
  rw [ByteArray.toList_eq, h]; simp
theorem ext1 (s : ByteArray) : (s.extract 1 s.size).data.toList = s.data.toList.drop 1 := Lib.extract_to_end s 1
theorem ext1_size (s : ByteArray) : (s.extract 1 s.size).size = s.size - 1 := by
  rw [ByteArray.size_extract]; omega
theorem all_take {t : ByteArray} (h : ∀ c ∈ t.data.toList, isD c) (k : Nat) : ∀ c ∈ t.data.toList.take k, isD c := fun c hc => h c (List.mem_of_mem_take hc)
theorem val_take_lt {t : ByteArray} (h : ∀ c ∈ t.data.toList, isD c) (hs : t.size ≤ 6) (k : Nat) : valD 0 (t.data.toList.take k) < 1000000 := by
  have h1 := valD_lt _ (all_take h k)
  have h2 : (t.data.toList.take k).length ≤ 6 := by rw [List.length_take, Array.length_toList]; exact Nat.le_trans (Nat.min_le_right _ _) hs
  have h3 : 10 ^ (t.data.toList.take k).length ≤ 10 ^ 6 := Nat.pow_le_pow_right (by decide) h2
  omega
theorem take_snoc' (t : ByteArray) (k : Nat) (h : k < t.size) : valD 0 (t.data.toList.take (k + 1)) = 10 * valD 0 (t.data.toList.take k) + (t[k].toNat - 48) := by
  rw [take_snoc t k h, valD_snoc]
theorem valD_pre {t : ByteArray} (j : Nat) (hd : ∀ (i : Nat) (h : i < t.size), i < j → isD t[i]) (hs : t.size ≤ 6) (k : Nat) (hk : k ≤ j) : valD 0 (t.data.toList.take k) < 1000000 := by
  have h1 : ∀ c ∈ t.data.toList.take k, isD c := by
    intro c hc
    obtain ⟨i, hi, he⟩ := List.getElem_of_mem hc
    rw [List.length_take, Array.length_toList] at hi
    rw [List.getElem_take] at he
    rw [← he]
    exact hd i (by show i < t.data.size; omega) (by omega)
  have h1 := valD_lt _ h1
  have h2 : (t.data.toList.take k).length ≤ 6 := by rw [List.length_take, Array.length_toList]; exact Nat.le_trans (Nat.min_le_right _ _) hs
  have h3 : 10 ^ (t.data.toList.take k).length ≤ 10 ^ 6 := Nat.pow_le_pow_right (by decide) h2
  omega

set_option maxRecDepth 100000 in
set_option maxHeartbeats 400000 in
theorem readA_short (s : ByteArray) (w : World) (hs : s.size ≤ maxLen) (hz : s.size ≤ 1) (h : ¬ (1 ≤ s.size ∧ s.size ≤ 6)) :
    Calls Tryd.prog 24 #[.string s] w fun e w' => e = .returned (.tuple #[.int .i64 0, .bool false]) ∧ ∃ m, w' = w.drewN m := by
  unfold maxLen at hs
  have H := Lib.hid h
  clear h
  go_enter Tryd.func24, Tryd.ntmps24
  go_wp2_with fail
  refine (l1In_no _ _ _ _ (fun h => H.out ⟨by omega, by omega⟩)).mono ?_
  rintro e w1 ⟨rfl, rfl⟩
  go_wp2_with fail
  go_ret2
  exact ⟨rfl, 0, rfl⟩

set_option maxRecDepth 100000 in
set_option maxHeartbeats 400000 in
theorem readA_bad_lo (s : ByteArray) (w : World) (hs : s.size ≤ maxLen) (hz : s.size ≤ 1) (h : 1 ≤ s.size ∧ s.size ≤ 6) (m : Nat) (hlt : m < s.size) (hb : (s[m].toNat : Int) < 48) (hd : ∀ (i : Nat) (h : i < s.size), i < m → isD s[i]) :
    Calls Tryd.prog 24 #[.string s] w fun e w' => e = .returned (.tuple #[.int .i64 0, .bool false]) ∧ ∃ m, w' = w.drewN m := by
  unfold maxLen at hs
  obtain ⟨h1, h2⟩ := h
  have HD := Lib.hid hd
  clear hd
  go_enter Tryd.func24, Tryd.ntmps24
  go_wp2_with fail
  refine (l1In_yes _ _ _ _ ⟨by omega, by omega⟩).mono ?_
  rintro e w1 ⟨rfl, rfl⟩
  go_wp2_with fail
  go_loop [5, 6] (fun n i => ∃ k : Nat, k ≤ m ∧ i = .int .i64 k ∧ n = .int .i64 (valD 0 (s.data.toList.take k) : Nat)) (fun _ i => s.size - (intOf i).toNat)
  case atStart => exact ⟨0, Nat.zero_le _, rfl, rfl⟩
  case round =>
    obtain ⟨k, hk, rfl, rfl⟩ := hrel
    have hv := valD_pre m HD.out h2 k hk
    have hlt' : k < s.size := by omega
    by_cases he : k = m
    · subst he
      go_wp2_with fail
      go_ret2
      exact ⟨rfl, 0, rfl⟩
    · have hkm : k < m := by omega
      clear he
      obtain ⟨d1, d2⟩ := HD.out k hlt' hkm
      have d3 : (48 : Int) ≤ (s[k].toNat : Int) := by omega
      have d4 : (s[k].toNat : Int) ≤ 57 := by omega
      have HS := Lib.hid (take_snoc' s k hlt')
      go_wp2_with fail
      all_goals
        go_round
        case rel => exact ⟨k + 1, by omega, by go_num, by rw [HS.out]; congr 1; omega⟩
        case measure => simp [intOf]; omega

set_option maxRecDepth 100000 in
set_option maxHeartbeats 400000 in
theorem readA_bad_hi (s : ByteArray) (w : World) (hs : s.size ≤ maxLen) (hz : s.size ≤ 1) (h : 1 ≤ s.size ∧ s.size ≤ 6) (m : Nat) (hlt : m < s.size) (hb : 57 < (s[m].toNat : Int)) (hd : ∀ (i : Nat) (h : i < s.size), i < m → isD s[i]) :
    Calls Tryd.prog 24 #[.string s] w fun e w' => e = .returned (.tuple #[.int .i64 0, .bool false]) ∧ ∃ m, w' = w.drewN m := by
  unfold maxLen at hs
  obtain ⟨h1, h2⟩ := h
  have HD := Lib.hid hd
  clear hd
  go_enter Tryd.func24, Tryd.ntmps24
  go_wp2_with fail
  refine (l1In_yes _ _ _ _ ⟨by omega, by omega⟩).mono ?_
  rintro e w1 ⟨rfl, rfl⟩
  go_wp2_with fail
  go_loop [5, 6] (fun n i => ∃ k : Nat, k ≤ m ∧ i = .int .i64 k ∧ n = .int .i64 (valD 0 (s.data.toList.take k) : Nat)) (fun _ i => s.size - (intOf i).toNat)
  case atStart => exact ⟨0, Nat.zero_le _, rfl, rfl⟩
  case round =>
    obtain ⟨k, hk, rfl, rfl⟩ := hrel
    have hv := valD_pre m HD.out h2 k hk
    have hlt' : k < s.size := by omega
    by_cases he : k = m
    · subst he
      go_wp2_with fail
      go_ret2
      exact ⟨rfl, 0, rfl⟩
    · have hkm : k < m := by omega
      clear he
      obtain ⟨d1, d2⟩ := HD.out k hlt' hkm
      have d3 : (48 : Int) ≤ (s[k].toNat : Int) := by omega
      have d4 : (s[k].toNat : Int) ≤ 57 := by omega
      have HS := Lib.hid (take_snoc' s k hlt')
      go_wp2_with fail
      all_goals
        go_round
        case rel => exact ⟨k + 1, by omega, by go_num, by rw [HS.out]; congr 1; omega⟩
        case measure => simp [intOf]; omega

set_option maxRecDepth 100000 in
set_option maxHeartbeats 400000 in
theorem readA_yes (s : ByteArray) (w : World) (hs : s.size ≤ maxLen) (hz : s.size ≤ 1) (h : 1 ≤ s.size ∧ s.size ≤ 6) (hd : ∀ c ∈ s.data.toList, isD c) (hq : Lib.itoa ((valD 0 s.data.toList : Nat)) = s.data.toList) :
    Calls Tryd.prog 24 #[.string s] w fun e w' => e = .returned (.tuple #[.int .i64 ((valD 0 s.data.toList : Nat)), .bool true]) ∧ ∃ m, w' = w.drewN m := by
  unfold maxLen at hs
  obtain ⟨h1, h2⟩ := h
  have HD := Lib.hid hd
  have hne := lneF hq
  have HNE := Lib.hid hne
  clear hd hq hne
  go_enter Tryd.func24, Tryd.ntmps24
  go_wp2_with fail
  refine (l1In_yes _ _ _ _ ⟨by omega, by omega⟩).mono ?_
  rintro e w1 ⟨rfl, rfl⟩
  go_wp2_with fail
  go_loop [5, 6] (fun n i => ∃ k : Nat, k ≤ s.size ∧ i = .int .i64 k ∧ n = .int .i64 (valD 0 (s.data.toList.take k) : Nat)) (fun _ i => s.size - (intOf i).toNat)
  case atStart => exact ⟨0, Nat.zero_le _, rfl, rfl⟩
  case round =>
    obtain ⟨k, hk, rfl, rfl⟩ := hrel
    have hv := val_take_lt HD.out h2 k
    by_cases hlt' : k < s.size
    · obtain ⟨d1, d2⟩ := HD.out s[k] (List.getElem_mem (l := s.data.toList) (by simpa using hlt'))
      have d3 : (48 : Int) ≤ (s[k].toNat : Int) := by omega
      have d4 : (s[k].toNat : Int) ≤ 57 := by omega
      have HS := Lib.hid (take_snoc' s k hlt')
      clear d1 d2
      go_wp2_with fail
      all_goals
        go_round
        case rel => exact ⟨k + 1, by omega, by go_num, by rw [HS.out]; congr 1; omega⟩
        case measure => simp [intOf]; omega
    · have hk' : k = s.size := by omega
      subst hk'
      rw [List.take_of_length_le (by simp)] at *
      have hne := HNE.out
      go_wp2_with fail
      refine (l1Num_any _ _ (by omega) (by omega)).mono ?_
      rintro e w2 ⟨rfl, m, rfl⟩
      go_wp2_with fail
      go_ret2
      exact ⟨rfl, _, rfl⟩

set_option maxRecDepth 100000 in
set_option maxHeartbeats 400000 in
theorem readA_no (s : ByteArray) (w : World) (hs : s.size ≤ maxLen) (hz : s.size ≤ 1) (h : 1 ≤ s.size ∧ s.size ≤ 6) (hd : ∀ c ∈ s.data.toList, isD c) (hq : Lib.itoa ((valD 0 s.data.toList : Nat)) ≠ s.data.toList) :
    Calls Tryd.prog 24 #[.string s] w fun e w' => e = .returned (.tuple #[.int .i64 0, .bool false]) ∧ ∃ m, w' = w.drewN m := by
  unfold maxLen at hs
  obtain ⟨h1, h2⟩ := h
  have HD := Lib.hid hd
  have hne := lneT hq
  have HNE := Lib.hid hne
  clear hd hq hne
  go_enter Tryd.func24, Tryd.ntmps24
  go_wp2_with fail
  refine (l1In_yes _ _ _ _ ⟨by omega, by omega⟩).mono ?_
  rintro e w1 ⟨rfl, rfl⟩
  go_wp2_with fail
  go_loop [5, 6] (fun n i => ∃ k : Nat, k ≤ s.size ∧ i = .int .i64 k ∧ n = .int .i64 (valD 0 (s.data.toList.take k) : Nat)) (fun _ i => s.size - (intOf i).toNat)
  case atStart => exact ⟨0, Nat.zero_le _, rfl, rfl⟩
  case round =>
    obtain ⟨k, hk, rfl, rfl⟩ := hrel
    have hv := val_take_lt HD.out h2 k
    by_cases hlt' : k < s.size
    · obtain ⟨d1, d2⟩ := HD.out s[k] (List.getElem_mem (l := s.data.toList) (by simpa using hlt'))
      have d3 : (48 : Int) ≤ (s[k].toNat : Int) := by omega
      have d4 : (s[k].toNat : Int) ≤ 57 := by omega
      have HS := Lib.hid (take_snoc' s k hlt')
      clear d1 d2
      go_wp2_with fail
      all_goals
        go_round
        case rel => exact ⟨k + 1, by omega, by go_num, by rw [HS.out]; congr 1; omega⟩
        case measure => simp [intOf]; omega
    · have hk' : k = s.size := by omega
      subst hk'
      rw [List.take_of_length_le (by simp)] at *
      have hne := HNE.out
      go_wp2_with fail
      refine (l1Num_any _ _ (by omega) (by omega)).mono ?_
      rintro e w2 ⟨rfl, m, rfl⟩
      go_wp2_with fail
      go_ret2
      exact ⟨rfl, _, rfl⟩

set_option maxRecDepth 100000 in
set_option maxHeartbeats 400000 in
theorem readB_short (s : ByteArray) (w : World) (hs : s.size ≤ maxLen) (hz : 1 < s.size) (hm : ((s[0].toNat : Int) == 45) = false) (h : ¬ (1 ≤ s.size ∧ s.size ≤ 6)) :
    Calls Tryd.prog 24 #[.string s] w fun e w' => e = .returned (.tuple #[.int .i64 0, .bool false]) ∧ ∃ m, w' = w.drewN m := by
  unfold maxLen at hs
  have H := Lib.hid h
  clear h
  go_enter Tryd.func24, Tryd.ntmps24
  go_wp2_with fail
  refine (l1In_no _ _ _ _ (fun h => H.out ⟨by omega, by omega⟩)).mono ?_
  rintro e w1 ⟨rfl, rfl⟩
  go_wp2_with fail
  go_ret2
  exact ⟨rfl, 0, rfl⟩

set_option maxRecDepth 100000 in
set_option maxHeartbeats 400000 in
theorem readB_bad_lo (s : ByteArray) (w : World) (hs : s.size ≤ maxLen) (hz : 1 < s.size) (hm : ((s[0].toNat : Int) == 45) = false) (h : 1 ≤ s.size ∧ s.size ≤ 6) (m : Nat) (hlt : m < s.size) (hb : (s[m].toNat : Int) < 48) (hd : ∀ (i : Nat) (h : i < s.size), i < m → isD s[i]) :
    Calls Tryd.prog 24 #[.string s] w fun e w' => e = .returned (.tuple #[.int .i64 0, .bool false]) ∧ ∃ m, w' = w.drewN m := by
  unfold maxLen at hs
  obtain ⟨h1, h2⟩ := h
  have HD := Lib.hid hd
  clear hd
  go_enter Tryd.func24, Tryd.ntmps24
  go_wp2_with fail
  refine (l1In_yes _ _ _ _ ⟨by omega, by omega⟩).mono ?_
  rintro e w1 ⟨rfl, rfl⟩
  go_wp2_with fail
  go_loop [5, 6] (fun n i => ∃ k : Nat, k ≤ m ∧ i = .int .i64 k ∧ n = .int .i64 (valD 0 (s.data.toList.take k) : Nat)) (fun _ i => s.size - (intOf i).toNat)
  case atStart => exact ⟨0, Nat.zero_le _, rfl, rfl⟩
  case round =>
    obtain ⟨k, hk, rfl, rfl⟩ := hrel
    have hv := valD_pre m HD.out h2 k hk
    have hlt' : k < s.size := by omega
    by_cases he : k = m
    · subst he
      go_wp2_with fail
      go_ret2
      exact ⟨rfl, 0, rfl⟩
    · have hkm : k < m := by omega
      clear he
      obtain ⟨d1, d2⟩ := HD.out k hlt' hkm
      have d3 : (48 : Int) ≤ (s[k].toNat : Int) := by omega
      have d4 : (s[k].toNat : Int) ≤ 57 := by omega
      have HS := Lib.hid (take_snoc' s k hlt')
      go_wp2_with fail
      all_goals
        go_round
        case rel => exact ⟨k + 1, by omega, by go_num, by rw [HS.out]; congr 1; omega⟩
        case measure => simp [intOf]; omega

set_option maxRecDepth 100000 in
set_option maxHeartbeats 400000 in
theorem readB_bad_hi (s : ByteArray) (w : World) (hs : s.size ≤ maxLen) (hz : 1 < s.size) (hm : ((s[0].toNat : Int) == 45) = false) (h : 1 ≤ s.size ∧ s.size ≤ 6) (m : Nat) (hlt : m < s.size) (hb : 57 < (s[m].toNat : Int)) (hd : ∀ (i : Nat) (h : i < s.size), i < m → isD s[i]) :
    Calls Tryd.prog 24 #[.string s] w fun e w' => e = .returned (.tuple #[.int .i64 0, .bool false]) ∧ ∃ m, w' = w.drewN m := by
  unfold maxLen at hs
  obtain ⟨h1, h2⟩ := h
  have HD := Lib.hid hd
  clear hd
  go_enter Tryd.func24, Tryd.ntmps24
  go_wp2_with fail
  refine (l1In_yes _ _ _ _ ⟨by omega, by omega⟩).mono ?_
  rintro e w1 ⟨rfl, rfl⟩
  go_wp2_with fail
  go_loop [5, 6] (fun n i => ∃ k : Nat, k ≤ m ∧ i = .int .i64 k ∧ n = .int .i64 (valD 0 (s.data.toList.take k) : Nat)) (fun _ i => s.size - (intOf i).toNat)
  case atStart => exact ⟨0, Nat.zero_le _, rfl, rfl⟩
  case round =>
    obtain ⟨k, hk, rfl, rfl⟩ := hrel
    have hv := valD_pre m HD.out h2 k hk
    have hlt' : k < s.size := by omega
    by_cases he : k = m
    · subst he
      go_wp2_with fail
      go_ret2
      exact ⟨rfl, 0, rfl⟩
    · have hkm : k < m := by omega
      clear he
      obtain ⟨d1, d2⟩ := HD.out k hlt' hkm
      have d3 : (48 : Int) ≤ (s[k].toNat : Int) := by omega
      have d4 : (s[k].toNat : Int) ≤ 57 := by omega
      have HS := Lib.hid (take_snoc' s k hlt')
      go_wp2_with fail
      all_goals
        go_round
        case rel => exact ⟨k + 1, by omega, by go_num, by rw [HS.out]; congr 1; omega⟩
        case measure => simp [intOf]; omega

set_option maxRecDepth 100000 in
set_option maxHeartbeats 400000 in
theorem readB_yes (s : ByteArray) (w : World) (hs : s.size ≤ maxLen) (hz : 1 < s.size) (hm : ((s[0].toNat : Int) == 45) = false) (h : 1 ≤ s.size ∧ s.size ≤ 6) (hd : ∀ c ∈ s.data.toList, isD c) (hq : Lib.itoa ((valD 0 s.data.toList : Nat)) = s.data.toList) :
    Calls Tryd.prog 24 #[.string s] w fun e w' => e = .returned (.tuple #[.int .i64 ((valD 0 s.data.toList : Nat)), .bool true]) ∧ ∃ m, w' = w.drewN m := by
  unfold maxLen at hs
  obtain ⟨h1, h2⟩ := h
  have HD := Lib.hid hd
  have hne := lneF hq
  have HNE := Lib.hid hne
  clear hd hq hne
  go_enter Tryd.func24, Tryd.ntmps24
  go_wp2_with fail
  refine (l1In_yes _ _ _ _ ⟨by omega, by omega⟩).mono ?_
  rintro e w1 ⟨rfl, rfl⟩
  go_wp2_with fail
  go_loop [5, 6] (fun n i => ∃ k : Nat, k ≤ s.size ∧ i = .int .i64 k ∧ n = .int .i64 (valD 0 (s.data.toList.take k) : Nat)) (fun _ i => s.size - (intOf i).toNat)
  case atStart => exact ⟨0, Nat.zero_le _, rfl, rfl⟩
  case round =>
    obtain ⟨k, hk, rfl, rfl⟩ := hrel
    have hv := val_take_lt HD.out h2 k
    by_cases hlt' : k < s.size
    · obtain ⟨d1, d2⟩ := HD.out s[k] (List.getElem_mem (l := s.data.toList) (by simpa using hlt'))
      have d3 : (48 : Int) ≤ (s[k].toNat : Int) := by omega
      have d4 : (s[k].toNat : Int) ≤ 57 := by omega
      have HS := Lib.hid (take_snoc' s k hlt')
      clear d1 d2
      go_wp2_with fail
      all_goals
        go_round
        case rel => exact ⟨k + 1, by omega, by go_num, by rw [HS.out]; congr 1; omega⟩
        case measure => simp [intOf]; omega
    · have hk' : k = s.size := by omega
      subst hk'
      rw [List.take_of_length_le (by simp)] at *
      have hne := HNE.out
      go_wp2_with fail
      refine (l1Num_any _ _ (by omega) (by omega)).mono ?_
      rintro e w2 ⟨rfl, m, rfl⟩
      go_wp2_with fail
      go_ret2
      exact ⟨rfl, _, rfl⟩

set_option maxRecDepth 100000 in
set_option maxHeartbeats 400000 in
theorem readB_no (s : ByteArray) (w : World) (hs : s.size ≤ maxLen) (hz : 1 < s.size) (hm : ((s[0].toNat : Int) == 45) = false) (h : 1 ≤ s.size ∧ s.size ≤ 6) (hd : ∀ c ∈ s.data.toList, isD c) (hq : Lib.itoa ((valD 0 s.data.toList : Nat)) ≠ s.data.toList) :
    Calls Tryd.prog 24 #[.string s] w fun e w' => e = .returned (.tuple #[.int .i64 0, .bool false]) ∧ ∃ m, w' = w.drewN m := by
  unfold maxLen at hs
  obtain ⟨h1, h2⟩ := h
  have HD := Lib.hid hd
  have hne := lneT hq
  have HNE := Lib.hid hne
  clear hd hq hne
  go_enter Tryd.func24, Tryd.ntmps24
  go_wp2_with fail
  refine (l1In_yes _ _ _ _ ⟨by omega, by omega⟩).mono ?_
  rintro e w1 ⟨rfl, rfl⟩
  go_wp2_with fail
  go_loop [5, 6] (fun n i => ∃ k : Nat, k ≤ s.size ∧ i = .int .i64 k ∧ n = .int .i64 (valD 0 (s.data.toList.take k) : Nat)) (fun _ i => s.size - (intOf i).toNat)
  case atStart => exact ⟨0, Nat.zero_le _, rfl, rfl⟩
  case round =>
    obtain ⟨k, hk, rfl, rfl⟩ := hrel
    have hv := val_take_lt HD.out h2 k
    by_cases hlt' : k < s.size
    · obtain ⟨d1, d2⟩ := HD.out s[k] (List.getElem_mem (l := s.data.toList) (by simpa using hlt'))
      have d3 : (48 : Int) ≤ (s[k].toNat : Int) := by omega
      have d4 : (s[k].toNat : Int) ≤ 57 := by omega
      have HS := Lib.hid (take_snoc' s k hlt')
      clear d1 d2
      go_wp2_with fail
      all_goals
        go_round
        case rel => exact ⟨k + 1, by omega, by go_num, by rw [HS.out]; congr 1; omega⟩
        case measure => simp [intOf]; omega
    · have hk' : k = s.size := by omega
      subst hk'
      rw [List.take_of_length_le (by simp)] at *
      have hne := HNE.out
      go_wp2_with fail
      refine (l1Num_any _ _ (by omega) (by omega)).mono ?_
      rintro e w2 ⟨rfl, m, rfl⟩
      go_wp2_with fail
      go_ret2
      exact ⟨rfl, _, rfl⟩

set_option maxRecDepth 100000 in
set_option maxHeartbeats 400000 in
theorem readC_short (s : ByteArray) (w : World) (hs : s.size ≤ maxLen) (hz : 1 < s.size) (hm : ((s[0].toNat : Int) == 45) = true) (h : ¬ (1 ≤ (s.extract 1 s.size).size ∧ (s.extract 1 s.size).size ≤ 6)) :
    Calls Tryd.prog 24 #[.string s] w fun e w' => e = .returned (.tuple #[.int .i64 0, .bool false]) ∧ ∃ m, w' = w.drewN m := by
  unfold maxLen at hs
  have H := Lib.hid h
  clear h
  have hts : (s.extract 1 s.size).size = s.size - 1 := ext1_size s
  go_enter Tryd.func24, Tryd.ntmps24
  go_wp2_with fail
  generalize ht : s.extract 1 s.size = t at *
  have HTT := Lib.hid ht
  clear ht
  refine (l1In_no _ _ _ _ (fun h => H.out ⟨by omega, by omega⟩)).mono ?_
  rintro e w1 ⟨rfl, rfl⟩
  go_wp2_with fail
  go_ret2
  exact ⟨rfl, 0, rfl⟩

set_option maxRecDepth 100000 in
set_option maxHeartbeats 400000 in
theorem readC_bad_lo (s : ByteArray) (w : World) (hs : s.size ≤ maxLen) (hz : 1 < s.size) (hm : ((s[0].toNat : Int) == 45) = true) (h : 1 ≤ (s.extract 1 s.size).size ∧ (s.extract 1 s.size).size ≤ 6) (m : Nat) (hlt : m < (s.extract 1 s.size).size) (hb : ((s.extract 1 s.size)[m].toNat : Int) < 48) (hd : ∀ (i : Nat) (h : i < (s.extract 1 s.size).size), i < m → isD (s.extract 1 s.size)[i]) :
    Calls Tryd.prog 24 #[.string s] w fun e w' => e = .returned (.tuple #[.int .i64 0, .bool false]) ∧ ∃ m, w' = w.drewN m := by
  unfold maxLen at hs
  obtain ⟨h1, h2⟩ := h
  have HD := Lib.hid hd
  clear hd
  have hts : (s.extract 1 s.size).size = s.size - 1 := ext1_size s
  go_enter Tryd.func24, Tryd.ntmps24
  go_wp2_with fail
  generalize ht : s.extract 1 s.size = t at *
  have HTT := Lib.hid ht
  clear ht
  refine (l1In_yes _ _ _ _ ⟨by omega, by omega⟩).mono ?_
  rintro e w1 ⟨rfl, rfl⟩
  go_wp2_with fail
  go_loop [5, 6] (fun n i => ∃ k : Nat, k ≤ m ∧ i = .int .i64 k ∧ n = .int .i64 (valD 0 (t.data.toList.take k) : Nat)) (fun _ i => t.size - (intOf i).toNat)
  case atStart => exact ⟨0, Nat.zero_le _, rfl, rfl⟩
  case round =>
    obtain ⟨k, hk, rfl, rfl⟩ := hrel
    have hv := valD_pre m HD.out h2 k hk
    have hlt' : k < t.size := by omega
    by_cases he : k = m
    · subst he
      go_wp2_with fail
      go_ret2
      exact ⟨rfl, 0, rfl⟩
    · have hkm : k < m := by omega
      clear he
      obtain ⟨d1, d2⟩ := HD.out k hlt' hkm
      have d3 : (48 : Int) ≤ (t[k].toNat : Int) := by omega
      have d4 : (t[k].toNat : Int) ≤ 57 := by omega
      have HS := Lib.hid (take_snoc' t k hlt')
      go_wp2_with fail
      all_goals
        go_round
        case rel => exact ⟨k + 1, by omega, by go_num, by rw [HS.out]; congr 1; omega⟩
        case measure => simp [intOf]; omega

set_option maxRecDepth 100000 in
set_option maxHeartbeats 400000 in
theorem readC_bad_hi (s : ByteArray) (w : World) (hs : s.size ≤ maxLen) (hz : 1 < s.size) (hm : ((s[0].toNat : Int) == 45) = true) (h : 1 ≤ (s.extract 1 s.size).size ∧ (s.extract 1 s.size).size ≤ 6) (m : Nat) (hlt : m < (s.extract 1 s.size).size) (hb : 57 < ((s.extract 1 s.size)[m].toNat : Int)) (hd : ∀ (i : Nat) (h : i < (s.extract 1 s.size).size), i < m → isD (s.extract 1 s.size)[i]) :
    Calls Tryd.prog 24 #[.string s] w fun e w' => e = .returned (.tuple #[.int .i64 0, .bool false]) ∧ ∃ m, w' = w.drewN m := by
  unfold maxLen at hs
  obtain ⟨h1, h2⟩ := h
  have HD := Lib.hid hd
  clear hd
  have hts : (s.extract 1 s.size).size = s.size - 1 := ext1_size s
  go_enter Tryd.func24, Tryd.ntmps24
  go_wp2_with fail
  generalize ht : s.extract 1 s.size = t at *
  have HTT := Lib.hid ht
  clear ht
  refine (l1In_yes _ _ _ _ ⟨by omega, by omega⟩).mono ?_
  rintro e w1 ⟨rfl, rfl⟩
  go_wp2_with fail
  go_loop [5, 6] (fun n i => ∃ k : Nat, k ≤ m ∧ i = .int .i64 k ∧ n = .int .i64 (valD 0 (t.data.toList.take k) : Nat)) (fun _ i => t.size - (intOf i).toNat)
  case atStart => exact ⟨0, Nat.zero_le _, rfl, rfl⟩
  case round =>
    obtain ⟨k, hk, rfl, rfl⟩ := hrel
    have hv := valD_pre m HD.out h2 k hk
    have hlt' : k < t.size := by omega
    by_cases he : k = m
    · subst he
      go_wp2_with fail
      go_ret2
      exact ⟨rfl, 0, rfl⟩
    · have hkm : k < m := by omega
      clear he
      obtain ⟨d1, d2⟩ := HD.out k hlt' hkm
      have d3 : (48 : Int) ≤ (t[k].toNat : Int) := by omega
      have d4 : (t[k].toNat : Int) ≤ 57 := by omega
      have HS := Lib.hid (take_snoc' t k hlt')
      go_wp2_with fail
      all_goals
        go_round
        case rel => exact ⟨k + 1, by omega, by go_num, by rw [HS.out]; congr 1; omega⟩
        case measure => simp [intOf]; omega

set_option maxRecDepth 100000 in
set_option maxHeartbeats 400000 in
theorem readC_yes (s : ByteArray) (w : World) (hs : s.size ≤ maxLen) (hz : 1 < s.size) (hm : ((s[0].toNat : Int) == 45) = true) (h : 1 ≤ (s.extract 1 s.size).size ∧ (s.extract 1 s.size).size ≤ 6) (hd : ∀ c ∈ (s.extract 1 s.size).data.toList, isD c) (hq : Lib.itoa (-(valD 0 (s.extract 1 s.size).data.toList : Nat)) = s.data.toList) :
    Calls Tryd.prog 24 #[.string s] w fun e w' => e = .returned (.tuple #[.int .i64 (-(valD 0 (s.extract 1 s.size).data.toList : Nat)), .bool true]) ∧ ∃ m, w' = w.drewN m := by
  unfold maxLen at hs
  obtain ⟨h1, h2⟩ := h
  have HD := Lib.hid hd
  have hne := lneF hq
  have HNE := Lib.hid hne
  clear hd hq hne
  have hts : (s.extract 1 s.size).size = s.size - 1 := ext1_size s
  go_enter Tryd.func24, Tryd.ntmps24
  go_wp2_with fail
  generalize ht : s.extract 1 s.size = t at *
  have HTT := Lib.hid ht
  clear ht
  refine (l1In_yes _ _ _ _ ⟨by omega, by omega⟩).mono ?_
  rintro e w1 ⟨rfl, rfl⟩
  go_wp2_with fail
  go_loop [5, 6] (fun n i => ∃ k : Nat, k ≤ t.size ∧ i = .int .i64 k ∧ n = .int .i64 (valD 0 (t.data.toList.take k) : Nat)) (fun _ i => t.size - (intOf i).toNat)
  case atStart => exact ⟨0, Nat.zero_le _, rfl, rfl⟩
  case round =>
    obtain ⟨k, hk, rfl, rfl⟩ := hrel
    have hv := val_take_lt HD.out h2 k
    by_cases hlt' : k < t.size
    · obtain ⟨d1, d2⟩ := HD.out t[k] (List.getElem_mem (l := t.data.toList) (by simpa using hlt'))
      have d3 : (48 : Int) ≤ (t[k].toNat : Int) := by omega
      have d4 : (t[k].toNat : Int) ≤ 57 := by omega
      have HS := Lib.hid (take_snoc' t k hlt')
      clear d1 d2
      go_wp2_with fail
      all_goals
        go_round
        case rel => exact ⟨k + 1, by omega, by go_num, by rw [HS.out]; congr 1; omega⟩
        case measure => simp [intOf]; omega
    · have hk' : k = t.size := by omega
      subst hk'
      rw [List.take_of_length_le (by simp)] at *
      have hne := HNE.out
      go_wp2_with fail
      refine (l1Num_any _ _ (by omega) (by omega)).mono ?_
      rintro e w2 ⟨rfl, m, rfl⟩
      go_wp2_with fail
      go_ret2
      exact ⟨ret_int2 (by rw [HTT.out]), _, rfl⟩

set_option maxRecDepth 100000 in
set_option maxHeartbeats 400000 in
theorem readC_no (s : ByteArray) (w : World) (hs : s.size ≤ maxLen) (hz : 1 < s.size) (hm : ((s[0].toNat : Int) == 45) = true) (h : 1 ≤ (s.extract 1 s.size).size ∧ (s.extract 1 s.size).size ≤ 6) (hd : ∀ c ∈ (s.extract 1 s.size).data.toList, isD c) (hq : Lib.itoa (-(valD 0 (s.extract 1 s.size).data.toList : Nat)) ≠ s.data.toList) :
    Calls Tryd.prog 24 #[.string s] w fun e w' => e = .returned (.tuple #[.int .i64 0, .bool false]) ∧ ∃ m, w' = w.drewN m := by
  unfold maxLen at hs
  obtain ⟨h1, h2⟩ := h
  have HD := Lib.hid hd
  have hne := lneT hq
  have HNE := Lib.hid hne
  clear hd hq hne
  have hts : (s.extract 1 s.size).size = s.size - 1 := ext1_size s
  go_enter Tryd.func24, Tryd.ntmps24
  go_wp2_with fail
  generalize ht : s.extract 1 s.size = t at *
  have HTT := Lib.hid ht
  clear ht
  refine (l1In_yes _ _ _ _ ⟨by omega, by omega⟩).mono ?_
  rintro e w1 ⟨rfl, rfl⟩
  go_wp2_with fail
  go_loop [5, 6] (fun n i => ∃ k : Nat, k ≤ t.size ∧ i = .int .i64 k ∧ n = .int .i64 (valD 0 (t.data.toList.take k) : Nat)) (fun _ i => t.size - (intOf i).toNat)
  case atStart => exact ⟨0, Nat.zero_le _, rfl, rfl⟩
  case round =>
    obtain ⟨k, hk, rfl, rfl⟩ := hrel
    have hv := val_take_lt HD.out h2 k
    by_cases hlt' : k < t.size
    · obtain ⟨d1, d2⟩ := HD.out t[k] (List.getElem_mem (l := t.data.toList) (by simpa using hlt'))
      have d3 : (48 : Int) ≤ (t[k].toNat : Int) := by omega
      have d4 : (t[k].toNat : Int) ≤ 57 := by omega
      have HS := Lib.hid (take_snoc' t k hlt')
      clear d1 d2
      go_wp2_with fail
      all_goals
        go_round
        case rel => exact ⟨k + 1, by omega, by go_num, by rw [HS.out]; congr 1; omega⟩
        case measure => simp [intOf]; omega
    · have hk' : k = t.size := by omega
      subst hk'
      rw [List.take_of_length_le (by simp)] at *
      have hne := HNE.out
      go_wp2_with fail
      refine (l1Num_any _ _ (by omega) (by omega)).mono ?_
      rintro e w2 ⟨rfl, m, rfl⟩
      go_wp2_with fail
      go_ret2
      exact ⟨rfl, _, rfl⟩

/-- The two numbers' texts: a text that is one is read as that number, and no other text is read. -/
theorem l1Read_num (s : ByteArray) (w : World) (v : Int) (h0 : -999999 ≤ v) (h1 : v ≤ 999999) (hv : Lib.itoa v = s.data.toList) :
    Calls Tryd.prog 24 #[.string s] w fun e w' => e = .returned (.tuple #[.int .i64 v, .bool true]) ∧ ∃ m, w' = w.drewN m := by
  have hlen : s.data.toList.length = s.size := by simp
  by_cases hn : v < 0
  · obtain ⟨d1, d2, d3⟩ := dec_spec v.natAbs
    have hl : (Lib.decDigits v.natAbs).length ≤ 6 := by rw [Lib.decDigits_length]; exact nDig_le 5 _ (by omega)
    have hl0 : 0 < (Lib.decDigits v.natAbs).length := List.length_pos_iff.2 d3
    have e : s.data.toList = 45 :: Lib.decDigits v.natAbs := by rw [← hv, Lib.itoa, if_pos hn]
    have hsz : s.size = (Lib.decDigits v.natAbs).length + 1 := by rw [← hlen, e]; rfl
    have hb : (s.extract 1 s.size).data.toList = Lib.decDigits v.natAbs := by rw [ext1, e]; rfl
    have hm : s[0]'(by omega) = 45 := by
      have h2 : s.data.toList[0]'(by omega) = 45 := by simp [e]
      exact h2
    have hx := ext1_size s
    have hv2 : -((valD 0 (s.extract 1 s.size).data.toList : Nat) : Int) = v := by rw [hb, d2]; omega
    have := readC_yes s w (by unfold maxLen; omega) (by omega) (by rw [hm]; rfl) ⟨by omega, by omega⟩ (by rw [hb]; exact d1) (by rw [hv2]; exact hv)
    rw [hv2] at this
    exact this
  · obtain ⟨d1, d2, d3⟩ := dec_spec v.toNat
    have hl : (Lib.decDigits v.toNat).length ≤ 6 := by rw [Lib.decDigits_length]; exact nDig_le 5 _ (by omega)
    have hl0 : 0 < (Lib.decDigits v.toNat).length := List.length_pos_iff.2 d3
    have e : s.data.toList = Lib.decDigits v.toNat := by rw [← hv, Lib.itoa, if_neg hn]
    have hsz : s.size = (Lib.decDigits v.toNat).length := by rw [← hlen, e]
    have hv2 : ((valD 0 s.data.toList : Nat) : Int) = v := by rw [e, d2]; omega
    by_cases hz : s.size ≤ 1
    · have := readA_yes s w (by unfold maxLen; omega) hz ⟨by omega, by omega⟩ (by rw [e]; exact d1) (by rw [hv2]; exact hv)
      rw [hv2] at this
      exact this
    · have hm : ((s[0]'(by omega)).toNat : Int) ≠ 45 := by
        obtain ⟨c, r, e2, hc⟩ := dec_head v.toNat
        have h2 : s.data.toList[0]'(by omega) = c := by simp [e, e2]
        have h3 : s[0]'(by omega) = c := h2
        rw [h3]; unfold isD at hc; omega
      have := readB_yes s w (by unfold maxLen; omega) (by omega) (by simpa using hm) ⟨by omega, by omega⟩ (by rw [e]; exact d1) (by rw [hv2]; exact hv)
      rw [hv2] at this
      exact this
theorem first_bad (t : ByteArray) (h : ¬ ∀ c ∈ t.data.toList, isD c) : ∃ (m : Nat) (hm : m < t.size), ¬ isD t[m] ∧ ∀ (i : Nat) (h : i < t.size), i < m → isD t[i] := by
  have hex : ∃ m, ∃ hm : m < t.size, ¬ isD t[m] := by
    refine Classical.byContradiction fun hc => h fun c hcm => ?_
    obtain ⟨i, hi, he⟩ := List.getElem_of_mem hcm
    refine Classical.byContradiction fun hb => hc ⟨i, by simpa using hi, ?_⟩
    rw [← he] at hb; exact hb
  have key : ∀ n, ∀ m, m ≤ n → (∃ hm : m < t.size, ¬ isD t[m]) → ∃ (m : Nat) (hm : m < t.size), ¬ isD t[m] ∧ ∀ (i : Nat) (h : i < t.size), i < m → isD t[i] := by
    intro n
    induction n with
    | zero => intro m hm ⟨h1, h2⟩; exact ⟨m, h1, h2, fun i _ hi => by omega⟩
    | succ n ih =>
      intro m hm ⟨h1, h2⟩
      by_cases hx : ∃ j, j < m ∧ ∃ hj : j < t.size, ¬ isD t[j]
      · obtain ⟨j, hj, hb⟩ := hx
        exact ih j (by omega) hb
      · exact ⟨m, h1, h2, fun i hi him => Classical.byContradiction fun hb => hx ⟨i, him, hi, hb⟩⟩
  obtain ⟨m, hm⟩ := hex
  exact key m m (Nat.le_refl _) hm
theorem not_isD {c : UInt8} (h : ¬ isD c) : (c.toNat : Int) < 48 ∨ 57 < (c.toNat : Int) := by unfold isD at h; omega
theorem l1Read_none (s : ByteArray) (w : World) (hs : s.size ≤ maxLen) (hv : ∀ v, -999999 ≤ v → v ≤ 999999 → Lib.itoa v ≠ s.data.toList) :
    Calls Tryd.prog 24 #[.string s] w fun e w' => e = .returned (.tuple #[.int .i64 0, .bool false]) ∧ ∃ m, w' = w.drewN m := by
  by_cases hz : s.size ≤ 1
  · by_cases h : 1 ≤ s.size ∧ s.size ≤ 6
    · by_cases hd : ∀ c ∈ s.data.toList, isD c
      · have hb := val_take_lt hd h.2 s.size
        rw [List.take_of_length_le (by simp)] at hb
        exact readA_no s w hs hz h hd (hv _ (by omega) (by omega))
      · obtain ⟨m, hm, h1, h2⟩ := first_bad s hd
        rcases not_isD h1 with h1 | h1
        · exact readA_bad_lo s w hs hz h m hm h1 h2
        · exact readA_bad_hi s w hs hz h m hm h1 h2
    · exact readA_short s w hs hz h
  · by_cases hm0 : ((s[0]'(by omega)).toNat : Int) = 45
    · have hm : (((s[0]'(by omega)).toNat : Int) == 45) = true := by simpa using hm0
      by_cases h : 1 ≤ (s.extract 1 s.size).size ∧ (s.extract 1 s.size).size ≤ 6
      · by_cases hd : ∀ c ∈ (s.extract 1 s.size).data.toList, isD c
        · have hb := val_take_lt hd h.2 (s.extract 1 s.size).size
          rw [List.take_of_length_le (by simp)] at hb
          exact readC_no s w hs (by omega) hm h hd (hv _ (by omega) (by omega))
        · obtain ⟨m, hm', h1, h2⟩ := first_bad _ hd
          rcases not_isD h1 with h1 | h1
          · exact readC_bad_lo s w hs (by omega) hm h m hm' h1 h2
          · exact readC_bad_hi s w hs (by omega) hm h m hm' h1 h2
      · exact readC_short s w hs (by omega) hm h
    · have hm : (((s[0]'(by omega)).toNat : Int) == 45) = false := by simpa using hm0
      by_cases h : 1 ≤ s.size ∧ s.size ≤ 6
      · by_cases hd : ∀ c ∈ s.data.toList, isD c
        · have hb := val_take_lt hd h.2 s.size
          rw [List.take_of_length_le (by simp)] at hb
          exact readB_no s w hs (by omega) hm h hd (hv _ (by omega) (by omega))
        · obtain ⟨m, hm', h1, h2⟩ := first_bad _ hd
          rcases not_isD h1 with h1 | h1
          · exact readB_bad_lo s w hs (by omega) hm h m hm' h1 h2
          · exact readB_bad_hi s w hs (by omega) hm h m hm' h1 h2
      · exact readB_short s w hs (by omega) hm h
end Go.Proofs.YtfbilfplbjjoaaaDoor
