/- One pupil: the program's tests. -/
import Derived.Test.YtlhcediejccieaaWord
namespace Go.Proofs.Ytlhcediejccieaa
set_option linter.unusedVariables false
open Go.RowKit

set_option maxRecDepth 100000 in
set_option maxHeartbeats 1600000 in
theorem isWord_scan (s : ByteArray) (w : World) (h1 : 1 ≤ s.size) (h10 : s.size ≤ 10) (p : Nat) (hp : p ≤ s.size) (hpre : ∀ (k : Nat) (h : k < s.size), k < p → letter s[k]) (hx : ∀ h : p < s.size, ¬ letter s[p]) (r : Bool) (hr1 : p < s.size → r = false) (hr2 : p = s.size → r = true) :
    Calls Try.prog 52 #[.string s] w fun e w' => e = .returned (.bool r) ∧ w' = w := by
  have HP := Lib.hid hpre
  have HX := Lib.hid hx
  have HR1 := Lib.hid hr1
  have HR2 := Lib.hid hr2
  clear hpre hx hr1 hr2
  go_enter Try.func52, Try.ntmps52
  go_wp2_with fail
  go_loopw [14] (fun i wr => ∃ k : Nat, k ≤ p ∧ i = .int .i64 k ∧ wr = w) (fun i _ => s.size - (intOf i).toNat)
  case atStart => exact ⟨0, Nat.zero_le _, rfl, rfl⟩
  case round =>
    obtain ⟨k, hk, rfl, rfl⟩ := hrel
    by_cases hlt : k < s.size
    · have z1 : (0 : Int) ≤ (k : Int) := by omega
      have z2 : (k : Int) < (s.size : Int) := by omega
      by_cases hkp : k < p
      · obtain ⟨d1, d2⟩ := HP.out k hlt hkp
        have d3 : (97 : Int) ≤ (s[k].toNat : Int) := by omega
        have d4 : (s[k].toNat : Int) ≤ 122 := by omega
        clear d1 d2
        go_wp2_with fail
        go_roundw
        case rel => exact ⟨k + 1, by omega, by go_num, trivial⟩
        case measure => simp [intOf]; omega
      · have hke : k = p := by omega
        subst hke
        have hq := HX.out hlt
        have HE : Hid (r = false) := Lib.hid (HR1.out hlt)
        by_cases h1 : (s[k].toNat : Int) < 97
        · clear hq
          go_wp2_with fail
          go_ret
          exact ⟨ret_bool HE.out.symm, rfl⟩
        · have h2 : (122 : Int) < (s[k].toNat : Int) := by
            unfold letter at hq
            omega
          clear hq
          go_wp2_with fail
          go_ret
          exact ⟨ret_bool HE.out.symm, rfl⟩
    · have HE : Hid (r = true) := Lib.hid (HR2.out (by omega))
      go_wp2_with fail
      go_ret
      exact ⟨ret_bool HE.out.symm, rfl⟩
set_option maxRecDepth 100000 in
set_option maxHeartbeats 400000 in
theorem isWord_out (s : ByteArray) (w : World) (hs : s.size ≤ maxLen) (h : ¬ (1 ≤ s.size ∧ s.size ≤ 10)) :
    Calls Try.prog 52 #[.string s] w fun e w' => e = .returned (.bool false) ∧ w' = w := by
  have hm : s.size ≤ 9223372036854775807 := hs
  by_cases h1 : s.size < 1
  · clear h
    go_enter Try.func52, Try.ntmps52
    go_wp2_with fail
    go_ret
    exact ⟨rfl, rfl⟩
  · have h2 : 10 < s.size := by omega
    clear h
    go_enter Try.func52, Try.ntmps52
    go_wp2_with fail
    go_ret
    exact ⟨rfl, rfl⟩
theorem isWord_yes (s : ByteArray) (w : World) (h : isWord s) :
    Calls Try.prog 52 #[.string s] w fun e w' => e = .returned (.bool true) ∧ w' = w :=
  isWord_scan s w h.2.1 h.2.2 s.size (Nat.le_refl _) (fun k hk _ => h.1 k hk) (fun h => absurd h (Nat.lt_irrefl _)) true (fun h => absurd h (Nat.lt_irrefl _)) (fun _ => rfl)
theorem isWord_no (s : ByteArray) (w : World) (hs : s.size ≤ maxLen) (h : ¬ isWord s) :
    Calls Try.prog 52 #[.string s] w fun e w' => e = .returned (.bool false) ∧ w' = w := by
  by_cases hb : 1 ≤ s.size ∧ s.size ≤ 10
  · obtain ⟨p, hp, hpre, hx⟩ := first_bad' s.size (fun k hk => letter s[k])
    exact isWord_scan s w hb.1 hb.2 p hp hpre hx false (fun _ => rfl) (fun e => absurd ⟨fun k hk => hpre k hk (by omega), hb⟩ h)
  · exact isWord_out s w hs hb
set_option maxRecDepth 100000 in
set_option maxHeartbeats 400000 in
theorem isClassC_yes (c : Int) (w : World) (h : 1 ≤ c ∧ c ≤ 9) :
    Calls Try.prog 65 #[.int .i64 c] w fun e w' => e = .returned (.bool true) ∧ w' = w := by
  obtain ⟨h1, h2⟩ := h
  go_enter Try.func65, Try.ntmps65
  go_wp2_with fail
  go_ret
  exact ⟨rfl, rfl⟩
set_option maxRecDepth 100000 in
set_option maxHeartbeats 400000 in
theorem isClassC_no (c : Int) (w : World) (h : ¬ (1 ≤ c ∧ c ≤ 9)) :
    Calls Try.prog 65 #[.int .i64 c] w fun e w' => e = .returned (.bool false) ∧ w' = w := by
  by_cases h1 : 1 ≤ c
  · have h2 : ¬ c ≤ 9 := fun h2 => h ⟨h1, h2⟩
    clear h
    go_enter Try.func65, Try.ntmps65
    go_wp2_with fail
    go_ret
    exact ⟨rfl, rfl⟩
  · clear h
    go_enter Try.func65, Try.ntmps65
    go_wp2_with fail
    go_ret
    exact ⟨rfl, rfl⟩
set_option maxRecDepth 100000 in
set_option maxHeartbeats 400000 in
theorem isClass_yes (c : Int) (w : World) (h : 0 ≤ c ∧ c ≤ 9) :
    Calls Try.prog 53 #[.int .i64 c] w fun e w' => e = .returned (.bool true) ∧ w' = w := by
  by_cases h0 : c = 0
  · have hb : (c == 0) = true := by simpa using h0
    clear h h0
    go_enter Try.func53, Try.ntmps53
    go_wp2_with fail
    go_ret
    exact ⟨rfl, rfl⟩
  · have hb : (c == 0) = false := by simpa using h0
    have HC : Hid (1 ≤ c ∧ c ≤ 9) := Lib.hid (by omega)
    clear h h0
    go_enter Try.func53, Try.ntmps53
    go_wp2_with fail
    refine (isClassC_yes _ _ HC.out).mono ?_
    rintro e w' ⟨rfl, hw⟩
    subst w'
    go_wp2_with fail
    go_ret
    exact ⟨rfl, rfl⟩
set_option maxRecDepth 100000 in
set_option maxHeartbeats 400000 in
theorem isClass_no (c : Int) (w : World) (h : ¬ (0 ≤ c ∧ c ≤ 9)) :
    Calls Try.prog 53 #[.int .i64 c] w fun e w' => e = .returned (.bool false) ∧ w' = w := by
  have hb : (c == 0) = false := by rw [beq_eq_false_iff_ne]; omega
  have HC : Hid (¬ (1 ≤ c ∧ c ≤ 9)) := Lib.hid (by omega)
  clear h
  go_enter Try.func53, Try.ntmps53
  go_wp2_with fail
  refine (isClassC_no _ _ HC.out).mono ?_
  rintro e w' ⟨rfl, hw⟩
  subst w'
  go_wp2_with fail
  go_ret
  exact ⟨rfl, rfl⟩

set_option maxRecDepth 100000 in
set_option maxHeartbeats 1600000 in
theorem implIsPupil_ok (id : Int) (name : ByteArray) (born cls lvl : Int) (w : World) (hs : name.size ≤ maxLen) (hw : isWord name) (i1 : 1 ≤ id) (i9 : id ≤ 999) (b0 : 1900 ≤ born) (b1 : born ≤ 2100) (c0 : 0 ≤ cls) (c9 : cls ≤ 9) (l0 : 0 ≤ lvl) (l1 : lvl ≤ 10) :
    Calls Try.prog 22 #[.agg #[.int .i64 id, .string name, .int .i64 born, .int .i64 cls, .int .i64 lvl]] w fun e w' => e = .returned (.bool true) ∧ Below w.heap.size w w' := by
  have HS := Lib.hid hs
  clear hs
  have HW := Lib.hid hw
  clear hw
  have HB0 : Hid (Below w.heap.size w w) := Lib.hid (Below.refl _ _)
  go_enter Try.func22, Try.ntmps22
  go_wp2_with fail
  have hb : Below w.heap.size w (w.alloc (.cells #[.int .i64 id, .string name, .int .i64 born, .int .i64 cls, .int .i64 lvl] 38)) := (Below.refl _ _).alloc (Nat.le_refl _) _
  have hk : (w.alloc (.cells #[.int .i64 id, .string name, .int .i64 born, .int .i64 cls, .int .i64 lvl] 38)).heap[w.heap.size]? = some (.cells #[.int .i64 id, .string name, .int .i64 born, .int .i64 cls, .int .i64 lvl] 38 (0, 0)) := alloc_at rfl
  have hz : (w.alloc (.cells #[.int .i64 id, .string name, .int .i64 born, .int .i64 cls, .int .i64 lvl] 38)).heap.size = w.heap.size + 1 := by simp
  generalize w.alloc (.cells #[.int .i64 id, .string name, .int .i64 born, .int .i64 cls, .int .i64 lvl] 38) = w1 at hb hk hz ⊢
  have HB1 : Hid (Below w.heap.size w w1) := Lib.hid (HB0.out.trans (hb.mono HB0.out.size))
  have HZ1 : Hid (w.heap.size ≤ w1.heap.size) := Lib.hid hb.size
  have HKf1 := Lib.hid hk
  replace HZ1 : Hid (w.heap.size < w1.heap.size) := Lib.hid (by omega)
  have HE1 := Lib.hid hz
  clear hb hk hz
  have ltf := lt_of_block HKf1.out
  obtain ⟨cf0, cf1, cf2, cf3, cf4, ff0, ff1, ff2, ff3, ff4⟩ := cell5 HKf1.out
  refine (isWord_yes _ _ HW.out).mono ?_
  rintro e w' ⟨rfl, hw⟩
  subst w'
  go_wp2_with fail
  refine (isClass_yes _ _ ⟨c0, c9⟩).mono ?_
  rintro e w' ⟨rfl, hw⟩
  subst w'
  go_wp2_with fail
  go_ret
  exact ⟨rfl, HB1.out⟩
set_option maxRecDepth 100000 in
set_option maxHeartbeats 1600000 in
theorem implIsPupil_n1 (id : Int) (name : ByteArray) (born cls lvl : Int) (w : World) (hs : name.size ≤ maxLen) (h : id < 1) :
    Calls Try.prog 22 #[.agg #[.int .i64 id, .string name, .int .i64 born, .int .i64 cls, .int .i64 lvl]] w fun e w' => e = .returned (.bool false) ∧ Below w.heap.size w w' := by
  have HS := Lib.hid hs
  clear hs
  go_enter Try.func22, Try.ntmps22
  go_wp2_with fail
  go_ret
  exact ⟨rfl, (Below.refl _ _).alloc (Nat.le_refl _) _⟩
set_option maxRecDepth 100000 in
set_option maxHeartbeats 1600000 in
theorem implIsPupil_n2 (id : Int) (name : ByteArray) (born cls lvl : Int) (w : World) (hs : name.size ≤ maxLen) (i1 : 1 ≤ id) (h : 999 < id) :
    Calls Try.prog 22 #[.agg #[.int .i64 id, .string name, .int .i64 born, .int .i64 cls, .int .i64 lvl]] w fun e w' => e = .returned (.bool false) ∧ Below w.heap.size w w' := by
  have HS := Lib.hid hs
  clear hs
  go_enter Try.func22, Try.ntmps22
  go_wp2_with fail
  go_ret
  exact ⟨rfl, (Below.refl _ _).alloc (Nat.le_refl _) _⟩
set_option maxRecDepth 100000 in
set_option maxHeartbeats 1600000 in
theorem implIsPupil_n3 (id : Int) (name : ByteArray) (born cls lvl : Int) (w : World) (hs : name.size ≤ maxLen) (i1 : 1 ≤ id) (i9 : id ≤ 999) (h : ¬ isWord name) :
    Calls Try.prog 22 #[.agg #[.int .i64 id, .string name, .int .i64 born, .int .i64 cls, .int .i64 lvl]] w fun e w' => e = .returned (.bool false) ∧ Below w.heap.size w w' := by
  have HS := Lib.hid hs
  clear hs
  have HW := Lib.hid h
  clear h
  have HB0 : Hid (Below w.heap.size w w) := Lib.hid (Below.refl _ _)
  go_enter Try.func22, Try.ntmps22
  go_wp2_with fail
  have hb : Below w.heap.size w (w.alloc (.cells #[.int .i64 id, .string name, .int .i64 born, .int .i64 cls, .int .i64 lvl] 38)) := (Below.refl _ _).alloc (Nat.le_refl _) _
  have hk : (w.alloc (.cells #[.int .i64 id, .string name, .int .i64 born, .int .i64 cls, .int .i64 lvl] 38)).heap[w.heap.size]? = some (.cells #[.int .i64 id, .string name, .int .i64 born, .int .i64 cls, .int .i64 lvl] 38 (0, 0)) := alloc_at rfl
  have hz : (w.alloc (.cells #[.int .i64 id, .string name, .int .i64 born, .int .i64 cls, .int .i64 lvl] 38)).heap.size = w.heap.size + 1 := by simp
  generalize w.alloc (.cells #[.int .i64 id, .string name, .int .i64 born, .int .i64 cls, .int .i64 lvl] 38) = w1 at hb hk hz ⊢
  have HB1 : Hid (Below w.heap.size w w1) := Lib.hid (HB0.out.trans (hb.mono HB0.out.size))
  have HZ1 : Hid (w.heap.size ≤ w1.heap.size) := Lib.hid hb.size
  have HKf1 := Lib.hid hk
  replace HZ1 : Hid (w.heap.size < w1.heap.size) := Lib.hid (by omega)
  have HE1 := Lib.hid hz
  clear hb hk hz
  have ltf := lt_of_block HKf1.out
  obtain ⟨cf0, cf1, cf2, cf3, cf4, ff0, ff1, ff2, ff3, ff4⟩ := cell5 HKf1.out
  refine (isWord_no _ _ HS.out HW.out).mono ?_
  rintro e w' ⟨rfl, hw⟩
  subst w'
  go_wp2_with fail
  go_ret
  exact ⟨rfl, HB1.out⟩
set_option maxRecDepth 100000 in
set_option maxHeartbeats 1600000 in
theorem implIsPupil_n4 (id : Int) (name : ByteArray) (born cls lvl : Int) (w : World) (hs : name.size ≤ maxLen) (hw : isWord name) (i1 : 1 ≤ id) (i9 : id ≤ 999) (h : born < 1900) :
    Calls Try.prog 22 #[.agg #[.int .i64 id, .string name, .int .i64 born, .int .i64 cls, .int .i64 lvl]] w fun e w' => e = .returned (.bool false) ∧ Below w.heap.size w w' := by
  have HS := Lib.hid hs
  clear hs
  have HW := Lib.hid hw
  clear hw
  have HB0 : Hid (Below w.heap.size w w) := Lib.hid (Below.refl _ _)
  go_enter Try.func22, Try.ntmps22
  go_wp2_with fail
  have hb : Below w.heap.size w (w.alloc (.cells #[.int .i64 id, .string name, .int .i64 born, .int .i64 cls, .int .i64 lvl] 38)) := (Below.refl _ _).alloc (Nat.le_refl _) _
  have hk : (w.alloc (.cells #[.int .i64 id, .string name, .int .i64 born, .int .i64 cls, .int .i64 lvl] 38)).heap[w.heap.size]? = some (.cells #[.int .i64 id, .string name, .int .i64 born, .int .i64 cls, .int .i64 lvl] 38 (0, 0)) := alloc_at rfl
  have hz : (w.alloc (.cells #[.int .i64 id, .string name, .int .i64 born, .int .i64 cls, .int .i64 lvl] 38)).heap.size = w.heap.size + 1 := by simp
  generalize w.alloc (.cells #[.int .i64 id, .string name, .int .i64 born, .int .i64 cls, .int .i64 lvl] 38) = w1 at hb hk hz ⊢
  have HB1 : Hid (Below w.heap.size w w1) := Lib.hid (HB0.out.trans (hb.mono HB0.out.size))
  have HZ1 : Hid (w.heap.size ≤ w1.heap.size) := Lib.hid hb.size
  have HKf1 := Lib.hid hk
  replace HZ1 : Hid (w.heap.size < w1.heap.size) := Lib.hid (by omega)
  have HE1 := Lib.hid hz
  clear hb hk hz
  have ltf := lt_of_block HKf1.out
  obtain ⟨cf0, cf1, cf2, cf3, cf4, ff0, ff1, ff2, ff3, ff4⟩ := cell5 HKf1.out
  refine (isWord_yes _ _ HW.out).mono ?_
  rintro e w' ⟨rfl, hw⟩
  subst w'
  go_wp2_with fail
  go_ret
  exact ⟨rfl, HB1.out⟩
set_option maxRecDepth 100000 in
set_option maxHeartbeats 1600000 in
theorem implIsPupil_n5 (id : Int) (name : ByteArray) (born cls lvl : Int) (w : World) (hs : name.size ≤ maxLen) (hw : isWord name) (i1 : 1 ≤ id) (i9 : id ≤ 999) (b0 : 1900 ≤ born) (h : 2100 < born) :
    Calls Try.prog 22 #[.agg #[.int .i64 id, .string name, .int .i64 born, .int .i64 cls, .int .i64 lvl]] w fun e w' => e = .returned (.bool false) ∧ Below w.heap.size w w' := by
  have HS := Lib.hid hs
  clear hs
  have HW := Lib.hid hw
  clear hw
  have HB0 : Hid (Below w.heap.size w w) := Lib.hid (Below.refl _ _)
  go_enter Try.func22, Try.ntmps22
  go_wp2_with fail
  have hb : Below w.heap.size w (w.alloc (.cells #[.int .i64 id, .string name, .int .i64 born, .int .i64 cls, .int .i64 lvl] 38)) := (Below.refl _ _).alloc (Nat.le_refl _) _
  have hk : (w.alloc (.cells #[.int .i64 id, .string name, .int .i64 born, .int .i64 cls, .int .i64 lvl] 38)).heap[w.heap.size]? = some (.cells #[.int .i64 id, .string name, .int .i64 born, .int .i64 cls, .int .i64 lvl] 38 (0, 0)) := alloc_at rfl
  have hz : (w.alloc (.cells #[.int .i64 id, .string name, .int .i64 born, .int .i64 cls, .int .i64 lvl] 38)).heap.size = w.heap.size + 1 := by simp
  generalize w.alloc (.cells #[.int .i64 id, .string name, .int .i64 born, .int .i64 cls, .int .i64 lvl] 38) = w1 at hb hk hz ⊢
  have HB1 : Hid (Below w.heap.size w w1) := Lib.hid (HB0.out.trans (hb.mono HB0.out.size))
  have HZ1 : Hid (w.heap.size ≤ w1.heap.size) := Lib.hid hb.size
  have HKf1 := Lib.hid hk
  replace HZ1 : Hid (w.heap.size < w1.heap.size) := Lib.hid (by omega)
  have HE1 := Lib.hid hz
  clear hb hk hz
  have ltf := lt_of_block HKf1.out
  obtain ⟨cf0, cf1, cf2, cf3, cf4, ff0, ff1, ff2, ff3, ff4⟩ := cell5 HKf1.out
  refine (isWord_yes _ _ HW.out).mono ?_
  rintro e w' ⟨rfl, hw⟩
  subst w'
  go_wp2_with fail
  go_ret
  exact ⟨rfl, HB1.out⟩
set_option maxRecDepth 100000 in
set_option maxHeartbeats 1600000 in
theorem implIsPupil_n6 (id : Int) (name : ByteArray) (born cls lvl : Int) (w : World) (hs : name.size ≤ maxLen) (hw : isWord name) (i1 : 1 ≤ id) (i9 : id ≤ 999) (b0 : 1900 ≤ born) (b1 : born ≤ 2100) (h : ¬ (0 ≤ cls ∧ cls ≤ 9)) :
    Calls Try.prog 22 #[.agg #[.int .i64 id, .string name, .int .i64 born, .int .i64 cls, .int .i64 lvl]] w fun e w' => e = .returned (.bool false) ∧ Below w.heap.size w w' := by
  have HS := Lib.hid hs
  clear hs
  have HW := Lib.hid hw
  have HC := Lib.hid h
  clear hw h
  have HB0 : Hid (Below w.heap.size w w) := Lib.hid (Below.refl _ _)
  go_enter Try.func22, Try.ntmps22
  go_wp2_with fail
  have hb : Below w.heap.size w (w.alloc (.cells #[.int .i64 id, .string name, .int .i64 born, .int .i64 cls, .int .i64 lvl] 38)) := (Below.refl _ _).alloc (Nat.le_refl _) _
  have hk : (w.alloc (.cells #[.int .i64 id, .string name, .int .i64 born, .int .i64 cls, .int .i64 lvl] 38)).heap[w.heap.size]? = some (.cells #[.int .i64 id, .string name, .int .i64 born, .int .i64 cls, .int .i64 lvl] 38 (0, 0)) := alloc_at rfl
  have hz : (w.alloc (.cells #[.int .i64 id, .string name, .int .i64 born, .int .i64 cls, .int .i64 lvl] 38)).heap.size = w.heap.size + 1 := by simp
  generalize w.alloc (.cells #[.int .i64 id, .string name, .int .i64 born, .int .i64 cls, .int .i64 lvl] 38) = w1 at hb hk hz ⊢
  have HB1 : Hid (Below w.heap.size w w1) := Lib.hid (HB0.out.trans (hb.mono HB0.out.size))
  have HZ1 : Hid (w.heap.size ≤ w1.heap.size) := Lib.hid hb.size
  have HKf1 := Lib.hid hk
  replace HZ1 : Hid (w.heap.size < w1.heap.size) := Lib.hid (by omega)
  have HE1 := Lib.hid hz
  clear hb hk hz
  have ltf := lt_of_block HKf1.out
  obtain ⟨cf0, cf1, cf2, cf3, cf4, ff0, ff1, ff2, ff3, ff4⟩ := cell5 HKf1.out
  refine (isWord_yes _ _ HW.out).mono ?_
  rintro e w' ⟨rfl, hw⟩
  subst w'
  go_wp2_with fail
  refine (isClass_no _ _ HC.out).mono ?_
  rintro e w' ⟨rfl, hw⟩
  subst w'
  go_wp2_with fail
  go_ret
  exact ⟨rfl, HB1.out⟩
set_option maxRecDepth 100000 in
set_option maxHeartbeats 1600000 in
theorem implIsPupil_n7 (id : Int) (name : ByteArray) (born cls lvl : Int) (w : World) (hs : name.size ≤ maxLen) (hw : isWord name) (i1 : 1 ≤ id) (i9 : id ≤ 999) (b0 : 1900 ≤ born) (b1 : born ≤ 2100) (c0 : 0 ≤ cls) (c9 : cls ≤ 9) (h : lvl < 0) :
    Calls Try.prog 22 #[.agg #[.int .i64 id, .string name, .int .i64 born, .int .i64 cls, .int .i64 lvl]] w fun e w' => e = .returned (.bool false) ∧ Below w.heap.size w w' := by
  have HS := Lib.hid hs
  clear hs
  have HW := Lib.hid hw
  clear hw
  have HB0 : Hid (Below w.heap.size w w) := Lib.hid (Below.refl _ _)
  go_enter Try.func22, Try.ntmps22
  go_wp2_with fail
  have hb : Below w.heap.size w (w.alloc (.cells #[.int .i64 id, .string name, .int .i64 born, .int .i64 cls, .int .i64 lvl] 38)) := (Below.refl _ _).alloc (Nat.le_refl _) _
  have hk : (w.alloc (.cells #[.int .i64 id, .string name, .int .i64 born, .int .i64 cls, .int .i64 lvl] 38)).heap[w.heap.size]? = some (.cells #[.int .i64 id, .string name, .int .i64 born, .int .i64 cls, .int .i64 lvl] 38 (0, 0)) := alloc_at rfl
  have hz : (w.alloc (.cells #[.int .i64 id, .string name, .int .i64 born, .int .i64 cls, .int .i64 lvl] 38)).heap.size = w.heap.size + 1 := by simp
  generalize w.alloc (.cells #[.int .i64 id, .string name, .int .i64 born, .int .i64 cls, .int .i64 lvl] 38) = w1 at hb hk hz ⊢
  have HB1 : Hid (Below w.heap.size w w1) := Lib.hid (HB0.out.trans (hb.mono HB0.out.size))
  have HZ1 : Hid (w.heap.size ≤ w1.heap.size) := Lib.hid hb.size
  have HKf1 := Lib.hid hk
  replace HZ1 : Hid (w.heap.size < w1.heap.size) := Lib.hid (by omega)
  have HE1 := Lib.hid hz
  clear hb hk hz
  have ltf := lt_of_block HKf1.out
  obtain ⟨cf0, cf1, cf2, cf3, cf4, ff0, ff1, ff2, ff3, ff4⟩ := cell5 HKf1.out
  refine (isWord_yes _ _ HW.out).mono ?_
  rintro e w' ⟨rfl, hw⟩
  subst w'
  go_wp2_with fail
  refine (isClass_yes _ _ ⟨c0, c9⟩).mono ?_
  rintro e w' ⟨rfl, hw⟩
  subst w'
  go_wp2_with fail
  go_ret
  exact ⟨rfl, HB1.out⟩
set_option maxRecDepth 100000 in
set_option maxHeartbeats 1600000 in
theorem implIsPupil_n8 (id : Int) (name : ByteArray) (born cls lvl : Int) (w : World) (hs : name.size ≤ maxLen) (hw : isWord name) (i1 : 1 ≤ id) (i9 : id ≤ 999) (b0 : 1900 ≤ born) (b1 : born ≤ 2100) (c0 : 0 ≤ cls) (c9 : cls ≤ 9) (l0 : 0 ≤ lvl) (h : 10 < lvl) :
    Calls Try.prog 22 #[.agg #[.int .i64 id, .string name, .int .i64 born, .int .i64 cls, .int .i64 lvl]] w fun e w' => e = .returned (.bool false) ∧ Below w.heap.size w w' := by
  have HS := Lib.hid hs
  clear hs
  have HW := Lib.hid hw
  clear hw
  have HB0 : Hid (Below w.heap.size w w) := Lib.hid (Below.refl _ _)
  go_enter Try.func22, Try.ntmps22
  go_wp2_with fail
  have hb : Below w.heap.size w (w.alloc (.cells #[.int .i64 id, .string name, .int .i64 born, .int .i64 cls, .int .i64 lvl] 38)) := (Below.refl _ _).alloc (Nat.le_refl _) _
  have hk : (w.alloc (.cells #[.int .i64 id, .string name, .int .i64 born, .int .i64 cls, .int .i64 lvl] 38)).heap[w.heap.size]? = some (.cells #[.int .i64 id, .string name, .int .i64 born, .int .i64 cls, .int .i64 lvl] 38 (0, 0)) := alloc_at rfl
  have hz : (w.alloc (.cells #[.int .i64 id, .string name, .int .i64 born, .int .i64 cls, .int .i64 lvl] 38)).heap.size = w.heap.size + 1 := by simp
  generalize w.alloc (.cells #[.int .i64 id, .string name, .int .i64 born, .int .i64 cls, .int .i64 lvl] 38) = w1 at hb hk hz ⊢
  have HB1 : Hid (Below w.heap.size w w1) := Lib.hid (HB0.out.trans (hb.mono HB0.out.size))
  have HZ1 : Hid (w.heap.size ≤ w1.heap.size) := Lib.hid hb.size
  have HKf1 := Lib.hid hk
  replace HZ1 : Hid (w.heap.size < w1.heap.size) := Lib.hid (by omega)
  have HE1 := Lib.hid hz
  clear hb hk hz
  have ltf := lt_of_block HKf1.out
  obtain ⟨cf0, cf1, cf2, cf3, cf4, ff0, ff1, ff2, ff3, ff4⟩ := cell5 HKf1.out
  refine (isWord_yes _ _ HW.out).mono ?_
  rintro e w' ⟨rfl, hw⟩
  subst w'
  go_wp2_with fail
  refine (isClass_yes _ _ ⟨c0, c9⟩).mono ?_
  rintro e w' ⟨rfl, hw⟩
  subst w'
  go_wp2_with fail
  go_ret
  refine ⟨?_, HB1.out⟩
  show Ending.returned (.bool (decide (lvl ≤ 10))) = _
  exact ret_bool (decide_eq_false (by omega))
theorem implIsPupil_yes (p : Pu) (w : World) (hs : p.name.size ≤ maxLen) (h : okPu p) :
    Calls Try.prog 22 #[puV p] w fun e w' => e = .returned (.bool true) ∧ Below w.heap.size w w' :=
  implIsPupil_ok p.id p.name p.born p.cls p.lvl w hs h.2.1 h.1.1 h.1.2 h.2.2.1.1 h.2.2.1.2 h.2.2.2.1.1 h.2.2.2.1.2 h.2.2.2.2.1 h.2.2.2.2.2
theorem implIsPupil_no (p : Pu) (w : World) (hs : p.name.size ≤ maxLen) (h : ¬ okPu p) :
    Calls Try.prog 22 #[puV p] w fun e w' => e = .returned (.bool false) ∧ Below w.heap.size w w' := by
  by_cases i1 : p.id < 1
  · exact implIsPupil_n1 p.id p.name p.born p.cls p.lvl w hs i1
  by_cases i9 : 999 < p.id
  · exact implIsPupil_n2 p.id p.name p.born p.cls p.lvl w hs (by omega) i9
  by_cases hw : isWord p.name
  · by_cases b0 : p.born < 1900
    · exact implIsPupil_n4 p.id p.name p.born p.cls p.lvl w hs hw (by omega) (by omega) b0
    by_cases b1 : 2100 < p.born
    · exact implIsPupil_n5 p.id p.name p.born p.cls p.lvl w hs hw (by omega) (by omega) (by omega) b1
    by_cases hc : 0 ≤ p.cls ∧ p.cls ≤ 9
    · by_cases l0 : p.lvl < 0
      · exact implIsPupil_n7 p.id p.name p.born p.cls p.lvl w hs hw (by omega) (by omega) (by omega) (by omega) hc.1 hc.2 l0
      by_cases l1 : 10 < p.lvl
      · exact implIsPupil_n8 p.id p.name p.born p.cls p.lvl w hs hw (by omega) (by omega) (by omega) (by omega) hc.1 hc.2 (by omega) l1
      exact absurd ⟨⟨by omega, by omega⟩, hw, ⟨by omega, by omega⟩, hc, by omega, by omega⟩ h
    · exact implIsPupil_n6 p.id p.name p.born p.cls p.lvl w hs hw (by omega) (by omega) (by omega) (by omega) hc
  · exact implIsPupil_n3 p.id p.name p.born p.cls p.lvl w hs (by omega) (by omega) hw
end Go.Proofs.Ytlhcediejccieaa
