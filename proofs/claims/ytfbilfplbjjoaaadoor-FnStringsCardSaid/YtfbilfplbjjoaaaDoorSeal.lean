/- Sealing a text with its checksum: the reference model's functions and the program's, by contract. -/
import Derived.Test.YtfbilfplbjjoaaaDoorSumc
import Derived.Test.YtfbilfplbjjoaaaDoorStands
import Derived.Test.YtfbilfplbjjoaaaDoorFmtc
namespace Go.Proofs.YtfbilfplbjjoaaaDoor
set_option linter.unusedVariables false
open Go.RowKit

def sealF (s : ByteArray) : ByteArray := s ++ ⟨#[35]⟩ ++ ⟨(Lib.itoa (sumF s.data.toList)).toArray⟩

theorem itoa_len (n : Int) (h0 : 0 ≤ n) (h1 : n ≤ 999999) : (Lib.itoa n).length ≤ 6 := by
  rw [itoa_small n h0, Lib.decDigits_length]
  exact nDig_le 5 n.toNat (by omega)
theorem sum_len (s : ByteArray) : (Lib.itoa (sumF s.data.toList)).length ≤ 6 := by
  have := sumF_bd s.data.toList
  exact itoa_len _ (by omega) (by omega)
theorem sealF_size (s : ByteArray) : (sealF s).size = s.size + 1 + (Lib.itoa (sumF s.data.toList)).length := by
  rw [sealF, ByteArray.size_append, ByteArray.size_append, mk_size]; rfl
theorem sealF_le (s : ByteArray) : (sealF s).size ≤ s.size + 7 := by
  have := sum_len s; rw [sealF_size]; omega

set_option maxRecDepth 100000 in
set_option maxHeartbeats 400000 in
theorem l1Seal_any (s : ByteArray) (w : World) (h : s.size ≤ 4000) :
    Calls Tryd.prog 29 #[.string s] w fun e w' => e = .returned (.string (sealF s)) ∧ ∃ m, w' = w.drewN m := by
  have hd := sumF_bd s.data.toList
  have hl := sum_len s
  go_enter Tryd.func29, Tryd.ntmps29
  go_wp2_with (first
    | (go_at_call 36; refine (l1Sum_any s _ (by unfold maxLen; omega)).mono ?_; rintro e w' ⟨rfl, rfl⟩)
    | (go_at_call 20; refine (l1Num_any _ _ (by omega) (by omega)).mono ?_; rintro e w' ⟨rfl, m, rfl⟩))
  go_ret
  exact ⟨rfl, _, rfl⟩


theorem idx_mem {l : List UInt8} {c : UInt8} (h : c ∈ l) : 0 ≤ Lib.indexByte l c := by
  have h1 := Lib.indexByte_ge l c
  by_cases e : Lib.indexByte l c = -1
  · obtain ⟨k, hk, hc⟩ := List.getElem_of_mem h
    exact absurd (by rw [List.getElem?_eq_getElem hk, hc]) (Lib.indexByte_none e k)
  · omega
theorem idx_not {l : List UInt8} {c : UInt8} (h : c ∉ l) : ¬ 0 ≤ Lib.indexByte l c := by
  intro h0
  obtain ⟨o, ho⟩ := Int.eq_ofNat_of_zero_le h0
  have h1 := (Lib.indexByte_some ho).1
  exact h (List.mem_of_getElem? h1)
theorem contains_yes (s : ByteArray) (c : UInt8) (w : World) (h : c ∈ s.data.toList) :
    Calls Tryd.prog 27 #[.string s, .string ⟨#[c]⟩] w fun e w' => e = .returned (.bool true) ∧ w = w' :=
  (Tryd.strings_Contains_one s c w).mono fun _ _ ⟨he, hw⟩ => ⟨by rw [he, decide_eq_true (idx_mem h)], hw.symm⟩
theorem contains_no (s : ByteArray) (c : UInt8) (w : World) (h : c ∉ s.data.toList) :
    Calls Tryd.prog 27 #[.string s, .string ⟨#[c]⟩] w fun e w' => e = .returned (.bool false) ∧ w = w' :=
  (Tryd.strings_Contains_one s c w).mono fun _ _ ⟨he, hw⟩ => ⟨by rw [he, decide_eq_false (idx_not h)], hw.symm⟩

set_option maxRecDepth 100000 in
set_option maxHeartbeats 400000 in
theorem specAppend_long (s : ByteArray) (w : World) (hs : s.size ≤ maxLen) (h : 4000 < s.size) :
    Calls Tryd.prog 13 #[.string s] w fun e w' => e = .returned (.tuple #[.string ⟨#[]⟩, .bool false]) ∧ ∃ m, w' = w.drewN m := by
  unfold maxLen at hs
  go_enter Tryd.func13, Tryd.ntmps13
  go_wp2_with fail
  go_ret2
  exact ⟨rfl, 0, rfl⟩
set_option maxRecDepth 100000 in
set_option maxHeartbeats 400000 in
theorem specAppend_has (s : ByteArray) (w : World) (h : s.size ≤ 4000) (hn : (35 : UInt8) ∈ s.data.toList) :
    Calls Tryd.prog 13 #[.string s] w fun e w' => e = .returned (.tuple #[.string ⟨#[]⟩, .bool false]) ∧ ∃ m, w' = w.drewN m := by
  have H := Lib.hid hn
  clear hn
  go_enter Tryd.func13, Tryd.ntmps13
  go_wp2_with (go_at_call 28; refine (l1Stands_yes s 35 _ (by unfold maxLen; omega) H.out).mono ?_; rintro e w' ⟨rfl, rfl⟩)
  go_ret2
  exact ⟨rfl, 0, rfl⟩
set_option maxRecDepth 100000 in
set_option maxHeartbeats 400000 in
theorem specAppend_big (s : ByteArray) (w : World) (h : s.size ≤ 4000) (hn : (35 : UInt8) ∉ s.data.toList) (hq : 4000 < (sealF s).size) :
    Calls Tryd.prog 13 #[.string s] w fun e w' => e = .returned (.tuple #[.string ⟨#[]⟩, .bool false]) ∧ ∃ m, w' = w.drewN m := by
  have H := Lib.hid hn
  have hl := sealF_le s
  clear hn
  go_enter Tryd.func13, Tryd.ntmps13
  go_wp2_with (first
    | (go_at_call 28; refine (l1Stands_no s 35 _ (by unfold maxLen; omega) H.out).mono ?_; rintro e w' ⟨rfl, rfl⟩)
    | (go_at_call 29; refine (l1Seal_any s _ h).mono ?_; rintro e w' ⟨rfl, m, rfl⟩))
  go_ret2
  exact ⟨rfl, _, rfl⟩
set_option maxRecDepth 100000 in
set_option maxHeartbeats 400000 in
theorem specAppend_ok (s : ByteArray) (w : World) (h : s.size ≤ 4000) (hn : (35 : UInt8) ∉ s.data.toList) (hq : (sealF s).size ≤ 4000) :
    Calls Tryd.prog 13 #[.string s] w fun e w' => e = .returned (.tuple #[.string (sealF s), .bool true]) ∧ ∃ m, w' = w.drewN m := by
  have H := Lib.hid hn
  clear hn
  go_enter Tryd.func13, Tryd.ntmps13
  go_wp2_with (first
    | (go_at_call 28; refine (l1Stands_no s 35 _ (by unfold maxLen; omega) H.out).mono ?_; rintro e w' ⟨rfl, rfl⟩)
    | (go_at_call 29; refine (l1Seal_any s _ h).mono ?_; rintro e w' ⟨rfl, m, rfl⟩))
  go_ret2
  exact ⟨rfl, _, rfl⟩

set_option maxRecDepth 100000 in
set_option maxHeartbeats 400000 in
theorem implAppend_long (s : ByteArray) (w : World) (hs : s.size ≤ maxLen) (h : 4000 < s.size) :
    Calls Tryd.prog 12 #[.string s] w fun e w' => e = .returned (.tuple #[.string ⟨#[]⟩, .bool false]) ∧ Below w.heap.size w w' := by
  go_enter Tryd.func12, Tryd.ntmps12
  go_wp2_with (go_at_call 26; refine (implChecksum_out s _ hs h).mono ?_; rintro e w' ⟨rfl, rfl⟩)
  go_ret2
  exact ⟨rfl, Below.refl _ _⟩
set_option maxRecDepth 100000 in
set_option maxHeartbeats 400000 in
theorem implAppend_has (s : ByteArray) (w : World) (h : s.size ≤ 4000) (hn : (35 : UInt8) ∈ s.data.toList) :
    Calls Tryd.prog 12 #[.string s] w fun e w' => e = .returned (.tuple #[.string ⟨#[]⟩, .bool false]) ∧ Below w.heap.size w w' := by
  have H := Lib.hid hn
  clear hn
  go_enter Tryd.func12, Tryd.ntmps12
  go_wp2_with (first
    | (go_at_call 26; refine (implChecksum_in s _ h).mono ?_; rintro e w' ⟨rfl, rfl⟩)
    | (go_at_call 27; refine (contains_yes s 35 _ H.out).mono ?_; rintro e w' ⟨rfl, rfl⟩))
  go_ret2
  exact ⟨rfl, Below.refl _ _⟩
set_option maxRecDepth 100000 in
set_option maxHeartbeats 400000 in
theorem implAppend_big (s : ByteArray) (w : World) (h : s.size ≤ 4000) (hn : (35 : UInt8) ∉ s.data.toList) (hq : 4000 < (sealF s).size) (ht : Lib.TabIs Tryd.prog w "internal/strconv.uint64pow10" .u64 Lib.pow10Tab) :
    Calls Tryd.prog 12 #[.string s] w fun e w' => e = .returned (.tuple #[.string ⟨#[]⟩, .bool false]) ∧ Below w.heap.size w w' := by
  have H := Lib.hid hn
  have HT := Lib.hid ht
  clear hn ht
  have hd := sumF_bd s.data.toList
  have hl := sum_len s
  rw [sealF_size] at hq
  go_enter Tryd.func12, Tryd.ntmps12
  go_wp2_with (first
    | (go_at_call 26; refine (implChecksum_in s _ h).mono ?_; rintro e w' ⟨rfl, rfl⟩)
    | (go_at_call 27; refine (contains_no s 35 _ H.out).mono ?_; rintro e w' ⟨rfl, rfl⟩)
    | (go_at_call 6; refine (implFormatInt_in _ _ (by omega) (by omega) HT.out).mono ?_; rintro e w' ⟨rfl, hb⟩))
  go_ret2
  exact ⟨rfl, hb⟩
set_option maxRecDepth 100000 in
set_option maxHeartbeats 400000 in
theorem implAppend_ok (s : ByteArray) (w : World) (h : s.size ≤ 4000) (hn : (35 : UInt8) ∉ s.data.toList) (hq : (sealF s).size ≤ 4000) (ht : Lib.TabIs Tryd.prog w "internal/strconv.uint64pow10" .u64 Lib.pow10Tab) :
    Calls Tryd.prog 12 #[.string s] w fun e w' => e = .returned (.tuple #[.string (sealF s), .bool true]) ∧ Below w.heap.size w w' := by
  have H := Lib.hid hn
  have HT := Lib.hid ht
  clear hn ht
  have hd := sumF_bd s.data.toList
  have hl := sum_len s
  rw [sealF_size] at hq
  go_enter Tryd.func12, Tryd.ntmps12
  go_wp2_with (first
    | (go_at_call 26; refine (implChecksum_in s _ h).mono ?_; rintro e w' ⟨rfl, rfl⟩)
    | (go_at_call 27; refine (contains_no s 35 _ H.out).mono ?_; rintro e w' ⟨rfl, rfl⟩)
    | (go_at_call 6; refine (implFormatInt_in _ _ (by omega) (by omega) HT.out).mono ?_; rintro e w' ⟨rfl, hb⟩))
  go_ret2
  exact ⟨rfl, hb⟩

end Go.Proofs.YtfbilfplbjjoaaaDoor
