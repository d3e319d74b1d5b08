/- The text ahead of the first separating byte: the library's Cut at one byte, and the first piece of a split. -/
import Derived.Test.YtfbilfplbjjoaaaDoorSplit
import Derived.Test.YtfbilfplbjjoaaaDoorShelf
import Derived.Lib.IndexLaws
import Derived.Lib.IndexBytes
import Derived.RegionTactic
namespace Go.Proofs.YtfbilfplbjjoaaaDoor
set_option linter.unusedVariables false
open Go.RowKit

/-- The text ahead of the first byte c, or all of it. -/
def headB (s : ByteArray) (c : UInt8) : ByteArray := ⟨((spl c s.data.toList).headD []).toArray⟩
theorem head_none {L : List UInt8} {c : UInt8} (h : Lib.indexByte L c = -1) : (spl c L).headD [] = L := by
  have hn : c ∉ L := by
    intro hm
    obtain ⟨k, hk, hc⟩ := List.getElem_of_mem hm
    exact absurd (by rw [List.getElem?_eq_getElem hk, hc]) (Lib.indexByte_none h k)
  rw [spl_none c L hn]; rfl
theorem head_hit {L : List UInt8} {c : UInt8} {i : Nat} (h : Lib.indexByte L c = i) : (spl c L).headD [] = L.take i ∧ i < L.length := by
  obtain ⟨h1, h2⟩ := Lib.indexByte_some h
  obtain ⟨hi, he⟩ := List.getElem?_eq_some_iff.1 h1
  refine ⟨?_, hi⟩
  have e : L = L.take i ++ c :: L.drop (i + 1) := by
    conv => lhs; rw [← List.take_append_drop i L]
    rw [List.drop_eq_getElem_cons hi, he]
  have hn : c ∉ L.take i := by
    intro hm
    obtain ⟨k, hk, hc⟩ := List.getElem_of_mem hm
    have hk' : k < i := by rw [List.length_take] at hk; omega
    refine h2 k hk' ?_
    rw [List.getElem_take] at hc
    rw [List.getElem?_eq_getElem (by omega), hc]
  conv => lhs; rw [e]
  rw [spl_hit c _ _ hn]; rfl
theorem head_not (L : List UInt8) (c : UInt8) : c ∉ (spl c L).headD [] := by
  cases h : Lib.indexByte L c with
  | ofNat i =>
    have h' : Lib.indexByte L c = (i : Int) := h
    obtain ⟨_, h2⟩ := Lib.indexByte_some h'
    obtain ⟨e, hi⟩ := head_hit h'
    rw [e]
    intro hm
    obtain ⟨k, hk, hc⟩ := List.getElem_of_mem hm
    have hk' : k < i := by rw [List.length_take] at hk; omega
    refine h2 k hk' ?_
    rw [List.getElem_take] at hc
    rw [List.getElem?_eq_getElem (by omega), hc]
  | negSucc n =>
    have h1 := Lib.indexByte_ge L c
    have h' : Lib.indexByte L c = -1 := by rw [h] at h1 ⊢; omega
    rw [head_none h']
    intro hm
    obtain ⟨k, hk, hc⟩ := List.getElem_of_mem hm
    exact absurd (by rw [List.getElem?_eq_getElem hk, hc]) (Lib.indexByte_none h' k)
theorem head_len (L : List UInt8) (c : UInt8) : ((spl c L).headD []).length ≤ L.length := by
  cases h : Lib.indexByte L c with
  | ofNat i =>
    obtain ⟨e, hi⟩ := head_hit (show Lib.indexByte L c = (i : Int) from h)
    rw [e, List.length_take]; omega
  | negSucc n =>
    have h1 := Lib.indexByte_ge L c
    have h' : Lib.indexByte L c = -1 := by rw [h] at h1 ⊢; omega
    rw [head_none h']; exact Nat.le_refl _
theorem headB_size (s : ByteArray) (c : UInt8) : (headB s c).size ≤ s.size := by
  have := head_len s.data.toList c
  rw [Array.length_toList] at this
  show (List.toArray _).size ≤ s.data.size
  rw [List.size_toArray]; exact this

set_option maxRecDepth 100000 in
set_option maxHeartbeats 400000 in
theorem slCut_one (s : ByteArray) (c : UInt8) (w : World) (hs : s.size ≤ maxLen) :
    Calls Tryd.prog 37 #[.string s, .string ⟨#[c]⟩] w fun e w' => (∃ a b, e = .returned (.tuple #[.string (headB s c), .string a, .bool b])) ∧ ∃ m, w' = w.drewN m := by
  unfold maxLen at hs
  have hL : s.data.toList.length = s.size := by simp
  cases h : Lib.indexByte s.data.toList c with
  | negSucc n =>
    have h1 := Lib.indexByte_ge s.data.toList c
    have h' : Lib.indexByte s.data.toList c = -1 := by rw [h] at h1 ⊢; omega
    have e : Hid (s = headB s c) := Lib.hid (by unfold headB; rw [head_none h'])
    have HI := Lib.hid h'
    clear h h' h1
    go_enter Tryd.func37, Tryd.ntmps37
    go_wp2_with (go_at_call 44; refine (Tryd.stringslite_Index_one s c _).mono ?_; rintro e w' ⟨rfl, rfl⟩; rw [HI.out])
    go_ret3
    exact ⟨⟨_, _, by rw [← e.out]; rfl⟩, 0, rfl⟩
  | ofNat i =>
    have h' : Lib.indexByte s.data.toList c = (i : Int) := h
    obtain ⟨e0, hi⟩ := head_hit h'
    have e : Hid (s.extract 0 i = headB s c) := Lib.hid (by
      unfold headB; rw [e0]; apply ByteArray.ext; apply Array.ext'; simp)
    have HI := Lib.hid h'
    clear h h' e0
    have c1 : (0 : Int) ≤ ↑i := by omega
    have c2 : (↑i : Int) ≤ ↑s.size := by omega
    have c3 : (0 : Int) ≤ ↑i + 1 := by omega
    have c4 : (↑i + 1 : Int) ≤ ↑s.size := by omega
    go_enter Tryd.func37, Tryd.ntmps37
    go_wp2_with (go_at_call 44; refine (Tryd.stringslite_Index_one s c _).mono ?_; rintro e w' ⟨rfl, rfl⟩; rw [HI.out])
    go_region
    go_wp2
    go_ret3
    exact ⟨⟨_, _, by rw [← e.out]; rfl⟩, 1, rfl⟩
set_option maxRecDepth 100000 in
set_option maxHeartbeats 400000 in
theorem cut_one (s : ByteArray) (c : UInt8) (w : World) (hs : s.size ≤ maxLen) :
    Calls Tryd.prog 30 #[.string s, .string ⟨#[c]⟩] w fun e w' => (∃ a b, e = .returned (.tuple #[.string (headB s c), .string a, .bool b])) ∧ ∃ m, w' = w.drewN m := by
  go_enter Tryd.func30, Tryd.ntmps30
  go_wp2_with (go_at_call 37; refine (slCut_one s c _ hs).mono ?_; rintro e w' ⟨⟨a, b, rfl⟩, m, rfl⟩)
  go_ret3
  exact ⟨⟨_, _, rfl⟩, _, rfl⟩
end Go.Proofs.YtfbilfplbjjoaaaDoor
