/- The law on VerifyChecksum returns true: the reference model and the program give back the text ahead of the mark exactly if sealing it gives the argument. -/
import Derived.Test.YtfbilfplbjjoaaaDoorSeal
import Derived.Test.YtfbilfplbjjoaaaDoorCut
namespace Go.Proofs.YtfbilfplbjjoaaaDoor
set_option linter.unusedVariables false
open Go.RowKit

theorem ownsRow_head {w : World} {B : Nat} {e : TypeId} {v x : Value} {xs : List Value} (h : w.ownsRow B e 1 v (xs.length + 1) (x :: xs)) :
    ∃ g cap, v = .slice (some ⟨g, 0, none⟩) (xs.length + 1) cap ∧ w.cell? ⟨g, 0, none⟩ = some x ∧ B ≤ g := by
  obtain ⟨g, cap, cur, rfl, hb, hg, hn, _⟩ : ∃ g cap cur, v = .slice (some ⟨g, 0, none⟩) (xs.length + 1) cap ∧ B ≤ g ∧ w.heap[g]? = some (.cells cur e (0, 0)) ∧ xs.length + 1 ≤ cap ∧ True := by
    rcases h.2 with ⟨_, h0⟩ | ⟨g, cap, cur, h1, h2, h3, h4, _⟩
    · omega
    · exact ⟨g, cap, cur, h1, h2, h3, h4, trivial⟩
  exact ⟨g, cap, rfl, h.cells rfl 0 x rfl, hb⟩

theorem bneT {a b : ByteArray} (h : a ≠ b) : (!a.toList == b.toList) = true := by
  rw [Bool.not_eq_true', beq_eq_false_iff_ne]
  intro e
  exact h (by rw [ByteArray.toList_eq, ByteArray.toList_eq] at e; exact ByteArray.ext (Array.ext' e))
theorem bneF {a b : ByteArray} (h : a = b) : (!a.toList == b.toList) = false := by subst h; simp

theorem head35 (s : ByteArray) : (35 : UInt8) ∉ (headB s 35).data.toList := by
  unfold headB; simpa using head_not s.data.toList 35

set_option maxRecDepth 100000 in
set_option maxHeartbeats 400000 in
theorem implVerify_long (s : ByteArray) (w : World) (hs : s.size ≤ maxLen) (h : 4000 < (headB s 35).size) :
    Calls Tryd.prog 14 #[.string s] w fun e w' => e = .returned (.tuple #[.string ⟨#[]⟩, .bool false]) ∧ Below w.heap.size w w' := by
  have hsz := headB_size s 35
  go_enter Tryd.func14, Tryd.ntmps14
  go_wp2_with fail
  refine (cut_one s 35 _ hs).mono ?_
  rintro e w1 ⟨⟨a, b, rfl⟩, m, rfl⟩
  go_wp2_with fail
  refine (implAppend_long (headB s 35) _ (by omega) h).mono ?_
  rintro e w2 ⟨rfl, hb⟩
  go_wp2_with fail
  go_ret2
  exact ⟨rfl, (bl_drewN (Below.refl _ _) _).trans hb⟩
set_option maxRecDepth 100000 in
set_option maxHeartbeats 400000 in
theorem implVerify_big (s : ByteArray) (w : World) (hs : s.size ≤ maxLen) (h : (headB s 35).size ≤ 4000) (hq : 4000 < (sealF (headB s 35)).size) (ht : Lib.TabIs Tryd.prog w "internal/strconv.uint64pow10" .u64 Lib.pow10Tab) :
    Calls Tryd.prog 14 #[.string s] w fun e w' => e = .returned (.tuple #[.string ⟨#[]⟩, .bool false]) ∧ Below w.heap.size w w' := by
  have HT := Lib.hid ht
  clear ht
  go_enter Tryd.func14, Tryd.ntmps14
  go_wp2_with fail
  refine (cut_one s 35 _ hs).mono ?_
  rintro e w1 ⟨⟨a, b, rfl⟩, m, rfl⟩
  go_wp2_with fail
  refine (implAppend_big (headB s 35) _ h (head35 s) hq (tab_below HT.out (bl_drewN (Below.refl _ _) _))).mono ?_
  rintro e w2 ⟨rfl, hb⟩
  go_wp2_with fail
  go_ret2
  exact ⟨rfl, (bl_drewN (Below.refl _ _) _).trans hb⟩
set_option maxRecDepth 100000 in
set_option maxHeartbeats 400000 in
theorem implVerify_no (s : ByteArray) (w : World) (hs : s.size ≤ maxLen) (h : (headB s 35).size ≤ 4000) (hq : (sealF (headB s 35)).size ≤ 4000) (hn : sealF (headB s 35) ≠ s) (ht : Lib.TabIs Tryd.prog w "internal/strconv.uint64pow10" .u64 Lib.pow10Tab) :
    Calls Tryd.prog 14 #[.string s] w fun e w' => e = .returned (.tuple #[.string ⟨#[]⟩, .bool false]) ∧ Below w.heap.size w w' := by
  have HT := Lib.hid ht
  have hne := bneT hn
  clear ht hn
  go_enter Tryd.func14, Tryd.ntmps14
  go_wp2_with fail
  refine (cut_one s 35 _ hs).mono ?_
  rintro e w1 ⟨⟨a, b, rfl⟩, m, rfl⟩
  go_wp2_with fail
  refine (implAppend_ok (headB s 35) _ h (head35 s) hq (tab_below HT.out (bl_drewN (Below.refl _ _) _))).mono ?_
  rintro e w2 ⟨rfl, hb⟩
  go_wp2_with fail
  go_ret2
  exact ⟨rfl, (bl_drewN (Below.refl _ _) _).trans hb⟩
set_option maxRecDepth 100000 in
set_option maxHeartbeats 400000 in
theorem implVerify_yes (s : ByteArray) (w : World) (hs : s.size ≤ maxLen) (h : (headB s 35).size ≤ 4000) (hq : (sealF (headB s 35)).size ≤ 4000) (hn : sealF (headB s 35) = s) (ht : Lib.TabIs Tryd.prog w "internal/strconv.uint64pow10" .u64 Lib.pow10Tab) :
    Calls Tryd.prog 14 #[.string s] w fun e w' => e = .returned (.tuple #[.string (headB s 35), .bool true]) ∧ Below w.heap.size w w' := by
  have HT := Lib.hid ht
  have hne := bneF hn
  clear ht hn
  go_enter Tryd.func14, Tryd.ntmps14
  go_wp2_with fail
  refine (cut_one s 35 _ hs).mono ?_
  rintro e w1 ⟨⟨a, b, rfl⟩, m, rfl⟩
  go_wp2_with fail
  refine (implAppend_ok (headB s 35) _ h (head35 s) hq (tab_below HT.out (bl_drewN (Below.refl _ _) _))).mono ?_
  rintro e w2 ⟨rfl, hb⟩
  go_wp2_with fail
  go_ret2
  exact ⟨rfl, (bl_drewN (Below.refl _ _) _).trans hb⟩

/-- The program's answer where sealing the head does not give the argument. -/
theorem implVerify_fail (s : ByteArray) (w : World) (hs : s.size ≤ maxLen) (hn : sealF (headB s 35) ≠ s) (ht : Lib.TabIs Tryd.prog w "internal/strconv.uint64pow10" .u64 Lib.pow10Tab) :
    Calls Tryd.prog 14 #[.string s] w fun e w' => e = .returned (.tuple #[.string ⟨#[]⟩, .bool false]) ∧ Below w.heap.size w w' := by
  by_cases h : (headB s 35).size ≤ 4000
  · by_cases hq : (sealF (headB s 35)).size ≤ 4000
    · exact implVerify_no s w hs h hq hn ht
    · exact implVerify_big s w hs h (by omega) ht
  · exact implVerify_long s w hs (by omega)

theorem implVerify_over (s : ByteArray) (w : World) (hs : s.size ≤ maxLen) (hl : 4000 < s.size) (ht : Lib.TabIs Tryd.prog w "internal/strconv.uint64pow10" .u64 Lib.pow10Tab) :
    Calls Tryd.prog 14 #[.string s] w fun e w' => e = .returned (.tuple #[.string ⟨#[]⟩, .bool false]) ∧ Below w.heap.size w w' := by
  by_cases h : (headB s 35).size ≤ 4000
  · by_cases hq : (sealF (headB s 35)).size ≤ 4000
    · exact implVerify_no s w hs h hq (fun e => by rw [e] at hq; omega) ht
    · exact implVerify_big s w hs h (by omega) ht
  · exact implVerify_long s w hs (by omega)

end Go.Proofs.YtfbilfplbjjoaaaDoor
